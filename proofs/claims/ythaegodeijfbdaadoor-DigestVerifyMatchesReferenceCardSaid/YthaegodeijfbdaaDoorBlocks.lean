/- The function that blocks returns hands all blocks of the parts on, with the padding, in their order. Conditions: the parts are read, and are not longer than 2^60 bytes. -/
import Derived.Shelf.Abstract
import Derived.OwnWalkIn
import Derived.TacticsInMore
import Derived.LoopNIn
import Derived.LoopIn
import Derived.Maps.AppendAt
import Derived.WalkMore
import Derived.Test.YthaegodeijfbdaaDoorPutLen
namespace Go.Proofs.YthaegodeijfbdaaDoor
open Go.RowKit Go.Shelf Go.Lib

attribute [local go_sem] Oper.semAt_some

/-- All bytes of the parts. -/
def bytesOf (L : List ByteArray) : List UInt8 := (L.map fun s => s.data.toList).flatten
/-- A block as yield takes it. -/
abbrev encb (x : List UInt8) : Array Value := #[.agg (x.map bv).toArray]

/-- copy from a string into a block that is known whole: k bytes. -/
theorem run_copy_str {P : Program} (w : World) (dT sT ty e : TypeId) (g o n c k : Nat) (s : ByteArray) (cur : Array Value) (t : TypeId)
    (hu : P.underlying dT = some (.slice e)) (hz : ∀ w, (Go.sizeOf e).run P w = .ok 1 w) (hg : Blk w g t cur) (hfit : o + n ≤ cur.size) (hk : k = min s.size n) :
    (Builtin.copy_ #[dT, sT] ty #[.slice (some ⟨g, o, none⟩) n c, .string s]).run P w =
      .ok (.int .i64 (k : Nat)) (w.setRow g (cur.toList.take o ++ (s.data.toList.take k).map bv ++ cur.toList.drop (o + k)).toArray) := by
  have hl : ((s.data.toList.take k).map bv).length = k := by
    rw [List.length_map, List.length_take]; have : s.data.toList.length = s.size := rfl; omega
  have hst := run_storeCells_at (P := P) g o t ((s.data.toList.take k).map bv) 0 cur w hg (by rw [hl]; omega) (by
    intro v hv
    obtain ⟨x, _, rfl⟩ := List.mem_map.1 hv
    rfl)
  rw [hl] at hst
  simp only [Nat.add_zero] at hst
  obtain ⟨R, hR⟩ : ∃ R, R = w.setRow g (cur.toList.take o ++ (s.data.toList.take k).map bv ++ cur.toList.drop (o + k)).toArray := ⟨_, rfl⟩
  rw [← hR] at hst ⊢
  have hm : Nat.min s.size n = k := hk.symm
  simp [Builtin.copy_, run_underlying hu, Builtin.lenOf, Builtin.firstCells, hz, hm]
  rw [show (List.map (fun x => Value.int .u8 (x.toNat : Int)) s.data.toList).take k = (s.data.toList.take k).map bv from by rw [← List.map_take]; rfl, hst]
  rfl
/-- clear of a part of a block that is known whole. -/
theorem run_clear_row {P : Program} (w : World) (t e ty : TypeId) (z : Value) (ht : P.underlying t = some (.slice e)) (hv : ∀ w, (zeroValue e).run P w = .ok z w) (hz : z.cells = #[z]) (h1 : z.oneCell' = true)
    (g o n c : Nat) (cur : Array Value) (t' : TypeId) (hg : Blk w g t' cur) (hn : 0 < n) (hfit : o + n ≤ cur.size) :
    (Builtin.clear_ #[t] ty #[.slice (some ⟨g, o, none⟩) n c]).run P w = .ok (.tuple #[]) (w.setRow g (cur.toList.take o ++ List.replicate n z ++ cur.toList.drop (o + n)).toArray) := by
  have hzc : (Builtin.zeroCells z.cells n).toList = List.replicate n z := by
    rw [hz]
    simp [Builtin.zeroCells]
    apply List.ext_getElem
    · simp
    · intro i h1 h2
      simp [Nat.mod_one]
  have hst := run_storeCells_at (P := P) g o t' (List.replicate n z) 0 cur w hg (by simpa using hfit) (by intro v hv'; rw [List.eq_of_mem_replicate hv']; exact h1)
  simp only [Nat.add_zero, List.length_replicate] at hst
  obtain ⟨m, rfl⟩ : ∃ m, n = m + 1 := ⟨n - 1, by omega⟩
  obtain ⟨R, hR⟩ : ∃ R, R = w.setRow g (cur.toList.take o ++ List.replicate (m + 1) z ++ cur.toList.drop (o + (m + 1))).toArray := ⟨_, rfl⟩
  rw [← hR] at hst ⊢
  simp [Builtin.clear_, run_underlying ht, hv, hzc, hst]
theorem run_clear_none {P : Program} (w : World) (t ty : TypeId) (A : Option Addr) (c : Nat) (d : TypeDesc) (ht : P.underlying t = some d) : (Builtin.clear_ #[t] ty #[.slice A 0 c]).run P w = .ok (.tuple #[]) w := by
  cases A <;> cases d <;> simp [Builtin.clear_, run_underlying ht]

/-- What lies behind the first bytes stays behind them. -/
theorem row_copy (r q x : List UInt8) (_h : x.length ≤ q.length) : ((r ++ q).map bv).take r.length ++ x.map bv ++ ((r ++ q).map bv).drop (r.length + x.length) = (r ++ x ++ q.drop x.length).map bv := by
  simp [List.drop_append, List.map_append, ← List.map_drop, List.drop_eq_nil_of_le]

/-- A scope through which the run goes without a jump, in a fence. -/
theorem scope_in {n : Nat} {P : Program} {c : Code} {Q : Exit → Act → World → Prop} {a : Act} {w : World} (h : c.wpIn Fence.wide n P (Exit.noGoto Q) a w) : (Code.scope c).wpIn Fence.wide n P Q a w :=
  wpIn_wide.2 (wp_scope_straight (wpIn_wide.1 h))
/-- A whole block loaded, and stored, in a fence. -/
theorem wpListIn_load_blk {F : Fence} {n : Nat} {P : Program} {w : World} {ops : Array Oper} {rest : List Oper} {o : Oper} {a : Act} {Q : Exit → Act → World → Prop}
    (hgd : o.guard = none) (ty : TypeId) (x : Operand) (ho : o.op = .load ty x) (g : Nat) (hx : a.eval x = .pointer (some ⟨g, 0, none⟩)) (t : TypeId) (cs : Array Value) (d : TypeDesc) (hg : Blk w g t cs)
    (hu : P.underlying ty = some d) (hd : (match d with | .struct _ | .array _ _ => true | _ => false) = true) (hi : (P.info? ty).map (·.size) = some cs.size)
    (h : wpListIn F n P ops Q rest (a.put o.dst (.agg cs)) w) : wpListIn F n P ops Q (o :: rest) a w := by
  refine wpListIn_plain hgd fun K hK => ?_
  unfold Oper.wpIn
  refine ⟨?_, ?_⟩
  · simp [Oper.about, ho]
  · rw [Oper.semAt_plain F _ _ (by rw [ho]; intro c hc; cases hc)]
    simp [execOp, ho, hx, Instr.loadAt, Instr.sureAddr, run_loadVar_row w g t ty cs (0, 0) d hg hu hd hi, Result.andThen]
    exact hK _ _ h
theorem wpListIn_store_blk {F : Fence} {n : Nat} {P : Program} {w : World} {ops : Array Oper} {rest : List Oper} {o : Oper} {a : Act} {Q : Exit → Act → World → Prop}
    (hgd : o.guard = none) (ty : TypeId) (x y : Operand) (ho : o.op = .store ty x y) (g : Nat) (cells : Array Value) (hx : a.eval x = .pointer (some ⟨g, 0, none⟩)) (hy : a.eval y = .agg cells)
    (t : TypeId) (old : Array Value) (hg : Blk w g t old) (hi : (P.info? ty).map (·.size) = some cells.size) (hold : old.size = cells.size) (h1 : cells.all (·.oneCell') = true)
    (h : wpListIn F n P ops Q rest (a.put o.dst undef) (w.setRow g cells)) : wpListIn F n P ops Q (o :: rest) a w := by
  refine wpListIn_plain hgd fun K hK => ?_
  unfold Oper.wpIn
  refine ⟨?_, ?_⟩
  · simp [Oper.about, ho]
  · rw [Oper.semAt_plain F _ _ (by rw [ho]; intro c hc; cases hc)]
    simp [execOp, ho, hx, hy, Instr.storeAt, Instr.sureAddr, run_storeVar_row w g t ty old cells hg hi hold h1, Result.andThen]
    exact hK _ _ h

theorem bytesOf_succ {L : List ByteArray} {k : Nat} (h : k < L.length) : bytesOf (L.take (k + 1)) = bytesOf (L.take k) ++ L[k].data.toList := by
  unfold bytesOf
  rw [List.take_succ_eq_append_getElem h, List.map_append, List.flatten_append]; simp
theorem bytesOf_split (L : List ByteArray) (k : Nat) : bytesOf L = bytesOf (L.take k) ++ bytesOf (L.drop k) := by
  unfold bytesOf
  rw [← List.flatten_append, ← List.map_append, List.take_append_drop]
theorem bytesOf_take_le (L : List ByteArray) (k : Nat) : (bytesOf (L.take k)).length ≤ (bytesOf L).length := by rw [bytesOf_split L k, List.length_append]; omega
theorem str_length (s : ByteArray) : s.data.toList.length = s.size := rfl

theorem row_clear (r q : List UInt8) {u : Nat} (h1 : u = r.length) (h2 : q.length = 64 - u) (h3 : u < 63) :
    ((((r ++ 128 :: q.drop 1).map bv).toArray).toList.take (u + 1) ++ List.replicate (63 - u) (Value.int .u8 0) ++ (((r ++ 128 :: q.drop 1).map bv).toArray).toList.drop (u + 1 + (63 - u))).toArray = ((r ++ 128 :: List.replicate (63 - u) 0).map bv).toArray := by
  congr 1
  subst h1
  have e1 : (((r ++ 128 :: q.drop 1).map bv).toArray).toList = (r.map bv ++ [bv 128]) ++ (q.drop 1).map bv := by simp
  have e2 : (r.map bv ++ [bv 128]).length = r.length + 1 := by simp
  rw [e1, List.take_append_of_le_length (by omega), List.take_of_length_le (by omega), List.drop_of_length_le (by simp; omega), List.append_nil]
  simp [bv]

theorem tail_take (r : List UInt8) {u : Nat} (h1 : u = r.length) (h2 : u < 56) (b : List UInt8) : (r ++ 128 :: List.replicate (63 - u) 0).take 56 ++ b = r ++ 128 :: (List.replicate (55 - r.length) 0 ++ b) := by
  subst h1
  rw [List.take_append, List.take_of_length_le (by omega), show 56 - r.length = (55 - r.length) + 1 from by omega, List.take_succ_cons, List.take_replicate, Nat.min_eq_left (by omega)]
  simp

theorem blk_new {w : World} {t : TypeId} {Z cs : Array Value} (h : Z = cs) : Blk (w.alloc (.cells Z t)) w.heap.size t cs := by rw [← h]; exact Blk.new w t Z

theorem size8 : ∀ w, (Go.sizeOf 5).run Tryd.prog w = .ok 1 w := fun _ => by kernel_rfl
theorem zero8 : ∀ w, (zeroValue 5).run Tryd.prog w = .ok (.int .u8 0) w := fun _ => by kernel_rfl
theorem infoB : (Tryd.prog.info? 56).map (·.size) = some 64 := by kernel_rfl
theorem slice_block (w : World) (g u : Nat) (hu : u < 64) :
    (Instr.sliceAt 56 (.pointer (some ⟨g, 0, none⟩)) (some (.int .i64 (u : Nat))) none none).run Tryd.prog w = .ok (.slice (some ⟨g, u, none⟩) (64 - u) (64 - u)) w := by
  have h1 : (u : Int) ≤ 64 := by omega
  have h2 : ¬ 64 = u := by omega
  have h3 : (⟨g, 0, none⟩ : Addr).add u = ⟨g, u, none⟩ := by unfold Addr.add; split <;> simp_all
  simp [Instr.sliceAt, Instr.sureAddr, run_underlying Tryd.underlying56, Instr.sliceBounds, run_sliceBound, h1, h2, h3]
theorem slice_block_end (w : World) (g : Nat) :
    (Instr.sliceAt 56 (.pointer (some ⟨g, 0, none⟩)) (some (.int .i64 64)) none none).run Tryd.prog w = .ok (.slice (some ⟨g, 0, none⟩) 0 0) w := by
  simp [Instr.sliceAt, Instr.sureAddr, run_underlying Tryd.underlying56, Instr.sliceBounds, run_sliceBound]
/-- The number of bytes of a string in a slot. -/
def strOf : Value → Nat | .string s => s.size | _ => 0

set_option maxRecDepth 100000 in
set_option maxHeartbeats 2000000 in
theorem blocks1_in (l Bp pb po m c X : Nat) (L : List ByteArray) (J : List (List UInt8) → World → Prop) (w : World)
    (hX : X < w.heap.size) (hpX : pb ≠ X) (hp : pb < w.heap.size) (hBp : Bp < w.heap.size) (hm : m = L.length) (hm2 : m ≤ 1000) (hsz : (bytesOf L).length ≤ 1152921504606846976)
    (hY : ∀ pre x rest W1, blocksOf (bytesOf L) = pre ++ x :: rest → J pre W1 → YieldAt Fence.wide 3 Tryd.prog l (encb x) W1 fun e W' => e = .returned (.bool true) ∧ J (pre ++ [x]) W' ∧ CellsBut X W1 W')
    (hJ : Past w.heap.size J) (h0 : J [] w) (hc : w.cell? ⟨Bp, 0, none⟩ = some (.slice (some ⟨pb, po, none⟩) m c))
    (hL : ∀ i (h : i < L.length), w.cell? ⟨pb, po + i, none⟩ = some (.string L[i])) :
    CallsIn Fence.wide 4 Tryd.prog 49 #[.func (.yield l) #[] #[], .pointer (some ⟨Bp, 0, none⟩)] w fun e W' => (∃ v, e = .returned v) ∧ J (blocksOf (bytesOf L)) W' := by
  have hro : Fence.wide.round = none := rfl
  have HY := Lib.hid hY; have HL := Lib.hid hL; have HJ := Lib.hid hJ; have HM := Lib.hid hm; clear hY hL hJ hm
  refine callsIn_of_wp Tryd.func49 rfl trivial ?_ hro
  simp only [Tryd.ntmps49, List.size_toArray, List.length_cons, List.length_nil, Nat.reduceAdd, Nat.reduceSub, Array.replicate_succ, Array.replicate_zero, List.push_toArray, List.append_toArray, List.nil_append, List.cons_append]
  refine scope_in ?_
  gi_wp2
  apply wpIn_label
  gi_wp2
  gi_loopw [4, 5, 7, 8, 11] (fun vu vl _ _ vi wr => ∃ (k u tot : Nat) (pre : List (List UInt8)) (r q : List UInt8), vi = .int .i64 k ∧ k ≤ m ∧ vu = .int .i64 u ∧ u < 64 ∧ vl = .int .i64 tot ∧ tot ≤ 1152921504606846976 ∧
      Hid (u = r.length ∧ (r ++ q).length = 64 ∧ bytesOf (L.take k) = pre.flatten ++ r ∧ (∀ b ∈ pre, b.length = 64) ∧ tot = (bytesOf (L.take k)).length) ∧
      Blk wr w.heap.size 56 ((r ++ q).map bv).toArray ∧ Hid (J pre wr) ∧ Hid (∀ i (h : i < L.length), wr.cell? ⟨pb, po + i, none⟩ = some (.string L[i])))
    (fun _ _ _ _ vi _ => m - (intOf vi).toNat)
  case atStart =>
    refine ⟨0, 0, 0, [], [], List.replicate 64 0, rfl, by omega, rfl, by omega, rfl, by omega, ⟨rfl, rfl, rfl, fun b hb => by simp at hb, rfl⟩, blk_new rfl, ?_, ?_⟩
    · exact HJ.out _ _ _ none h0 (World.grownBy_alloc w _ none) (fun r' e => by cases e)
    · exact fun i h => (World.cell?_alloc_lt w _ ⟨pb, po + i, none⟩ hp).trans (HL.out i h)
  case round =>
    obtain ⟨k, u, tot, pre, r, q, rfl, hk, rfl, hu, rfl, htot, HR, hB, HJJ, HL2⟩ := hrel
    by_cases hlt : k < m
    · have c0 := HL2.out k (by have := HM.out; omega)
      obtain ⟨s0, hs⟩ : ∃ s, s = L[k]'(by have := HM.out; omega) := ⟨_, rfl⟩
      rw [← hs] at c0
      have hss0 : tot + s0.size ≤ 1152921504606846976 := by
        have h1 := bytesOf_take_le L (k + 1)
        rw [bytesOf_succ (by have := HM.out; omega), List.length_append, ← hs, str_length, ← HR.out.2.2.2.2] at h1
        omega
      have HS := Lib.hid hs; clear hs
      have HT : Hid (tot = (bytesOf (L.take k)).length) := HR.out.2.2.2.2
      have q1 : (0 : Int) ≤ (k : Int) := by omega
      have q2 : (k : Int) < (m : Int) := by omega
      gi_wp2
      gi_loopw [4, 7, 8] (fun vu vs _ wr => ∃ (u : Nat) (s : ByteArray) (pre : List (List UInt8)) (r q : List UInt8), vu = .int .i64 u ∧ u < 64 ∧ vs = .string s ∧ s.size ≤ 1152921504606846976 ∧
          Hid (u = r.length ∧ (r ++ q).length = 64 ∧ bytesOf (L.take (k + 1)) = pre.flatten ++ (r ++ s.data.toList) ∧ (∀ b ∈ pre, b.length = 64)) ∧
          Blk wr w.heap.size 56 ((r ++ q).map bv).toArray ∧ Hid (J pre wr) ∧ Hid (∀ i (h : i < L.length), wr.cell? ⟨pb, po + i, none⟩ = some (.string L[i])))
        (fun _ vs _ _ => strOf vs)
      case atStart =>
        obtain ⟨e1, e2, e3, e4, -⟩ := HR.out
        exact ⟨u, s0, pre, r, q, rfl, hu, rfl, by omega, ⟨e1, e2, by rw [bytesOf_succ (by have := HM.out; omega), ← HS.out, e3, List.append_assoc], e4⟩, hB, HJJ, HL2⟩
      case round =>
        clear HR hB HJJ HL2 c0
        obtain ⟨u, s, pre, r, q, rfl, hu, rfl, hss, HR, hB, HJJ, HL2⟩ := hrel
        obtain ⟨n, hn⟩ : ∃ n, n = min s.size (64 - u) := ⟨_, rfl⟩
        have hsl := slice_block wr w.heap.size u hu
        have hcp := fun ty => run_copy_str wr 40 9 ty 5 w.heap.size u (64 - u) (64 - u) n s _ 56 Tryd.underlying40 size8 hB (by have := HR.out.2.1; simp at this ⊢; omega) hn
        have hn1 : (n : Int) ≤ s.size := by omega
        have hn2 : (n : Int) ≤ 64 - u := by omega
        have hn3 : n ≤ s.size := by omega
        have hn4 : u + n ≤ 64 := by omega
        obtain ⟨cs, hcs⟩ : ∃ cs, cs = (((r ++ q).map bv).toArray.toList.take u ++ (s.data.toList.take n).map bv ++ ((r ++ q).map bv).toArray.toList.drop (u + n)).toArray := ⟨_, rfl⟩
        rw [← hcs] at hcp
        have HCS := Lib.hid hcs; have HN := Lib.hid hn; clear hcs hn
        by_cases hful : u + n < 64
        · gi_wp2
          go_roundw
          case rel =>
            obtain ⟨e1, e2, e3, e4⟩ := HR.out
            have hns : n = s.size := by have := HN.out; omega
            have hq : (s.data.toList.take n).length = n := by rw [List.length_take, str_length]; omega
            have e5 : q.length = 64 - u := by rw [List.length_append] at e2; omega
            have hrow := row_copy r q (s.data.toList.take n) (by omega)
            rw [hq, ← e1] at hrow
            refine ⟨k + 1, u + n, tot + s0.size, pre, r ++ s.data.toList.take n, q.drop n, by go_num, by omega, by go_num, hful, by go_num, by omega, ⟨by rw [List.length_append, hq, ← e1], ?_, ?_, e4, ?_⟩, ?_, ?_, ?_⟩
            · rw [List.length_append, List.length_append, List.length_drop, hq]; omega
            · rw [e3, List.take_of_length_le (by rw [str_length]; omega)]
            · rw [bytesOf_succ (by have := HM.out; omega), List.length_append, ← HS.out, str_length, ← HT.out]
            · have h1 := hB.setRow cs
              rw [HCS.out, show (((r ++ q).map bv).toArray.toList) = (r ++ q).map bv from rfl, hrow] at h1
              rw [HCS.out, show (((r ++ q).map bv).toArray.toList) = (r ++ q).map bv from rfl, hrow]
              exact h1
            · exact HJ.out _ _ _ (some w.heap.size) HJJ.out (only_setRow (World.grownBy.refl wr _) cs) (fun r' e => by cases e; exact Nat.le_refl _)
            · exact fun i h => (cell_setRow_other wr w.heap.size cs ⟨pb, po + i, none⟩ (by show pb ≠ w.heap.size; omega)).trans (HL2.out i h)
          case measure => simp [intOf]; omega
        · have hful2 : u + n = 64 := by omega
          obtain ⟨e1, e2, e3, e4⟩ := HR.out
          have hq : (s.data.toList.take n).length = n := by rw [List.length_take, str_length]; omega
          have e5 : q.length = n := by rw [List.length_append] at e2; omega
          have hrow := row_copy r q (s.data.toList.take n) (by omega)
          have hdn : q.drop n = [] := List.drop_of_length_le (by omega)
          rw [hq, ← e1, hdn, List.append_nil] at hrow
          obtain ⟨x, hx⟩ : ∃ x, x = r ++ s.data.toList.take n := ⟨_, rfl⟩
          rw [← hx] at hrow
          have hxl : x.length = 64 := by rw [hx, List.length_append, hq]; omega
          have hcx : cs = (x.map bv).toArray := by rw [HCS.out, ← hrow]
          clear hdn
          have hsp : bytesOf L = pre.flatten ++ (x ++ (s.data.toList.drop n ++ bytesOf (L.drop (k + 1)))) := by
            rw [bytesOf_split L (k + 1), e3, hx]
            simp only [List.append_assoc]
            rw [← List.append_assoc (s.data.toList.take n), List.take_append_drop]
          obtain ⟨rest, hrest⟩ := blocksOf_mid e4 (b := x) (s := s.data.toList.drop n ++ bytesOf (L.drop (k + 1))) hxl
          rw [← hsp] at hrest
          have hJ2 := HJ.out _ _ _ (some w.heap.size) HJJ.out (only_setRow (World.grownBy.refl wr _) cs) (fun r' e => by cases e; exact Nat.le_refl _)
          obtain ⟨fn, tmps, assign, body, hy, hR⟩ := HY.out pre x rest (wr.setRow w.heap.size cs) hrest hJ2
          dsimp only [encb] at hy
          rw [← hcx] at hy
          have hcs64 : cs.size = 64 := by rw [hcx]; simpa using hxl
          have HB2 := Lib.hid (hB.setRow cs)
          have HX := Lib.hid (And.intro hx (And.intro hxl hcx)); have HC := Lib.hid hcs64
          have H3 : Hid (bytesOf (L.take (k + 1)) = (pre ++ [x]).flatten ++ s.data.toList.drop n) := by
            show _ = _
            rw [e3, hx]
            simp only [List.flatten_append, List.flatten_cons, List.flatten_nil, List.append_nil, List.append_assoc]
            rw [List.take_append_drop]
          have HP : Hid (∀ b ∈ pre ++ [x], b.length = 64) := Lib.hid fun b hb => by
            rw [List.mem_append, List.mem_singleton] at hb
            rcases hb with hb | rfl
            · exact e4 b hb
            · exact hxl
          clear e1 e2 e3 e4 hq e5 hrow hx hxl hcx hsp hrest hJ2 hcs64
          gi_wp2_with (refine wpListIn_load_blk rfl 56 (.tmp 3) rfl w.heap.size rfl 56 cs _ HB2.out Tryd.underlying56 rfl (infoB.trans (congrArg some HC.out.symm)) ?_)
          refine hR.mono ?_
          rintro e W3 ⟨rfl, hJ3, hk3⟩
          gi_wp2
          go_roundw
          case rel =>
            refine ⟨0, s.extract n s.size, pre ++ [x], [], x, rfl, by omega, rfl, by rw [ByteArray.size_extract]; omega, ⟨rfl, by rw [List.nil_append]; exact HX.out.2.1, ?_, HP⟩, ?_, hJ3, ?_⟩
            · rw [H3.out, List.nil_append, ByteArray.data_extract, Array.toList_extract, List.extract_eq_take_drop]
              rw [List.take_of_length_le (by rw [List.length_drop, str_length]; omega)]
            · have h1 := hk3.same w.heap.size _ (by omega) HB2.out rfl
              rw [List.nil_append, ← HX.out.2.2]
              exact h1
            · exact fun i h => hk3.cell (a := ⟨pb, po + i, none⟩) hpX ((cell_setRow_other wr w.heap.size cs ⟨pb, po + i, none⟩ (by show pb ≠ w.heap.size; omega)).trans (HL2.out i h))
          case measure => show (s.extract n s.size).size < s.size; rw [ByteArray.size_extract]; omega
    · obtain ⟨e1, e2, e3, e4, e5⟩ := HR.out
      have htk : L.take k = L := List.take_of_length_le (by have := HM.out; omega)
      rw [htk] at e3 e5
      have eq1 : q.length = 64 - u := by rw [List.length_append] at e2; omega
      obtain ⟨v0, hv0⟩ : ∃ v, wr.cell? ⟨w.heap.size, u, none⟩ = some v := ⟨_, hB.cell (bv_at (i := u) (by omega))⟩
      have fv0 := hB.frozen u
      have hB1 : Blk (wr.setCell ⟨w.heap.size, u, none⟩ (.int .u8 128)) w.heap.size 56 ((r ++ 128 :: q.drop 1).map bv).toArray := by
        have h1 := hB.set u (bv 128)
        have h2 := row_copy r q [128] (by simp; omega)
        rw [List.setIfInBounds_toArray] at h1
        have h3 : ((r ++ q).map bv).set u (bv 128) = (r ++ 128 :: q.drop 1).map bv := by
          rw [List.map_append, List.set_append_right _ _ (by rw [List.length_map]; omega), List.length_map, ← e1, Nat.sub_self]
          cases q with
          | nil => simp at eq1; omega
          | cons y q => simp
        rw [h3] at h1
        exact h1
      have E1 := Lib.hid e1; have E3 := Lib.hid e3; have E4 := Lib.hid e4; have E5 := Lib.hid e5; have EQ := Lib.hid eq1; have HB1 := Lib.hid hB1
      clear HR e1 e2 e3 e4 e5 htk eq1 hB hB1 HL2
      have hul : (u : Int) < 64 := by omega
      have hu0 : (0 : Int) ≤ (u : Int) := by omega
      have ht64 : (8 * (tot : Int)) ≤ 18446744073709551615 := by omega
      have hput : ∀ (l : List UInt8) (W : World), l.length = 64 → Blk W w.heap.size 56 (l.map bv).toArray →
          Calls Tryd.prog 50 #[.pointer (some ⟨w.heap.size, 0, none⟩), .int .u64 (8 * (tot : Int))] W fun e W' => (∃ v, e = .returned v) ∧ Blk W' w.heap.size 56 ((l.take 56 ++ be8 (8 * tot)).map bv).toArray ∧ W.grownBy W' (some w.heap.size) ∧ W'.heap.size = W.heap.size :=
        fun l W hl hW => putLength_any w.heap.size (8 * tot) l _ W hl (by omega) hW
      have HPUT := Lib.hid hput
      clear hput
      obtain ⟨A, nn, cc, W2, hs1, hcl, hB2, hJ2⟩ : ∃ (A : Option Addr) (nn cc : Nat) (W2 : World),
          (∀ W, (Instr.sliceAt 56 (.pointer (some ⟨w.heap.size, 0, none⟩)) (some (.int .i64 ((u : Int) + 1))) none none).run Tryd.prog W = .ok (.slice A nn cc) W) ∧
          (Builtin.clear_ #[40] 0 #[.slice A nn cc]).run Tryd.prog (wr.setCell ⟨w.heap.size, u, none⟩ (.int .u8 128)) = .ok (.tuple #[]) W2 ∧
          Blk W2 w.heap.size 56 ((r ++ 128 :: List.replicate (63 - u) 0).map bv).toArray ∧ J pre W2 := by
        by_cases h63 : u < 63
        · have hs1 := fun W => slice_block W w.heap.size (u + 1) (by omega)
          rw [show ((u + 1 : Nat) : Int) = (u : Int) + 1 from by omega] at hs1
          have hcl := run_clear_row (P := Tryd.prog) (wr.setCell ⟨w.heap.size, u, none⟩ (.int .u8 128)) 40 5 0 (.int .u8 0) Tryd.underlying40 zero8 rfl rfl w.heap.size (u + 1) (64 - (u + 1)) (64 - (u + 1)) _ _ HB1.out (by omega) (by have := EQ.out; have := E1.out; simp; omega)
          have hrow := row_clear r q (u := u) E1.out EQ.out (by omega)
          rw [show 63 - u = 64 - (u + 1) from by omega] at hrow
          rw [hrow] at hcl
          refine ⟨_, _, _, _, hs1, hcl, ?_, ?_⟩
          · rw [show 63 - u = 64 - (u + 1) from by omega]; exact HB1.out.setRow _
          · exact HJ.out _ _ _ (some w.heap.size) HJJ.out (only_setRow (only_setCell (World.grownBy.refl wr _) _ _) _) (fun r' e => by cases e; exact Nat.le_refl _)
        · have hu63 : u = 63 := by omega
          have hs1 := fun W => slice_block_end W w.heap.size
          rw [show (64 : Int) = (u : Int) + 1 from by omega] at hs1
          refine ⟨_, _, _, _, hs1, run_clear_none _ _ _ _ _ _ Tryd.underlying40, ?_, ?_⟩
          · have h1 := HB1.out
            rw [show q.drop 1 = [] from List.drop_of_length_le (by have := EQ.out; omega)] at h1
            rw [hu63] at h1 ⊢
            exact h1
          · exact HJ.out _ _ _ (some w.heap.size) HJJ.out (only_setCell (World.grownBy.refl wr _) _ _) (fun r' e => by cases e; exact Nat.le_refl _)
      have HB2 := Lib.hid hB2; have HJ2 := Lib.hid hJ2
      clear hB2 hJ2
      by_cases h56 : u < 56
      · obtain ⟨x, hx⟩ : ∃ x, x = (r ++ 128 :: List.replicate (63 - u) (0 : UInt8)).take 56 ++ be8 (8 * tot) := ⟨_, rfl⟩
        have hbl : blocksOf (bytesOf L) = pre ++ [x] := by
          rw [E3.out, blocksOf_short E4.out (by have := E1.out; omega), ← E3.out, ← E5.out, hx, tail_take r E1.out (by omega)]
        have hxl : x.length = 64 := by rw [hx, List.length_append, List.length_take, show (be8 (8 * tot)).length = 8 from rfl]; have := E1.out; simp; omega
        obtain ⟨Z, hZ⟩ : ∃ Z, Z = (x.map bv).toArray := ⟨_, rfl⟩
        have HXX := Lib.hid hx; have HBL := Lib.hid hbl; have HZ := Lib.hid hZ; have HXL : Hid (Z.size = 64) := by show _ = _; rw [hZ]; simpa using hxl
        clear hx hbl hxl hZ
        gi_wp2_with (first
          | (refine ⟨trivial, ?_⟩; gi_at_call 50; refine (callsIn_wide.2 (HPUT.out (r ++ 128 :: List.replicate (63 - u) 0) _ (by have := E1.out; simp; omega) HB2.out)).mono ?_; rintro e W3 ⟨⟨v, rfl⟩, hB3, hg3, -⟩; have HJ3 := Lib.hid (HJ.out _ _ _ (some w.heap.size) HJ2.out hg3 (fun r' e => by cases e; exact Nat.le_refl _)); have HB3 : Hid (Blk W3 w.heap.size 56 Z) := (by show Blk _ _ _ _; rw [HZ.out, HXX.out]; exact hB3); clear hB3 hg3; obtain ⟨fn, tmps, assign, body, hy, hR⟩ := HY.out pre x [] W3 HBL.out HJ3.out; dsimp only [encb] at hy; rw [← HZ.out] at hy)
          | (refine wpListIn_load_blk rfl 56 (.tmp 3) rfl w.heap.size rfl 56 Z _ HB3.out Tryd.underlying56 rfl (infoB.trans (congrArg some HXL.out.symm)) ?_))
        refine hR.mono ?_
        rintro e W4 ⟨rfl, hJ4, -⟩
        have HJ4 := Lib.hid hJ4
        clear hJ4
        gi_wp2
        rw [Exit.noGoto_normal]
        go_end0
        exact ⟨⟨_, rfl⟩, by rw [HBL.out]; exact HJ4.out⟩
      · obtain ⟨y, hy0⟩ : ∃ y, y = r ++ 128 :: List.replicate (63 - u) (0 : UInt8) := ⟨_, rfl⟩
        obtain ⟨x, hx⟩ : ∃ x, x = (List.replicate 64 (0 : UInt8)).take 56 ++ be8 (8 * tot) := ⟨_, rfl⟩
        have hbl : blocksOf (bytesOf L) = pre ++ [y, x] := by
          rw [E3.out, blocksOf_long E4.out (by have := E1.out; omega) (by have := E1.out; omega), ← E3.out, ← E5.out, hx, hy0, List.take_replicate, ← E1.out]; rfl
        have hyl : y.length = 64 := by rw [hy0]; have := E1.out; simp; omega
        have hxl : x.length = 64 := by rw [hx]; rfl
        obtain ⟨Z, hZ⟩ : ∃ Z, Z = (x.map bv).toArray := ⟨_, rfl⟩
        obtain ⟨Y, hY1⟩ : ∃ Y, Y = (y.map bv).toArray := ⟨_, rfl⟩
        have hBY : Blk W2 w.heap.size 56 Y := by rw [hY1, hy0]; exact HB2.out
        have hYs : Y.size = 64 := by rw [hY1]; simpa using hyl
        have hZs : Z.size = 64 := by rw [hZ]; simpa using hxl
        have hbl2 : blocksOf (bytesOf L) = (pre ++ [y]) ++ [x] := by rw [hbl]; simp
        obtain ⟨fn, tmps, assign, body, hy, hR⟩ := HY.out pre y [x] W2 hbl HJ2.out
        dsimp only [encb] at hy
        rw [← hY1] at hy
        have HBY := Lib.hid hBY; have HXX := Lib.hid hx; have HBL := Lib.hid hbl2; have HZ := Lib.hid hZ; have HXL := Lib.hid hZs; have HYL := Lib.hid hYs
        clear hBY hx hbl hbl2 hZ hZs hYs hY1 hy0 hyl hxl
        gi_wp2_with (refine wpListIn_load_blk rfl 56 (.tmp 3) rfl w.heap.size rfl 56 Y _ HBY.out Tryd.underlying56 rfl (infoB.trans (congrArg some HYL.out.symm)) ?_)
        refine hR.mono ?_
        rintro e W3 ⟨rfl, hJ3, hk3⟩
        have hBY3 : Blk W3 w.heap.size 56 Y := hk3.same w.heap.size _ (by omega) HBY.out rfl
        have HBY3 := Lib.hid hBY3; have HJ3 := Lib.hid hJ3
        clear hy hR hk3 hBY3 hJ3
        obtain ⟨U, hU⟩ : ∃ U, U = ((List.replicate 64 (0 : UInt8)).map bv).toArray := ⟨_, rfl⟩
        have hB4 : Blk (W3.setRow w.heap.size U) w.heap.size 56 ((List.replicate 64 (0 : UInt8)).map bv).toArray := by rw [← hU]; exact HBY3.out.setRow _
        have hJ4 : J (pre ++ [y]) (W3.setRow w.heap.size U) := HJ.out _ _ _ (some w.heap.size) HJ3.out (only_setRow (World.grownBy.refl W3 _) _) (fun r' e => by cases e; exact Nat.le_refl _)
        have hU1 : U.size = 64 := by rw [hU]; rfl
        have hU2 : U.all (·.oneCell') = true := by rw [hU]; exact bv_one _
        have HB4 := Lib.hid hB4; have HJ4 := Lib.hid hJ4; have HU := Lib.hid hU; have HU1 := Lib.hid hU1; have HU2 := Lib.hid hU2
        clear hB4 hJ4 hU hU1 hU2
        gi_wp2_with (first
          | (refine wpListIn_store_blk rfl 56 (.tmp 3) (.tmp 47) rfl w.heap.size U rfl (by rw [HU.out]; rfl) 56 Y HBY3.out (infoB.trans (congrArg some HU1.out.symm)) (HYL.out.trans HU1.out.symm) HU2.out ?_)
          | (refine ⟨trivial, ?_⟩; gi_at_call 50; refine (callsIn_wide.2 (HPUT.out (List.replicate 64 0) _ rfl HB4.out)).mono ?_; rintro e W5 ⟨⟨v, rfl⟩, hB5, hg5, -⟩; have HJ5 := Lib.hid (HJ.out _ _ _ (some w.heap.size) HJ4.out hg5 (fun r' e => by cases e; exact Nat.le_refl _)); have HB5 : Hid (Blk W5 w.heap.size 56 Z) := (by show Blk _ _ _ _; rw [HZ.out, HXX.out]; exact hB5); clear hB5 hg5; obtain ⟨fn, tmps, assign, body, hy, hR⟩ := HY.out (pre ++ [y]) x [] W5 HBL.out HJ5.out; dsimp only [encb] at hy; rw [← HZ.out] at hy)
          | (refine wpListIn_load_blk rfl 56 (.tmp 3) rfl w.heap.size rfl 56 Z _ HB5.out Tryd.underlying56 rfl (infoB.trans (congrArg some HXL.out.symm)) ?_))
        refine hR.mono ?_
        rintro e W6 ⟨rfl, hJ6, -⟩
        have HJ6 := Lib.hid hJ6
        clear hJ6
        gi_wp2
        rw [Exit.noGoto_normal]
        go_end0
        exact ⟨⟨_, rfl⟩, by rw [HBL.out]; exact HJ6.out⟩
end Go.Proofs.YthaegodeijfbdaaDoor
