
/- What sides returns hands on both directions of all meetings, in their order. Conditions: the slice read, valid times. -/
import Derived.RangeFuncNested
import Derived.RangeFuncBound
import Derived.RangeFuncCalls
import Derived.RangeFuncLeaves
import Derived.Shelf.Abstract
import Derived.Shelf.RegionOpen
import Derived.WalkKit
import Derived.OwnWalkIn
import Derived.TacticsInMore
import Derived.LoopNIn
import Derived.LoopIn
import Derived.Test.YtbcgfohacbapoaaGri5
import Derived.Test.YtbcgfohacbapoaaBy6
namespace Go.Proofs.Ytbcgfohacbapoaa
open Go.RowKit Go.Shelf Go.Lib
attribute [local go_sem] Oper.semAt_some

abbrev EdIn (E : List Ed) := { e : Ed // e ∈ E }
abbrev encE {E : List Ed} (x : EdIn E) : Array Value := #[.agg #[.int .i64 x.1.o, .int .i64 x.1.r], .int .i64 x.1.a]
def vls {E : List Ed} (xs : List (EdIn E)) : List Ed := xs.map (·.1)
theorem vls_snoc {E : List Ed} (xs : List (EdIn E)) (x : EdIn E) : vls (xs ++ [x]) = vls xs ++ [x.1] := by simp [vls]
theorem vls_length {E : List Ed} (xs : List (EdIn E)) : (vls xs).length = xs.length := by simp [vls]
/-- All blocks of cells are kept, but block q. -/
def KpC (q : Nat) (W W' : World) : Prop := W.heap.size ≤ W'.heap.size ∧ ∀ (k : Nat) (o : Obj), W.heap[k]? = some o → o.isCells = true → k ≠ q → W'.heap[k]? = some o
theorem KpC.refl (q : Nat) (W : World) : KpC q W W := ⟨Nat.le_refl _, fun _ _ h _ _ => h⟩
theorem KpC.trans {q : Nat} {A B C : World} (h : KpC q A B) (h2 : KpC q B C) : KpC q A C := ⟨Nat.le_trans h.1 h2.1, fun k o h3 h4 h5 => h2.2 k o (h.2 k o h3 h4 h5) h4 h5⟩
theorem KpC.of_below {q : Nat} {W W' : World} (h : Below W.heap.size W W') : KpC q W W' := ⟨h.size, fun k _ h3 _ _ => (h.block k (Array.getElem?_eq_some_iff.1 h3).1).trans h3⟩
theorem KpC.put {q : Nat} (W : World) (l : Nat) (o o' : Obj) (hl : W.heap[l]? = some o) (ho : o.isCells = false) : KpC q W (W.putObj l o') := ⟨by simp, fun k u h3 h4 _ => by
  have hne : k ≠ l := fun e => by subst e; rw [hl, Option.some.injEq] at h3; subst h3; rw [ho] at h4; cases h4
  exact (World.putObj_heap_other hne).trans h3⟩
theorem KpC.of_grown {q b : Nat} {W W' : World} (h : W.grownBy W' (some b)) {o : Obj} (hb : W.heap[b]? = some o) (ho : o.isCells = false) : KpC q W W' := ⟨h.size, fun k u h3 h4 _ => by
  have hne : k ≠ b := fun e => by subst e; rw [hb, Option.some.injEq] at h3; subst h3; rw [ho] at h4; cases h4
  exact (h.block k (Array.getElem?_eq_some_iff.1 h3).1 (by simpa using hne)).trans h3⟩
theorem KpC.store (q : Nat) (W : World) (i : Nat) (v : Value) : KpC q W (W.setCell ⟨q, i, none⟩ v) := ⟨by simp [World.setCell], fun k _ h3 _ hq => (Below.heap_setCell W ⟨q, i, none⟩ v k hq).trans h3⟩
theorem KpC.blk {q g : Nat} {W W' : World} (h : KpC q W W') {t : TypeId} {cs : Array Value} (hb : Blk W g t cs) (hq : g ≠ q) : Blk W' g t cs := h.2 g _ hb rfl hq
theorem KpC.cell {q : Nat} {W W' : World} (h : KpC q W W') {a : Addr} {v : Value} (hc : W.cell? a = some v) (hq : a.block ≠ q) : W'.cell? a = some v := by
  obtain ⟨o, h1, h2⟩ := cells_of_cell hc
  have h3 := h.2 a.block o h1 h2 hq
  rw [← hc]
  exact World.cell?_of_block (h3.trans h1.symm)
theorem Rz.kept {α : Type} {cs : α → List Value} {k : Nat} {W W' : World} {A : Option Addr} {l : List α} {q : Nat} (h : Rz cs k W A l) (hk : KpC q W W') (hq : 0 < l.length → ∀ b o, A = Option.some ⟨b, o, none⟩ → b ≠ q) : Rz cs k W' A l := fun hn => by
  obtain ⟨b, o, e, hl, hc⟩ := h hn
  exact ⟨b, o, e, Nat.lt_of_lt_of_le hl hk.1, fun i hi j v hv => hk.cell (hc i hi j v hv) (hq hn b o e)⟩
theorem sdL_take {ms : List Mt} {k : Nat} (hk : k < ms.length) : sdL (ms.take (k + 1)) = sdL (ms.take k) ++ [⟨ms[k].a, ms[k].b, ms[k].ta - ms[k].tb⟩] ++ [⟨ms[k].b, ms[k].a, -(ms[k].ta - ms[k].tb)⟩] := by
  rw [take_snoc hk]; unfold sdL; rw [List.flatMap_append]
  simp only [List.flatMap_cons, List.flatMap_nil, sd2, List.append_nil, List.append_assoc, List.cons_append, List.nil_append]
theorem sdL_len (ms : List Mt) : (sdL ms).length = 2 * ms.length := by
  induction ms with
  | nil => rfl
  | cons m r ih => simp only [sdL, List.flatMap_cons, List.length_append, List.length_cons] at ih ⊢; rw [ih]; simp [sd2]; omega
theorem sdL_pre (ms : List Mt) (k : Nat) : ∃ suf, sdL ms = sdL (ms.take k) ++ suf := ⟨sdL (ms.drop k), by unfold sdL; rw [← List.flatMap_append, List.take_append_drop]⟩
/-- Valid times. -/
def Tms (ms : List Mt) : Prop := ∀ m ∈ ms, (0 ≤ m.ta ∧ m.ta ≤ 1000000) ∧ (0 ≤ m.tb ∧ m.tb ≤ 1000000)
set_option maxRecDepth 100000 in
set_option maxHeartbeats 8000000 in
theorem sides1_in (n l q Bm c : Nat) (A : Option Addr) (ms : List Mt) (hl : ms.length ≤ 60) (ht : Tms ms) (_ : Bm ≠ q) (hq : 0 < ms.length → ∀ b o, A = some ⟨b, o, none⟩ → b ≠ q) (J Jx : List (EdIn (sdL ms)) → World → Prop) (hJ : ∀ s W W', J s W → Below W.heap.size W W' → J s W')
    (hY : ∀ pre x W, J pre W → pre.length < 2 * ms.length → YieldAt Fence.wide (n - 1) Try.prog l (encE x) W fun e W' =>
      (e = .returned (.bool true) ∧ J (pre ++ [x]) W' ∧ KpC q W W') ∨ (e = .returned (.bool false) ∧ Jx (pre ++ [x]) W'))
    (W : World) (hqW : q < W.heap.size) (hC : W.cell? ⟨Bm, 0, none⟩ = some (.slice A ms.length c)) (hM : Mz W A ms) (h0 : J [] W) :
    CallsIn Fence.wide n Try.prog 113 #[.func (.yield l) #[] #[], .pointer (some ⟨Bm, 0, none⟩)] W fun e W' => (∃ v, e = .returned v) ∧
      ((∃ ys, vls ys = sdL ms ∧ J ys W') ∨ (∃ pre, (∃ suf, sdL ms = vls pre ++ suf) ∧ Jx pre W')) := by
  have HM : Hid (∀ W', KpC q W W' → Mz W' A ms) := Lib.hid (fun W' hk => hM.kept hk hq)
  have HT := Lib.hid ht; have HQ := Lib.hid hqW
  have c1 := hC
  clear hM ht hC hqW
  refine callsIn_of_wp Try.func113 rfl trivial ?_ rfl
  simp only [Try.ntmps113, List.size_toArray, List.length_cons, List.length_nil, Nat.reduceAdd, Nat.reduceSub, Array.replicate_succ, Array.replicate_zero, List.push_toArray, List.append_toArray, List.nil_append, List.cons_append]
  gi_wp2
  clear c1
  gi_loopw [8] (fun i wr => ∃ (k : Nat) (pre : List (EdIn (sdL ms))), k ≤ ms.length ∧ i = .int .i64 k ∧ vls pre = sdL (ms.take k) ∧ J pre wr ∧ KpC q W wr) (fun i _ => ms.length - (intOf i).toNat)
  case atStart => exact ⟨0, [], Nat.zero_le _, rfl, rfl, h0, KpC.refl _ _⟩
  case round =>
    obtain ⟨k, pre, hk, rfl, hpre, hJs, hnx⟩ := hrel
    by_cases hlt : k < ms.length
    case neg =>
      obtain rfl : k = ms.length := by omega
      rw [List.take_length] at hpre
      have HPR := Lib.hid hpre
      clear hlt hk hpre
      gi_wp2
      go_end0
      exact ⟨⟨_, rfl⟩, .inl ⟨_, HPR.out, hJs⟩⟩
    case pos =>
      obtain ⟨b, o, rfl⟩ := (HM.out wr hnx).some (by omega)
      obtain ⟨k0, k1, k2, k3⟩ := Mz.cell (HM.out wr hnx) (Below.refl wr.heap.size wr) (Nat.le_refl _) hlt
      have htm := HT.out _ (List.getElem_mem hlt)
      have hmem : ms[k] ∈ ms := List.getElem_mem hlt
      have HTK := Lib.hid (sdL_take hlt)
      have HSF := Lib.hid (sdL_pre ms (k + 1))
      have hlen := congrArg List.length hpre
      rw [vls_length, sdL_len, List.length_take] at hlen
      obtain ⟨m, hm⟩ : ∃ m, m = ms[k] := ⟨_, rfl⟩
      rw [← hm] at k0 k1 k2 k3 htm hmem HTK
      have m1 : (⟨m.a, m.b, m.ta - m.tb⟩ : Ed) ∈ sdL ms := sdL_mem.2 ⟨m, hmem, Or.inl rfl⟩
      have m2 : (⟨m.b, m.a, -(m.ta - m.tb)⟩ : Ed) ∈ sdL ms := sdL_mem.2 ⟨m, hmem, Or.inr rfl⟩
      have q1 : (0 : Int) ≤ (k : Int) := by omega
      have q2 : (k : Int) < (ms.length : Int) := by omega
      obtain ⟨g, hg⟩ : ∃ g, g = m.ta - m.tb := ⟨_, rfl⟩
      obtain ⟨g2, hg2⟩ : ∃ g2, g2 = -g := ⟨_, rfl⟩
      have e1 : IntKind.i64.wrap (m.ta - m.tb) = g := by rw [hg]; exact IntWalk.i64_in _ (by omega)
      have e2 : IntKind.i64.wrap (-g) = g2 := by rw [hg2]; exact IntWalk.i64_in _ (by omega)
      have e3 : IntKind.i64.wrap ((k : Int) + 1) = (k : Int) + 1 := IntWalk.i64_in _ (by omega)
      have HB1 := Lib.hid ((Below.refl wr.heap.size wr).alloc (Nat.le_refl _) (.cells #[.int .i64 m.a, .int .i64 m.ta, .int .i64 m.b, .int .i64 m.tb] 79))
      have HD := Lib.hid (Blk.new wr 79 #[.int .i64 m.a, .int .i64 m.ta, .int .i64 m.b, .int .i64 m.tb])
      have hqn : wr.heap.size ≠ q := by have h1 := HQ.out; have h2 := hnx.1; omega
      have HPR : Hid (vls pre = sdL (ms.take k)) := Lib.hid hpre
      have HKN : Hid (pre.length < 2 * ms.length) := Lib.hid (by omega)
      have HKN2 : Hid (pre.length + 1 < 2 * ms.length) := Lib.hid (by omega)
      have HI := Lib.hid hlt; have HNX := Lib.hid hnx; have HQN := Lib.hid hqn
      have d0 := HD.out.cell (i := 0) (v := .int .i64 m.a) rfl; have d1 := HD.out.cell (i := 1) (v := .int .i64 m.ta) rfl; have d2 := HD.out.cell (i := 2) (v := .int .i64 m.b) rfl; have d3 := HD.out.cell (i := 3) (v := .int .i64 m.tb) rfl
      clear hm hmem hlt hk hnx hpre hlen htm hqn
      rw [← hg] at m1 m2 HTK
      rw [← hg2] at m2 HTK
      clear hg hg2
      obtain ⟨fn, tmps, assign, body, hy, hR⟩ := hY pre ⟨_, m1⟩ (wr.alloc (.cells #[.int .i64 m.a, .int .i64 m.ta, .int .i64 m.b, .int .i64 m.tb] 79)) (hJ _ _ _ hJs HB1.out) HKN.out
      dsimp only [encE] at hy
      gi_wp2
      refine ⟨fun h => (by cases h), hR.mono ?_⟩
      clear hR hy d0 d1 d2 d3 k0 k1 k2 k3
      rintro e W3 (⟨rfl, hJ3, hk3⟩ | ⟨rfl, hJx3⟩)
      · have HD3 := Lib.hid (hk3.blk HD.out HQN.out)
        have d0 := HD3.out.cell (i := 0) (v := .int .i64 m.a) rfl; have d2 := HD3.out.cell (i := 2) (v := .int .i64 m.b) rfl
        have HK3 := Lib.hid (HNX.out.trans ((KpC.of_below (q := q) HB1.out).trans hk3))
        clear hk3
        obtain ⟨fn2, tmps2, assign2, body2, hy2, hR2⟩ := hY (pre ++ [⟨_, m1⟩]) ⟨_, m2⟩ W3 hJ3 (by rw [List.length_append]; exact HKN2.out)
        dsimp only [encE] at hy2
        gi_wp2
        refine ⟨fun h => (by cases h), hR2.mono ?_⟩
        clear hR2 hy2 d0 d2
        rintro e W4 (⟨rfl, hJ4, hk4⟩ | ⟨rfl, hJx4⟩)
        · gi_wp2
          go_roundw
          case rel => exact ⟨k + 1, pre ++ [⟨_, m1⟩] ++ [⟨_, m2⟩], HI.out, by go_num, by rw [vls_snoc, vls_snoc, HPR.out, HTK.out], hJ4, HK3.out.trans hk4⟩
          case measure => have := HI.out; simp [intOf]; omega
        · gi_wp2
          refine bodyPost_ret (results_none rfl _ _ _) rfl ?_
          exact ⟨⟨_, rfl⟩, .inr ⟨_, by obtain ⟨suf, hs⟩ := HSF.out; exact ⟨suf, by rw [vls_snoc, vls_snoc, HPR.out]; rw [HTK.out] at hs; exact hs⟩, hJx4⟩⟩
      · have hundef := un_none
        gi_wp2
        refine ⟨fun _ h => (by cases h), ?_⟩
        gi_wp2
        refine bodyPost_ret (results_none rfl _ _ _) rfl ?_
        exact ⟨⟨_, rfl⟩, .inr ⟨_, by obtain ⟨suf, hs⟩ := HSF.out; exact ⟨[_] ++ suf, by rw [vls_snoc, HPR.out]; rw [HTK.out] at hs; rw [← List.append_assoc]; exact hs⟩, hJx3⟩⟩
theorem grown_of_below {W W' : World} (h : Below W.heap.size W W') : W.grownBy W' none := ⟨h.os, h.tape, h.output, h.size, fun k hk _ => h.block k hk⟩
theorem sides_stops (n q Bm c : Nat) (A : Option Addr) (ms : List Mt) (hl : ms.length ≤ 60) (ht : Tms ms) (hBm : Bm ≠ q) (hq : 0 < ms.length → ∀ b o, A = some ⟨b, o, none⟩ → b ≠ q) (w : World) (hBw : Bm < w.heap.size) (hqW : q < w.heap.size) (hC : w.cell? ⟨Bm, 0, none⟩ = some (.slice A ms.length c)) (hM : Mz w A ms) :
    SeqStopsK Fence.wide n Try.prog 113 #[.pointer (some ⟨Bm, 0, none⟩)] (encE (E := sdL ms)) (KpC q) (fun ys => vls ys = sdL ms) (fun pre => ∃ suf, sdL ms = vls pre ++ suf) (2 * ms.length) w := fun l J Jx W hW hJ _ hY h0 =>
  sides1_in n l q Bm c A ms hl ht hBm hq J Jx (fun s A B hs hb2 => hJ s A B none hs (grown_of_below hb2) (fun r e => by cases e)) hY W (Nat.lt_of_lt_of_le hqW hW.size) ((hW.cell (p := ⟨Bm, 0, none⟩) hBw).trans hC) (hM.below hW (Nat.le_refl _)) h0
set_option maxRecDepth 100000 in
set_option maxHeartbeats 4000000 in
/-- sides: the meetings are boxed, the function value captures the box. -/
theorem sides_in (n : Nat) (ms : List Mt) (A : Option Addr) (c : Nat) (w : World) :
    CallsIn Fence.wide n Try.prog 112 #[.slice A ms.length c] w fun e w' => e = .returned (.func (.func 113) #[] #[.pointer (some ⟨w.heap.size, 0, none⟩)]) ∧ w' = w.alloc (.cells #[.slice A ms.length c] 82) := by
  refine callsIn_of_wp Try.func112 rfl trivial ?_ rfl
  simp only [Try.ntmps112, List.size_toArray, List.length_cons, List.length_nil, Nat.reduceAdd, Nat.reduceSub, Array.replicate_succ, Array.replicate_zero, List.push_toArray, List.append_toArray, List.nil_append, List.cons_append]
  gi_wp2
  go_ret
  exact ⟨rfl, rfl⟩
end Go.Proofs.Ytbcgfohacbapoaa
