/- The contract of sumOf, and of Sum, Leaf, Node and Chain: SHA-256 of the parts, one after the other. Conditions: the parts are read and not longer than 2^60 bytes, the table holds what its text says. -/
import Derived.Test.YthaegodeijfbdaaDoorBlocks
import Derived.RangeFuncCalls
import Derived.Shelf.RegionOpen
import Derived.Deep.WholeRow
import Derived.Laws.IdiomStrings
import Derived.Laws.BytesArg
namespace Go.Proofs.YthaegodeijfbdaaDoor
open Go.RowKit Go.Shelf Go.Lib

attribute [local go_sem] Oper.semAt_some

/-- The eight words as cells. -/
def cells8 (s : S8) : Array Value := #[.int .u32 s.a, .int .u32 s.b, .int .u32 s.c, .int .u32 s.d, .int .u32 s.e, .int .u32 s.f, .int .u32 s.g, .int .u32 s.h]
theorem cells8_eq (s : S8) : (s.words.map wv).toArray = cells8 s := rfl

/-- What blocks returns hands the blocks on. -/
theorem blocks_yields (Bp pb po m c X : Nat) (L : List ByteArray) (w : World) (hX : X < w.heap.size) (hpX : pb ≠ X) (hp : pb < w.heap.size) (hBp : Bp < w.heap.size) (hm : m = L.length) (hm2 : m ≤ 1000)
    (hsz : (bytesOf L).length ≤ 1152921504606846976) (hc : w.cell? ⟨Bp, 0, none⟩ = some (.slice (some ⟨pb, po, none⟩) m c)) (hL : ∀ i (h : i < L.length), w.cell? ⟨pb, po + i, none⟩ = some (.string L[i])) :
    Yields Fence.wide 4 Tryd.prog 49 #[.pointer (some ⟨Bp, 0, none⟩)] encb X (blocksOf (bytesOf L)) w := fun l J W hW hJ hY h0 => by
  have hs := hW.size
  exact blocks1_in l Bp pb po m c X L J W (by omega) hpX (by omega) (by omega) hm hm2 hsz hY hJ h0 ((hW.cell (p := ⟨Bp, 0, none⟩) hBp).trans hc) (fun i h => (hW.cell (p := ⟨pb, po + i, none⟩) hp).trans (hL i h))

set_option maxHeartbeats 1000000 in
/-- blocks: the parts are boxed, the function value captures the box. -/
theorem blocks_any (v : Value) (a : Option Addr) (m c : Nat) (hv : v = .slice a m c) (w : World) :
    Calls Tryd.prog 42 #[v] w fun e w' => e = .returned (.func (.func 49) #[] #[.pointer (some ⟨w.heap.size, 0, none⟩)]) ∧ w' = w.alloc (.cells #[v] 26) := by
  subst hv
  refine (callsIn_wide (n := 3)).1 ?_
  refine callsIn_of_wp Tryd.func42 rfl trivial ?_ rfl
  simp only [Tryd.ntmps42, List.size_toArray, List.length_cons, List.length_nil, Nat.reduceAdd, Nat.reduceSub, Array.replicate_succ, Array.replicate_zero, List.push_toArray, List.append_toArray, List.nil_append, List.cons_append]
  gi_wp2
  go_ret
  exact ⟨rfl, rfl⟩

theorem load_blk {P : Program} {w : World} {g : Nat} {t ty : TypeId} {cs : Array Value} {d : TypeDesc} (hg : Blk w g t cs) (hu : P.underlying ty = some d) (hd : (match d with | .struct _ | .array _ _ => true | _ => false) = true)
    (hi : (P.info? ty).map (·.size) = some cs.size) : (Instr.loadAt ty (.pointer (some ⟨g, 0, none⟩))).run P w = .ok (.agg cs) w := by
  simp [Instr.loadAt, Instr.sureAddr, run_loadVar_row w g t ty cs (0, 0) d hg hu hd hi]

theorem step_load_blk {F : Fence} {n : Nat} {P : Program} {w : World} {ops : Array Oper} {o : Oper} {a : Act} {K : Act → World → Prop} {Q : Exit → Act → World → Prop} {E : Prop}
    (hgd : o.guard = none) (ty : TypeId) (x : Operand) (ho : o.op = .load ty x) (g : Nat) (hx : a.eval x = .pointer (some ⟨g, 0, none⟩)) (t : TypeId) (cs : Array Value) (d : TypeDesc) (hg : Blk w g t cs)
    (hu : P.underlying ty = some d) (hd : (match d with | .struct _ | .array _ _ => true | _ => false) = true) (hi : (P.info? ty).map (·.size) = some cs.size)
    (h : K (a.put o.dst (.agg cs)) w) : if Region.wanted o (yielded ops a.tmps) = true then Oper.wpIn F n P o a w K Q else E := by
  rw [if_pos (by simp [Region.wanted, hgd])]
  unfold Oper.wpIn
  refine ⟨?_, ?_⟩
  · simp [Oper.about, ho]
  · rw [Oper.semAt_plain F _ _ (by rw [ho]; intro c hc; cases hc)]
    simp [execOp, ho, hx, Instr.loadAt, Instr.sureAddr, run_loadVar_row w g t ty cs (0, 0) d hg hu hd hi, Result.andThen]
    exact h
theorem step_store_blk {F : Fence} {n : Nat} {P : Program} {w : World} {ops : Array Oper} {o : Oper} {a : Act} {K : Act → World → Prop} {Q : Exit → Act → World → Prop} {E : Prop}
    (hgd : o.guard = none) (ty : TypeId) (x y : Operand) (ho : o.op = .store ty x y) (g : Nat) (cells : Array Value) (hx : a.eval x = .pointer (some ⟨g, 0, none⟩)) (hy : a.eval y = .agg cells)
    (t : TypeId) (old : Array Value) (hg : Blk w g t old) (hi : (P.info? ty).map (·.size) = some cells.size) (hold : old.size = cells.size) (h1 : cells.all (·.oneCell') = true)
    (h : K (a.put o.dst undef) (w.setRow g cells)) : if Region.wanted o (yielded ops a.tmps) = true then Oper.wpIn F n P o a w K Q else E := by
  rw [if_pos (by simp [Region.wanted, hgd])]
  unfold Oper.wpIn
  refine ⟨?_, ?_⟩
  · simp [Oper.about, ho]
  · rw [Oper.semAt_plain F _ _ (by rw [ho]; intro c hc; cases hc)]
    simp [execOp, ho, hx, hy, Instr.storeAt, Instr.sureAddr, run_storeVar_row w g t ty old cells hg hi hold h1, Result.andThen]
    exact h

theorem OldBut.setRow {X : Nat} (W : World) (cs : Array Value) : OldBut X W (W.setRow X cs) := ⟨by simp, fun k _ hk => setRow_other W X k cs hk⟩

theorem cells_new (w : World) (l : List Value) (t : TypeId) : ∀ (j : Nat) (u : Value), l[j]? = some u → (w.alloc (.cells l.toArray t)).cell? ((⟨w.heap.size, 0, none⟩ : Addr).add j) = some u := by
  intro j u h
  have e : (⟨w.heap.size, 0, none⟩ : Addr).add j = ⟨w.heap.size, j, none⟩ := by unfold Addr.add; split <;> simp_all
  rw [e]
  exact (Blk.new w t l.toArray).cell (by simpa using h)
theorem own_base {w : World} {base e size : Nat} {v : Value} {n : Nat} {xs : List Value} (h : w.ownsRow base e size v n xs) : ∀ k, v.ownBlock = some k → base ≤ k := fun k hk => (h.lt k hk).1
/-- string(b) of a row of the call's own. -/
theorem run_string_own {P : Program} {w : World} {base e : Nat} {v : Value} {l : List UInt8} (src dst : TypeId) (hs : P.underlying src = some (.slice e)) (he : P.underlying e = some (.int .u8)) (hd : P.underlying dst = some .string)
    (h : w.ownsRow base e 1 v l.length (l.map bv)) : (convert src dst v).run P w = .ok (.string ⟨l.toArray⟩) w := by
  rcases h.2 with ⟨rfl, h0⟩ | ⟨g, cap, cur, rfl, _⟩
  · rw [run_convert_bytes_nil w src e hs he 0 0 dst hd]
    have : l = [] := List.eq_nil_of_length_eq_zero h0
    subst this; rfl
  · refine run_convert_bytes_back w src dst e ⟨g, 0, none⟩ cap l hs he hd fun j hj => ?_
    have := h.cellAt j (by omega)
    have e1 : (⟨g, 0, none⟩ : Addr).add j = ⟨g, j, none⟩ := by unfold Addr.add; split <;> simp_all
    rw [e1, this]
    simp [bv, hj]
theorem words_take (t : S8) : ∀ j : Fin 8, (t.words.take (j.val + 1)).flatMap be4 = (t.words.take j.val).flatMap be4 ++ be4 (t.words.getD j.val 0) := by
  intro j
  match j with
  | 0 => rfl
  | 1 => rfl
  | 2 => rfl
  | 3 => rfl
  | 4 => rfl
  | 5 => rfl
  | 6 => rfl
  | 7 => rfl
theorem toNat_byte' (n : Nat) : (n.toUInt8).toNat = n % 256 := by simp [Nat.toUInt8]
theorem be4_map {x : Nat} (h : x < 4294967296) : (be4 x).map bv = [.int .u8 ((x : Int) / 16777216), .int .u8 ((x : Int) / 65536 % 256), .int .u8 ((x : Int) / 256 % 256), .int .u8 ((x : Int) % 256)] := by
  unfold be4
  simp only [List.map_cons, List.map_nil, bv, toNat_byte']
  rw [show ((x / 16777216 % 256 : Nat) : Int) = (x : Int) / 16777216 from by omega, show ((x / 65536 % 256 : Nat) : Int) = (x : Int) / 65536 % 256 from by omega, show ((x / 256 % 256 : Nat) : Int) = (x : Int) / 256 % 256 from by omega, show ((x % 256 : Nat) : Int) = (x : Int) % 256 from by omega]

theorem info_u8 : (Tryd.prog.info? 5).map (fun i => (i.zero, i.size, i.bytes)) = some (some (.int .u8 0), 1, 1) := by kernel_rfl

theorem info8' : (Tryd.prog.info? 52).map (·.size) = some 8 := info8

set_option maxRecDepth 100000 in
set_option maxHeartbeats 2000000 in
theorem sumOf_any (pb po m c : Nat) (L : List ByteArray) (w : World) (hp : pb < w.heap.size) (hm : m = L.length) (hm2 : m ≤ 1000) (hsz : (bytesOf L).length ≤ 1152921504606846976)
    (hL : ∀ i (h : i < L.length), w.cell? ⟨pb, po + i, none⟩ = some (.string L[i])) (hT : Tab w) :
    Calls Tryd.prog 28 #[.slice (some ⟨pb, po, none⟩) m c] w fun e w' => e = .returned (.string ⟨(sha (bytesOf L)).toArray⟩) ∧ Below w.heap.size w w' := by
  have HT := Lib.hid hT; have HL := Lib.hid hL; have HM := Lib.hid hm; clear hT hL hm
  refine (callsIn_wide (n := 5)).1 ?_
  have hro : Fence.wide.round = none := rfl
  refine callsIn_of_wp_marks Tryd.func28 rfl trivial ?_ hro
  simp only [Tryd.ntmps28, List.size_toArray, List.length_cons, List.length_nil, Nat.reduceAdd, Nat.reduceSub, Array.replicate_succ, Array.replicate_zero, List.push_toArray, List.append_toArray, List.nil_append, List.cons_append]
  gi_wp2_with (refine ⟨trivial, ?_⟩; gi_at_call 42; refine (callsIn_wide.2 (blocks_any _ _ _ _ rfl _)).mono ?_; rintro e w' ⟨rfl, rfl⟩)
  obtain ⟨W0, hW0⟩ : ∃ W0, W0 = (w.alloc (.cells (cells8 s8) 52)).alloc (.cells #[.slice (some ⟨pb, po, none⟩) m c] 26) := ⟨_, rfl⟩
  have hz0 : W0.heap.size = w.heap.size + 2 := by rw [hW0]; simp
  have hb0 : Below w.heap.size w W0 := by rw [hW0]; exact ((Below.refl _ w).alloc (Nat.le_refl _) _).alloc (by simp) _
  have hI0 : Blk W0 w.heap.size 52 (cells8 s8) := by rw [hW0]; exact (Blk.new w _ _).alloc _
  have hc0 : W0.cell? ⟨w.heap.size + 1, 0, none⟩ = some (.slice (some ⟨pb, po, none⟩) m c) := by
    have h := Blk.new (w.alloc (.cells (cells8 s8) 52)) 26 #[.slice (some ⟨pb, po, none⟩) m c]
    rw [World.size_alloc, ← hW0] at h
    exact h.cell rfl
  have hL0 : ∀ i (h : i < L.length), W0.cell? ⟨pb, po + i, none⟩ = some (.string L[i]) := fun i h => (hb0.cell (p := ⟨pb, po + i, none⟩) hp).trans (HL.out i h)
  subst hW0
  refine range_law hro (by omega) (gf := 49) (lb := #[.pointer (some ⟨w.heap.size + 1, 0, none⟩)]) rfl trivial (enters_of Tryd.func49 (by kernel_rfl) rfl)
    (blocks_yields (w.heap.size + 1) pb po m c w.heap.size L _ (by rw [World.size_alloc, World.size_alloc]; omega) (by omega) (by rw [World.size_alloc, World.size_alloc]; omega) (by rw [World.size_alloc, World.size_alloc]; omega) HM.out hm2 hsz hc0 hL0) (Below.refl _ _) (by rw [World.size_alloc, World.size_alloc]; omega) (fun _ => rfl)
    (fun pre W => Blk W w.heap.size 52 (cells8 (mixAll s8 pre)) ∧ Below w.heap.size w W)
    (Past.and (past_block (by rw [World.size_alloc, World.size_alloc]; omega) _) (past_below (by rw [World.size_alloc, World.size_alloc]; omega) (Nat.le_refl _))) ⟨hI0, hb0⟩
    (fun x a' W => ∃ Bx, Blk W Bx 56 (x.map bv).toArray ∧ a' = { tmps := #[.slice (some ⟨pb, po, none⟩) m c, undef, .string ⟨#[]⟩, .pointer (some ⟨w.heap.size, 0, none⟩), .pointer (some ⟨Bx, 0, none⟩), undef, undef, undef, .agg (cells8 s8), .slice (some ⟨pb, po, none⟩) m c, .func (.func 49) #[] #[.pointer (some ⟨w.heap.size + 1, 0, none⟩)], .agg (x.map bv).toArray, undef, undef, undef, undef, undef, undef, undef, undef, undef, undef, undef, undef, undef, undef, undef, undef, undef, undef, undef, undef, undef, undef, undef, undef, undef, undef], defers := [] })
    ?ax ?assign ?body ?done
  case ax =>
    rintro x a' W l r o ⟨Bx, h2, h3⟩ hl
    exact ⟨Bx, (World.putObj_heap_other (fun e => by subst e; rw [show W.heap[Bx]? = _ from h2] at hl; cases hl)).trans h2, h3⟩
  case assign =>
    intro l pre x rest W K hxs hK
    have hxl : x.length = 64 := blocksOf_mem _ x (by rw [hxs]; simp)
    obtain ⟨Z, hZ⟩ : ∃ Z, Z = (x.map bv).toArray := ⟨_, rfl⟩
    have HZ := Lib.hid hZ
    have HZ1 : Hid (Z.size = 64) := by show _ = _; rw [hZ]; simpa using hxl
    have HZ2 : Hid (Z.all (·.oneCell') = true) := by show _ = _; rw [hZ]; exact bv_one _
    clear hxs hxl
    dsimp only [encb]
    rw [← hZ]
    clear hZ
    have HN := Lib.hid (fun t cs => Blk.new W t cs)
    gi_wp2_with (refine wpListIn_store_blk rfl 56 (.tmp 4) (.tmp 11) rfl W.heap.size Z rfl rfl 56 _ (HN.out _ _) (infoB.trans (congrArg some HZ1.out.symm)) (HZ1.out.symm) HZ2.out ?_)
    exact hK _ _ (below_setRow ((Below.refl _ W).alloc (Nat.le_refl _) _) (Nat.le_refl _) _) ⟨W.heap.size, (by rw [← HZ.out]; exact (HN.out _ _).setRow Z), by rw [← HZ.out]; rfl⟩
  case body =>
    rintro l pre x rest a' W hxs hsz2 ⟨hI, hB⟩ ⟨Bx, hBb, rfl⟩
    have hxl : x.length = 64 := blocksOf_mem _ x (by rw [hxs]; simp)
    have hmx : Tryd.prog.follows .mixedOrders = true := by kernel_rfl
    obtain ⟨Z, hZ⟩ : ∃ Z, Z = (x.map bv).toArray := ⟨_, rfl⟩
    rw [← hZ] at hBb
    have hZ1 : Z.size = 64 := by rw [hZ]; simpa using hxl
    obtain ⟨C, hC⟩ : ∃ C, C = cells8 (mixAll s8 pre) := ⟨_, rfl⟩
    rw [← hC] at hI
    have hC1 : C.size = 8 := by rw [hC]; rfl
    have HZ := Lib.hid hZ; have HC := Lib.hid hC; have HI := Lib.hid hI; have HB := Lib.hid hB
    have HZ1 : Hid ((Tryd.prog.info? 56).map (·.size) = some Z.size) := infoB.trans (congrArg some hZ1.symm)
    have HC1 : Hid ((Tryd.prog.info? 52).map (·.size) = some C.size) := info8.trans (congrArg some hC1.symm)
    have HBb := Lib.hid hBb
    obtain ⟨F2, hF2⟩ : ∃ F2, F2 = ((sched x 64).map wv).toArray := ⟨_, rfl⟩
    obtain ⟨C2, hC2⟩ : ∃ C2, C2 = cells8 (mixAll s8 (pre ++ [x])) := ⟨_, rfl⟩
    have HS : Hid (∀ V, Calls Tryd.prog 44 #[.agg Z] V fun e w' => e = .returned (.agg F2) ∧ Below V.heap.size V w') := Lib.hid fun V => by
      have h := schedule_any x Z V hZ hxl
      rw [← hF2] at h
      exact h
    have HM2 : Hid (∀ V, Tab V → Calls Tryd.prog 43 #[.agg C, .agg F2] V fun e w' => e = .returned (.agg C2) ∧ Below V.heap.size V w') := Lib.hid fun V hV => by
      have h := mix_any (mixAll s8 pre) x F2 V (mixAll_ok s8_ok pre) hF2 hV
      rw [cells8_eq, ← mixAll_snoc, ← hC2] at h
      rw [hC]
      exact h
    have HC2 : Hid ((Tryd.prog.info? 52).map (·.size) = some C2.size ∧ C.size = C2.size ∧ C2.all (·.oneCell') = true) := ⟨info8.trans (congrArg some (by rw [hC2]; rfl)), by rw [hC, hC2]; rfl, by rw [hC2, ← cells8_eq]; exact wv_one _⟩
    have HT2 := Lib.hid fun (V : World) (h : Below w.heap.size w V) => HT.out.below h (Nat.le_refl _)
    have HCC := Lib.hid hC2
    clear hF2 hC2
    clear hxs hxl hZ1 hC1 hBb hI hB hC
    rw [← hZ]
    clear hZ
    gi_wp2
    refine wpIn_region_any hmx ?_
    change wpAnyIn _ _ _ _ _ _ _ _ _ (World.drew _)
    refine wpAnyIn_ready (rs := [0, 1]) (by kernel_rfl) (by simp) ?_
    refine AllReadyIn.cons rfl (fun K hK => ?_) (AllReadyIn.cons rfl (fun K hK => ?_) AllReadyIn.nil)
    · refine step_load_blk rfl 52 (.tmp 3) rfl w.heap.size rfl 52 C _ HI.out.drew Tryd.underlying52 rfl HC1.out ?_
      refine hK _ _ ?_
      clear hK K
      go_simp
      refine wpAnyIn_ready (rs := [1]) (by kernel_rfl) (by simp) ?_
      refine AllReadyIn.cons rfl (fun K hK => ?_) AllReadyIn.nil
      refine step_load_blk rfl 56 (.tmp 4) rfl Bx rfl 56 Z _ HBb.out.drew Tryd.underlying56 rfl HZ1.out ?_
      refine hK _ _ ?_
      clear hK K
      go_simp
      refine wpAnyIn_ready (rs := [2]) (by kernel_rfl) (by simp) ?_
      refine AllReadyIn.cons rfl (fun K hK => ?_) AllReadyIn.nil
      go_simp
      gi_wp2_with (refine ⟨trivial, ?_⟩; gi_at_call 44; refine (CallsIn.inRound l (callsIn_wide.2 (HS.out _))).mono ?_; rintro e W1 ⟨rfl, hb1⟩)
      have hB1 : Below w.heap.size w W1 := HB.out.drew.trans (hb1.mono HB.out.size)
      have hI1 : Blk W1 w.heap.size 52 C := HI.out.drew.below hb1 HI.out.lt
      have HB1 := Lib.hid hB1; have HI1 := Lib.hid hI1; have Hb1 := Lib.hid hb1
      clear hB1 hI1 hb1
      refine wpAnyIn_ready (rs := [3]) (by kernel_rfl) (by simp) ?_
      refine AllReadyIn.cons rfl (fun K hK => ?_) AllReadyIn.nil
      go_simp
      gi_wp2_with (refine ⟨trivial, ?_⟩; gi_at_call 43; refine (CallsIn.inRound l (callsIn_wide.2 (HM2.out _ (HT2.out _ HB1.out)))).mono ?_; rintro e W2 ⟨rfl, hb2⟩)
      have hB2 : Below w.heap.size w W2 := HB1.out.trans (hb2.mono HB1.out.size)
      have hI2 : Blk W2 w.heap.size 52 C := HI1.out.below hb2 HI1.out.lt
      have HB2 := Lib.hid hB2; have HI2 := Lib.hid hI2; have Hb2 := Lib.hid hb2
      clear hB2 hI2 hb2
      refine wpAnyIn_ready (rs := [4]) (by kernel_rfl) (by simp) ?_
      refine AllReadyIn.cons rfl (fun K hK => ?_) AllReadyIn.nil
      refine step_store_blk rfl 52 (.tmp 3) (.tmp 15) rfl w.heap.size C2 rfl rfl 52 C HI2.out HC2.out.1 HC2.out.2.1 HC2.out.2.2 ?_
      refine hK _ _ ?_
      refine wpAnyIn_done (by kernel_rfl) ?_ _
      refine ⟨rfl, ?_, ?_, below_setRow HB2.out (Nat.le_refl _) _⟩
      · exact (OldBut.of_below (W := W) ((Below.refl _ W).drew.trans Hb1.out)).trans ((OldBut.of_below Hb2.out).trans (OldBut.setRow W2 C2))
      · rw [← HCC.out]; exact HI2.out.setRow C2
    · refine step_load_blk rfl 56 (.tmp 4) rfl Bx rfl 56 Z _ HBb.out.drew Tryd.underlying56 rfl HZ1.out ?_
      refine hK _ _ ?_
      clear hK K
      go_simp
      refine wpAnyIn_ready (rs := [0, 2]) (by kernel_rfl) (by simp) ?_
      refine AllReadyIn.cons rfl (fun K hK => ?_) (AllReadyIn.cons rfl (fun K hK => ?_) AllReadyIn.nil)
      · refine step_load_blk rfl 52 (.tmp 3) rfl w.heap.size rfl 52 C _ HI.out.drew Tryd.underlying52 rfl HC1.out ?_
        refine hK _ _ ?_
        clear hK K
        go_simp
        refine wpAnyIn_ready (rs := [2]) (by kernel_rfl) (by simp) ?_
        refine AllReadyIn.cons rfl (fun K hK => ?_) AllReadyIn.nil
        go_simp
        gi_wp2_with (refine ⟨trivial, ?_⟩; gi_at_call 44; refine (CallsIn.inRound l (callsIn_wide.2 (HS.out _))).mono ?_; rintro e W1 ⟨rfl, hb1⟩)
        have hB1 : Below w.heap.size w W1 := HB.out.drew.trans (hb1.mono HB.out.size)
        have hI1 : Blk W1 w.heap.size 52 C := HI.out.drew.below hb1 HI.out.lt
        have HB1 := Lib.hid hB1; have HI1 := Lib.hid hI1; have Hb1 := Lib.hid hb1
        clear hB1 hI1 hb1
        refine wpAnyIn_ready (rs := [3]) (by kernel_rfl) (by simp) ?_
        refine AllReadyIn.cons rfl (fun K hK => ?_) AllReadyIn.nil
        go_simp
        gi_wp2_with (refine ⟨trivial, ?_⟩; gi_at_call 43; refine (CallsIn.inRound l (callsIn_wide.2 (HM2.out _ (HT2.out _ HB1.out)))).mono ?_; rintro e W2 ⟨rfl, hb2⟩)
        have hB2 : Below w.heap.size w W2 := HB1.out.trans (hb2.mono HB1.out.size)
        have hI2 : Blk W2 w.heap.size 52 C := HI1.out.below hb2 HI1.out.lt
        have HB2 := Lib.hid hB2; have HI2 := Lib.hid hI2; have Hb2 := Lib.hid hb2
        clear hB2 hI2 hb2
        refine wpAnyIn_ready (rs := [4]) (by kernel_rfl) (by simp) ?_
        refine AllReadyIn.cons rfl (fun K hK => ?_) AllReadyIn.nil
        refine step_store_blk rfl 52 (.tmp 3) (.tmp 15) rfl w.heap.size C2 rfl rfl 52 C HI2.out HC2.out.1 HC2.out.2.1 HC2.out.2.2 ?_
        refine hK _ _ ?_
        refine wpAnyIn_done (by kernel_rfl) ?_ _
        refine ⟨rfl, ?_, ?_, below_setRow HB2.out (Nat.le_refl _) _⟩
        · exact (OldBut.of_below (W := W) ((Below.refl _ W).drew.trans Hb1.out)).trans ((OldBut.of_below Hb2.out).trans (OldBut.setRow W2 C2))
        · rw [← HCC.out]; exact HI2.out.setRow C2
      · go_simp
        gi_wp2_with (refine ⟨trivial, ?_⟩; gi_at_call 44; refine (CallsIn.inRound l (callsIn_wide.2 (HS.out _))).mono ?_; rintro e W1 ⟨rfl, hb1⟩)
        have hB1 : Below w.heap.size w W1 := HB.out.drew.trans (hb1.mono HB.out.size)
        have hI1 : Blk W1 w.heap.size 52 C := HI.out.drew.below hb1 HI.out.lt
        have HB1 := Lib.hid hB1; have HI1 := Lib.hid hI1; have Hb1 := Lib.hid hb1
        clear hB1 hI1 hb1
        refine wpAnyIn_ready (rs := [0]) (by kernel_rfl) (by simp) ?_
        refine AllReadyIn.cons rfl (fun K hK => ?_) AllReadyIn.nil
        refine step_load_blk rfl 52 (.tmp 3) rfl w.heap.size rfl 52 C _ HI1.out Tryd.underlying52 rfl HC1.out ?_
        refine hK _ _ ?_
        clear hK K
        go_simp
        refine wpAnyIn_ready (rs := [3]) (by kernel_rfl) (by simp) ?_
        refine AllReadyIn.cons rfl (fun K hK => ?_) AllReadyIn.nil
        go_simp
        gi_wp2_with (refine ⟨trivial, ?_⟩; gi_at_call 43; refine (CallsIn.inRound l (callsIn_wide.2 (HM2.out _ (HT2.out _ HB1.out)))).mono ?_; rintro e W2 ⟨rfl, hb2⟩)
        have hB2 : Below w.heap.size w W2 := HB1.out.trans (hb2.mono HB1.out.size)
        have hI2 : Blk W2 w.heap.size 52 C := HI1.out.below hb2 HI1.out.lt
        have HB2 := Lib.hid hB2; have HI2 := Lib.hid hI2; have Hb2 := Lib.hid hb2
        clear hB2 hI2 hb2
        refine wpAnyIn_ready (rs := [4]) (by kernel_rfl) (by simp) ?_
        refine AllReadyIn.cons rfl (fun K hK => ?_) AllReadyIn.nil
        refine step_store_blk rfl 52 (.tmp 3) (.tmp 15) rfl w.heap.size C2 rfl rfl 52 C HI2.out HC2.out.1 HC2.out.2.1 HC2.out.2.2 ?_
        refine hK _ _ ?_
        refine wpAnyIn_done (by kernel_rfl) ?_ _
        refine ⟨rfl, ?_, ?_, below_setRow HB2.out (Nat.le_refl _) _⟩
        · exact (OldBut.of_below (W := W) ((Below.refl _ W).drew.trans Hb1.out)).trans ((OldBut.of_below Hb2.out).trans (OldBut.setRow W2 C2))
        · rw [← HCC.out]; exact HI2.out.setRow C2
  case done =>
    rintro D W hD ⟨hI, hB⟩ hK
    obtain ⟨i0, hi, hiz0, hiz1, hiz2⟩ := info_parts info_u8
    obtain ⟨t, ht⟩ : ∃ t, t = mixAll s8 (blocksOf (bytesOf L)) := ⟨_, rfl⟩
    rw [← ht] at hI
    have htok : t.ok := by rw [ht]; exact mixAll_ok s8_ok _
    have hsha : sha (bytesOf L) = t.words.flatMap be4 := by rw [ht]; rfl
    obtain ⟨C, hC⟩ : ∃ C, C = cells8 t := ⟨_, rfl⟩
    rw [← hC] at hI
    have hC1 : (Tryd.prog.info? 52).map (·.size) = some C.size := info8.trans (congrArg some (by rw [hC]; rfl))
    have hmk : ∀ w, (Instr.makeSlice 40 (.int .i64 0) (.int .i64 32)).run Tryd.prog w = .ok (.slice (some ⟨w.heap.size, 0, none⟩) 0 32) (w.alloc (.cells (Array.replicate 32 (.int .u8 0)) 5)) := fun _ => by kernel_rfl
    have HI := Lib.hid hI; have HB := Lib.hid hB; have HK := Lib.hid hK; have HC := Lib.hid hC; have HC1 := Lib.hid hC1; have HSHA := Lib.hid hsha; have HTOK := Lib.hid htok
    clear hI hB hK hC hC1 hsha htok ht
    have HI3 := Lib.hid fun (o : Obj) => HI.out.alloc o
    gi_wp2_with (refine wpListIn_load_blk rfl 52 (.tmp 3) rfl w.heap.size rfl 52 C _ (HI3.out _) Tryd.underlying52 rfl HC1.out ?_)
    clear HI3 hmk
    gi_loopw [5, 7, 18] (fun v _ jj wr => ∃ j : Nat, jj = .int .i64 j ∧ j ≤ 8 ∧ wr.ownsRow W.heap.size 5 1 v (4 * j) (((t.words.take j).flatMap be4).map bv) ∧ Below W.heap.size W wr)
      (fun _ _ jj _ => 8 - (intOf jj).toNat)
    case atStart =>
      exact ⟨0, rfl, by omega, (World.ownsRow_made (base := W.heap.size) (e := 5) (size := 1) W _ 32 (Nat.le_refl _) (by unfold maxLen; omega) rfl), (Below.refl _ W).alloc (Nat.le_refl _) _⟩
    case round =>
      obtain ⟨j, rfl, hj, hrow, hbw⟩ := hrel
      by_cases hlt : j < 8
      · have ij := index8 t ⟨j, hlt⟩
        have l1 := words_lt HTOK.out ⟨j, hlt⟩
        dsimp only at ij l1
        obtain ⟨x, hx⟩ : ∃ x, x = t.words.getD j 0 := ⟨_, rfl⟩
        rw [← hx] at ij l1
        have HIJ : Hid (∀ w, (Instr.index 52 (.agg C) (.int .i64 j)).run Tryd.prog w = .ok (.int .u32 (x : Nat)) w) := by rw [HC.out]; exact ij
        have hij := HIJ.out
        have HX := Lib.hid hx
        clear ij hx HIJ
        have hbs := hbw.size
        gi_wp2_with (gi_at_builtin; refine wpListIn_append_own _ rfl _ _ 40 rfl W.heap.size 5 i0 (.int .u8 0) 1 1 Tryd.underlying40 hi hiz0 hiz1 hiz2 rfl (by decide) _ _ _ rfl (hrow.alloc _) ⟨wr.heap.size, 0, none⟩ 4 4 [.int .u8 ((x : Int) / 16777216), .int .u8 ((x : Int) / 65536 % 256), .int .u8 ((x : Int) / 256 % 256), .int .u8 ((x : Int) % 256)] rfl rfl (cells_new _ _ _) (by simp [Value.oneCell']) (by unfold maxLen; omega) (by omega) (by simp; omega) ?_; intro v1 w1 hown1 hgrow1 _; have hB1 := ((hbw.alloc hbs _).grown hgrow1 (by simp; omega) (own_base hrow)); have HO1 := Lib.hid hown1; clear hown1 hgrow1)
        go_roundw
        case rel =>
          refine ⟨j + 1, by go_num, by omega, ?_, hB1⟩
          rw [words_take t ⟨j, hlt⟩, ← HX.out, List.map_append, be4_map l1]
          exact HO1.out
        case measure => simp [intOf]; omega
      · have hj8 : j = 8 := by omega
        have e1 : 4 * j = (sha (bytesOf L)).length := by rw [sha_length]; omega
        have e2 : (t.words.take j).flatMap be4 = sha (bytesOf L) := by rw [HSHA.out, hj8]; rfl
        rw [e1, e2] at hrow
        have hcv := run_string_own (P := Tryd.prog) 40 9 Tryd.underlying40 Tryd.underlying5 Tryd.underlying9 hrow
        have HBW := Lib.hid hbw
        have hK3 : wr.heap[D]? = some (.deferred (some [])) := (hbw.block D (Array.getElem?_eq_some_iff.1 HK.out).1).trans HK.out
        have HK3 := Lib.hid hK3
        clear e1 e2 hrow hbw hK3 hj8
        gi_wp2
        refine ⟨by simp, .inl ⟨_, _, rfl, run_takeDeferred HK3.out, ?_⟩⟩
        refine ⟨_, results_tmp rfl _ _ _, rfl, ?_⟩
        have hDW : w.heap.size ≤ D := by rw [World.size_alloc, World.size_alloc] at hD; omega
        exact (HB.out.trans (HBW.out.mono HB.out.size)).trans (belowK_b (w := w) (Nat.le_refl _) wr D _ _ hDW HK3.out rfl rfl)
end Go.Proofs.YthaegodeijfbdaaDoor
