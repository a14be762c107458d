
/- The contract of areLeastPossible. Conditions: the slice and the map read, persons that are there, bounds that do not overflow. -/
import Derived.Test.YtbcgfohacbapoaaPo6
namespace Go.Proofs.Ytbcgfohacbapoaa
open Go.RowKit Go.Shelf Go.Lib
attribute [local go_sem] Oper.semAt_some

/-- What is asked of one direction. -/
def okE (F : Int → Sk) (e : Ed) : Prop := (F e.o).lo ≤ (F e.o).hi ∧ (F e.o).lo - (F e.r).lo = e.a
noncomputable instance (E : List Ed) (F : Int → Sk) : Decidable (Lst E F) := Classical.propDecidable _
set_option maxRecDepth 100000 in
set_option maxHeartbeats 8000000 in
theorem pleast_any (mb n : Nat) (K : Int → Bool) (F : Int → Sk) (C : Int) (ms : List Mt) (B : Option Addr) (d : Nat) (w : World) (hM : MapB w mb n K F) (hB : Mz w B ms) (hl : ms.length ≤ 60) (ht : Tms ms) (hE : EdOk (sdL ms) K) (hF : Bd F C) (hC : C ≤ 1000000000000000) :
    Calls Try.prog 110 #[.map (some mb), .slice B ms.length d] w fun e w' => e = .returned (.bool (decide (Lst (sdL ms) F))) ∧ Below w.heap.size w w' := by
  have HE := Lib.hid hE; have HF := Lib.hid hF
  have hmbw := hM.lt
  have hq : 0 < ms.length → ∀ b o, B = some ⟨b, o, none⟩ → b ≠ w.heap.size + 1 := fun h b o e => by subst e; have := hB.here (i := 0) h; omega
  have HL := Lib.hid hl; have HT := Lib.hid ht; have HC := Lib.hid hC
  clear hE hF hC hl ht
  refine (callsIn_wide (n := 8)).1 ?_
  refine callsIn_of_wp_marks Try.func110 rfl trivial ?_ rfl
  simp only [Try.ntmps110, List.size_toArray, List.length_cons, List.length_nil, Nat.reduceAdd, Nat.reduceSub, Array.replicate_succ, Array.replicate_zero, List.push_toArray, List.append_toArray, List.nil_append, List.cons_append]
  gi_wp2_with (refine ⟨trivial, ?_⟩; gi_at_call 112; refine (sides_in _ ms _ d _).mono ?_; rintro e w1 ⟨rfl, rfl⟩)
  have hb0 : Below w.heap.size w (((w.alloc (.cells #[.map (some mb)] 124)).alloc (.cells #[.bool false] 4)).alloc (.cells #[.slice B ms.length d] 82)) := allocs_below [(#[.map (some mb)], 124), (#[.bool false], 4), (#[.slice B ms.length d], 82)] w (Below.refl _ _) (Nat.le_refl _)
  have hk0 : Blk (((w.alloc (.cells #[.map (some mb)] 124)).alloc (.cells #[.bool false] 4)).alloc (.cells #[.slice B ms.length d] 82)) (w.heap.size) 124 #[.map (some mb)] := allocs_blk [(#[.map (some mb)], 124), (#[.bool false], 4), (#[.slice B ms.length d], 82)] w 0 _ rfl
  have hk1 : Blk (((w.alloc (.cells #[.map (some mb)] 124)).alloc (.cells #[.bool false] 4)).alloc (.cells #[.slice B ms.length d] 82)) (w.heap.size + 1) 4 #[.bool false] := allocs_blk [(#[.map (some mb)], 124), (#[.bool false], 4), (#[.slice B ms.length d], 82)] w 1 _ rfl
  have hk2 : Blk (((w.alloc (.cells #[.map (some mb)] 124)).alloc (.cells #[.bool false] 4)).alloc (.cells #[.slice B ms.length d] 82)) (w.heap.size + 2) 82 #[.slice B ms.length d] := allocs_blk [(#[.map (some mb)], 124), (#[.bool false], 4), (#[.slice B ms.length d], 82)] w 2 _ rfl
  have hsz : (((w.alloc (.cells #[.map (some mb)] 124)).alloc (.cells #[.bool false] 4)).alloc (.cells #[.slice B ms.length d] 82)).heap.size = w.heap.size + 3 := by simp
  obtain ⟨W0, hW0⟩ : ∃ W0, ((w.alloc (.cells #[.map (some mb)] 124)).alloc (.cells #[.bool false] 4)).alloc (.cells #[.slice B ms.length d] 82) = W0 := ⟨_, rfl⟩
  rw [hW0] at hb0 hk0 hk1 hk2 hsz ⊢
  have hM0 : MapB W0 mb n K F := hM.below hb0 hmbw
  have hB0 : Mz W0 B ms := hB.below hb0 (Nat.le_refl _)
  clear hW0 hM hB
  have hmc := hk2.cell (i := 0) (v := .slice B ms.length d) rfl
  refine wpIn_rangeFunc_ownH rfl (by omega) (gf := 113) (lb := #[.pointer (some ⟨w.heap.size + 2, 0, none⟩)]) rfl trivial (enters_of Try.func113 (by kernel_rfl) rfl)
    (sides_stops (8 - 1) (w.heap.size + 1) (w.heap.size + 2) d B ms HL.out HT.out (by omega) hq W0 (by omega) (by omega) hmc hB0) (fun h k => h.trans k) (fun W l o o' _ h1 h2 _ => KpC.put W l o o' h1 h2) (Below.refl _ _) (fun _ => rfl)
    (fun pre W => ((((MapB W mb n K F ∧ Blk W w.heap.size 124 #[.map (some mb)]) ∧ Blk W (w.heap.size + 1) 4 #[.bool false]) ∧ (W0.heap.size ≤ W.heap.size ∧ ∀ e ∈ vls pre, okE F e)) ∧ Below w.heap.size w W))
    (fun c pre W => ((c = .ret ∧ ∃ e ∈ sdL ms, ¬ okE F e) ∧ Blk W (w.heap.size + 1) 4 #[.bool false]) ∧ Below w.heap.size w W)
    (OwnFrom.and (OwnFrom.and (OwnFrom.and (OwnFrom.and (map_own (by omega) _) (Own.from (blk_own _ _ _) _)) (Own.from (blk_own _ _ _) _)) (fun _ X Y row hs hg _ => ⟨Nat.le_trans hs.1 hg.size, hs.2⟩)) (ownFrom_below (Nat.le_refl _) (by omega)))
    (fun _ => OwnFrom.and (OwnFrom.and (fun _ _ _ _ hs _ _ => hs) (Own.from (blk_own _ _ _) _)) (ownFrom_below (Nat.le_refl _) (by omega)))
    ⟨⟨⟨⟨hM0, hk0⟩, hk1⟩, Nat.le_refl _, fun x hx => by cases hx⟩, hb0⟩
    (fun x a' W => ∃ Ba, w.heap.size + 2 < Ba ∧ Blk W Ba 31 #[.int .i64 x.1.o, .int .i64 x.1.r] ∧ a' = { tmps := #[.map (some mb), .slice B ms.length d, .pointer (some ⟨w.heap.size, 0, none⟩), undef, .pointer (some ⟨w.heap.size + 1, 0, none⟩), .pointer (some ⟨Ba, 0, none⟩), .int .i64 x.1.a, undef, undef, .slice B ms.length d, .func (.func 113) #[] #[.pointer (some ⟨w.heap.size + 2, 0, none⟩)], .agg #[.int .i64 x.1.o, .int .i64 x.1.r], .int .i64 x.1.a, undef, undef, undef, undef, undef, undef, undef, undef, undef, undef, undef, undef, undef, undef, undef, undef, undef, undef, undef, undef, undef, undef], defers := [] })
    (fun x a' _ X Y row hs hg hr => by
      obtain ⟨Ba, h1, h2, h4⟩ := hs
      exact ⟨Ba, h1, blk_own Ba 31 (fun (_ : Unit) => #[.int .i64 x.1.o, .int .i64 x.1.r]) () X Y row h2 hg (fun r e => (hr r e).2), h4⟩)
    ?assign ?body ?done ?stop
  case assign =>
    rintro l pre x W K ⟨⟨⟨⟨hM, bB⟩, bC⟩, hLW, hok⟩, hG⟩ hK
    gi_wp2
    have hl3 : w.heap.size + 3 ≤ W.heap.size := by omega
    have hb1 : Below W.heap.size W (W.alloc (.cells #[.int .i64 x.1.o, .int .i64 x.1.r] 31)) := (Below.refl _ W).alloc (Nat.le_refl _) _
    exact hK _ _ ((KeepsOthers.alloc _ _).from _) (KpC.of_below hb1) ⟨⟨⟨⟨hM.alloc _, bB.alloc _⟩, bC.alloc _⟩, by simp; omega, hok⟩, hG.alloc hG.size _⟩ ⟨W.heap.size, by omega, Blk.new W _ _, rfl⟩
  case done =>
    rintro D ys W hD hys ⟨⟨⟨⟨hM, bB⟩, bC⟩, hLW, hok⟩, hG⟩ hK
    rw [hys] at hok
    have HR : Hid (decide (Lst (sdL ms) F) = true) := Lib.hid (decide_eq_true hok)
    have y0 := bC.cell (i := 0) (v := .bool false) rfl
    have y1 := bC.frozen 0
    gi_wp2
    have hK' := (KeepsOthers.setCell W ⟨w.heap.size + 1, 0, none⟩ (.bool true)).same D _ hK rfl
    refine ⟨by simp, .inl ⟨_, _, rfl, run_takeDeferred hK', ?_⟩⟩
    have hc5 := cell_kept ((bC.set 0 (.bool true)).cell (i := 0) (v := .bool true) rfl) (grownBy_putObj' _ D (.deferred none)) (fun r e => by cases e; exact ⟨_, hK', rfl⟩)
    refine ⟨.bool true, ?_, by rw [HR.out], (hG.setCell (p := ⟨w.heap.size + 1, 0, none⟩) (by show w.heap.size ≤ w.heap.size + 1; omega) _).trans (belowK_b (w := w) (Nat.le_refl _) _ D _ _ (by omega) hK' rfl rfl)⟩
    simp [results, Try.results110, go_sem, hc5]
  case stop =>
    rintro D c2 pre W hD _ ⟨⟨⟨rfl, e, hem, hne⟩, bR⟩, hG⟩ hK
    have HR : Hid (decide (Lst (sdL ms) F) = false) := Lib.hid (decide_eq_false fun h => hne (h e hem))
    have hcr := bR.cell (i := 0) (v := .bool false) rfl
    gi_wp2
    refine ⟨by simp, .inl ⟨_, _, rfl, run_takeDeferred hK, ?_⟩⟩
    have hc5 := cell_kept hcr (grownBy_putObj' _ D (.deferred none)) (fun r e => by cases e; exact ⟨_, hK, rfl⟩)
    refine ⟨.bool false, ?_, by rw [HR.out], hG.trans (belowK_b (w := w) (Nat.le_refl _) W D _ _ (by omega) hK rfl rfl)⟩
    simp [results, Try.results110, go_sem, hc5]
  case body =>
    rintro l pre x a' W hl ⟨r, hr⟩ ⟨⟨⟨⟨hM, bB⟩, bC⟩, hLW, hok⟩, hG⟩ ⟨Ba, hBa, kA, rfl⟩ hlt
    have hx := HE.out x.1 x.2
    have HVS : Hid (okE F x.1 → ∀ e ∈ vls (pre ++ [x]), okE F e) := Lib.hid (fun h e he => by
      rw [vls_snoc] at he
      rcases List.mem_append.1 he with he | he
      · exact hok e he
      · rw [List.mem_singleton] at he; rw [he]; exact h)
    clear hlt hok
    obtain ⟨⟨eo, er, ea⟩, hxm⟩ := x
    dsimp only at *
    have hbo := HF.out eo; have hbr := HF.out er
    have HCC := HC.out
    have HXM := Lib.hid hxm
    obtain ⟨own, hown⟩ : ∃ s, s = F eo := ⟨_, rfl⟩
    obtain ⟨oth, hoth⟩ : ∃ s, s = F er := ⟨_, rfl⟩
    rw [← hown] at hbo; rw [← hoth] at hbr
    obtain ⟨p, lo, hi⟩ := own
    obtain ⟨op, olo, ohi⟩ := oth
    dsimp only at hbo hbr
    have HFO : Hid (F eo = ⟨p, lo, hi⟩) := Lib.hid hown.symm
    have HFR : Hid (F er = ⟨op, olo, ohi⟩) := Lib.hid hoth.symm
    obtain ⟨df, hdf⟩ : ∃ x, x = lo - olo := ⟨_, rfl⟩
    have e1 : IntKind.i64.wrap (lo - olo) = df := by rw [hdf]; exact IntWalk.i64_in _ (by omega)
    have HOK : Hid (okE F ⟨eo, er, ea⟩ ↔ lo ≤ hi ∧ df = ea) := Lib.hid (by unfold okE; dsimp only; rw [HFO.out, HFR.out, hdf])
    clear hown hoth hdf hbo hbr
    have HX := Lib.hid hx; have HHL := Lib.hid hl; have HM := Lib.hid hM; have HBB := Lib.hid bB; have HBC := Lib.hid bC; have HKA := Lib.hid kA; have HLW := Lib.hid hLW; have HG := Lib.hid hG; have HBA := Lib.hid hBa; have HSZ := Lib.hid hsz; have HMW := Lib.hid hmbw
    clear hx hr hM bB bC kA hLW hG hk0 hk1 hk2 hmc hM0 hB0 hb0 HCC hq
    gi_wp2_with fail
    refine wpIn_region_growF (S := (fun w' => w'.cell? ⟨w.heap.size, 0, none⟩ = some (.map (some mb)) ∧ w'.cell? ⟨Ba, 0, none⟩ = some (.int .i64 eo) ∧ w'.cell? ⟨Ba, 1, none⟩ = some (.int .i64 er) ∧ MapB w' mb n K F)) ((fun w' => Below W.heap.size W w')) (by kernel_rfl) (⟨fun w2 h2 => ⟨(h2.cell (p := ⟨w.heap.size, 0, none⟩) HBB.out.lt).trans (HBB.out.cell (i := 0) rfl), (h2.cell (p := ⟨Ba, 0, none⟩) HKA.out.lt).trans (HKA.out.cell (i := 0) rfl), (h2.cell (p := ⟨Ba, 1, none⟩) HKA.out.lt).trans (HKA.out.cell (i := 1) rfl), HM.out.below h2 HM.out.lt⟩, fun w2 w3 h2 hb2 => h2.trans (hb2.mono h2.size)⟩) ((Below.refl _ _).drew) (fun hCalm => ?_)
    refine growF_take (by kernel_rfl) 0 (some 13) ?_ rfl rfl (by kernel_rfl) (fun _ _ _ h => h) (by kernel_rfl) hCalm ?_ ?_
    rotate_left
    · intro wS hS; (try dsimp only at hS); go_simp <;> with_reducible rfl
    try simp only [Act.put, List.setIfInBounds_toArray, List.set_cons_zero, List.set_cons_succ]
    refine growF_take (by kernel_rfl) 1 (some 14) ?_ rfl rfl (by kernel_rfl) (fun _ _ _ h => h) (by kernel_rfl) hCalm ?_ ?_
    rotate_left
    · intro wS hS; (try dsimp only at hS); go_simp <;> with_reducible rfl
    try simp only [Act.put, List.setIfInBounds_toArray, List.set_cons_zero, List.set_cons_succ]
    refine growF_take (by kernel_rfl) 2 (some 15) ?_ rfl rfl (by kernel_rfl) (fun _ _ _ h => h) (by kernel_rfl) hCalm ?_ ?_
    rotate_left
    · intro wS hS; (try dsimp only at hS); go_simp <;> with_reducible rfl
    try simp only [Act.put, List.setIfInBounds_toArray, List.set_cons_zero, List.set_cons_succ]
    refine growF_take (by kernel_rfl) 3 (some 16) (.agg #[.int .i64 p, .int .i64 lo, .int .i64 hi]) rfl rfl (by kernel_rfl) (fun _ _ _ h => h) (by kernel_rfl) hCalm ?_ ?_
    · intro wS hS; (try dsimp only at hS)
      have hlk := hS.2.2.2.look HX.out.1.1
      rw [HFO.out] at hlk
      go_simp
    try simp only [Act.put, List.setIfInBounds_toArray, List.set_cons_zero, List.set_cons_succ]
    refine growF_take (by kernel_rfl) 4 (some 17) ?_ rfl rfl (by kernel_rfl) (fun _ _ _ h => h) (by kernel_rfl) hCalm ?_ ?_
    rotate_left
    · intro wS hS; (try dsimp only at hS); go_simp <;> with_reducible rfl
    try simp only [Act.put, List.setIfInBounds_toArray, List.set_cons_zero, List.set_cons_succ]
    refine growF_take (by kernel_rfl) 5 (some 18) ?_ rfl rfl (by kernel_rfl) (fun _ _ _ h => h) (by kernel_rfl) hCalm ?_ ?_
    rotate_left
    · intro wS hS; (try dsimp only at hS); go_simp <;> with_reducible rfl
    try simp only [Act.put, List.setIfInBounds_toArray, List.set_cons_zero, List.set_cons_succ]
    refine growF_take (by kernel_rfl) 6 (some 19) ?_ rfl rfl (by kernel_rfl) (fun _ _ _ h => h) (by kernel_rfl) hCalm ?_ ?_
    rotate_left
    · intro wS hS; (try dsimp only at hS); go_simp <;> with_reducible rfl
    try simp only [Act.put, List.setIfInBounds_toArray, List.set_cons_zero, List.set_cons_succ]
    refine growF_take (by kernel_rfl) 7 (some 20) (.agg #[.int .i64 op, .int .i64 olo, .int .i64 ohi]) rfl rfl (by kernel_rfl) (fun _ _ _ h => h) (by kernel_rfl) hCalm ?_ ?_
    · intro wS hS; (try dsimp only at hS)
      have hlk := hS.2.2.2.look HX.out.2
      rw [HFR.out] at hlk
      go_simp
    try simp only [Act.put, List.setIfInBounds_toArray, List.set_cons_zero, List.set_cons_succ]
    refine growF_each [8, 9] (by kernel_rfl) (by decide) ?_
    refine growF_cons 8 rfl (by kernel_rfl) (fun wA hA K hK => ?_) ?_
    case _ =>
      obtain ⟨pown, hpown⟩ : ∃ b, b = wA.heap.size := ⟨_, rfl⟩
      have le_pown : W.heap.size ≤ pown := by rw [hpown]; exact hA.size
      have hnew : Blk (wA.alloc (.cells #[.int .i64 0, .int .i64 0, .int .i64 0] 77)) pown 77 #[.int .i64 0, .int .i64 0, .int .i64 0] := by rw [hpown]; exact Blk.new wA _ _
      go_simp
      rw [← hpown]
      refine hK.out _ _ (fun w' => Below W.heap.size W w' ∧ Blk w' pown 77 #[.int .i64 0, .int .i64 0, .int .i64 0]) ⟨fun w2 h2 => ⟨(h2.1.cell (p := ⟨w.heap.size, 0, none⟩) HBB.out.lt).trans (HBB.out.cell (i := 0) rfl), (h2.1.cell (p := ⟨Ba, 0, none⟩) HKA.out.lt).trans (HKA.out.cell (i := 0) rfl), (h2.1.cell (p := ⟨Ba, 1, none⟩) HKA.out.lt).trans (HKA.out.cell (i := 1) rfl), HM.out.below h2.1 HM.out.lt⟩, fun w2 w3 h2 hb2 => ⟨h2.1.trans (hb2.mono h2.1.size), h2.2.below hb2 h2.2.lt⟩⟩ ⟨hA.alloc hA.size _, hnew⟩ ?_
      clear hnew hpown hK K hA wA hCalm
      have hCalm : Calm (fun w' => w'.cell? ⟨w.heap.size, 0, none⟩ = some (.map (some mb)) ∧ w'.cell? ⟨Ba, 0, none⟩ = some (.int .i64 eo) ∧ w'.cell? ⟨Ba, 1, none⟩ = some (.int .i64 er) ∧ MapB w' mb n K F) (fun w' => Below W.heap.size W w' ∧ Blk w' pown 77 #[.int .i64 0, .int .i64 0, .int .i64 0]) := ⟨fun w2 h2 => ⟨(h2.1.cell (p := ⟨w.heap.size, 0, none⟩) HBB.out.lt).trans (HBB.out.cell (i := 0) rfl), (h2.1.cell (p := ⟨Ba, 0, none⟩) HKA.out.lt).trans (HKA.out.cell (i := 0) rfl), (h2.1.cell (p := ⟨Ba, 1, none⟩) HKA.out.lt).trans (HKA.out.cell (i := 1) rfl), HM.out.below h2.1 HM.out.lt⟩, fun w2 w3 h2 hb2 => ⟨h2.1.trans (hb2.mono h2.1.size), h2.2.below hb2 h2.2.lt⟩⟩
      try simp only [Act.put, List.setIfInBounds_toArray, List.set_cons_zero, List.set_cons_succ]
      refine growF_each [9] (by kernel_rfl) (by decide) ?_
      refine growF_cons 9 rfl (by kernel_rfl) (fun wA hA K hK => ?_) growF_nil
      obtain ⟨poth, hpoth⟩ : ∃ b, b = wA.heap.size := ⟨_, rfl⟩
      have le_poth : W.heap.size ≤ poth := by rw [hpoth]; exact hA.1.size
      have lt_own_poth : pown < poth := by rw [hpoth]; exact hA.2.lt
      have hnew : Blk (wA.alloc (.cells #[.int .i64 0, .int .i64 0, .int .i64 0] 77)) poth 77 #[.int .i64 0, .int .i64 0, .int .i64 0] := by rw [hpoth]; exact Blk.new wA _ _
      go_simp
      rw [← hpoth]
      refine hK.out _ _ (fun w' => Below W.heap.size W w' ∧ Blk w' pown 77 #[.int .i64 0, .int .i64 0, .int .i64 0] ∧ Blk w' poth 77 #[.int .i64 0, .int .i64 0, .int .i64 0]) ⟨fun w2 h2 => ⟨(h2.1.cell (p := ⟨w.heap.size, 0, none⟩) HBB.out.lt).trans (HBB.out.cell (i := 0) rfl), (h2.1.cell (p := ⟨Ba, 0, none⟩) HKA.out.lt).trans (HKA.out.cell (i := 0) rfl), (h2.1.cell (p := ⟨Ba, 1, none⟩) HKA.out.lt).trans (HKA.out.cell (i := 1) rfl), HM.out.below h2.1 HM.out.lt⟩, fun w2 w3 h2 hb2 => ⟨h2.1.trans (hb2.mono h2.1.size), h2.2.1.below hb2 h2.2.1.lt, h2.2.2.below hb2 h2.2.2.lt⟩⟩ ⟨hA.1.alloc hA.1.size _, hA.2.alloc _, hnew⟩ ?_
      clear hnew hpoth hK K hA wA hCalm
      have hCalm : Calm (fun w' => w'.cell? ⟨w.heap.size, 0, none⟩ = some (.map (some mb)) ∧ w'.cell? ⟨Ba, 0, none⟩ = some (.int .i64 eo) ∧ w'.cell? ⟨Ba, 1, none⟩ = some (.int .i64 er) ∧ MapB w' mb n K F) (fun w' => Below W.heap.size W w' ∧ Blk w' pown 77 #[.int .i64 0, .int .i64 0, .int .i64 0] ∧ Blk w' poth 77 #[.int .i64 0, .int .i64 0, .int .i64 0]) := ⟨fun w2 h2 => ⟨(h2.1.cell (p := ⟨w.heap.size, 0, none⟩) HBB.out.lt).trans (HBB.out.cell (i := 0) rfl), (h2.1.cell (p := ⟨Ba, 0, none⟩) HKA.out.lt).trans (HKA.out.cell (i := 0) rfl), (h2.1.cell (p := ⟨Ba, 1, none⟩) HKA.out.lt).trans (HKA.out.cell (i := 1) rfl), HM.out.below h2.1 HM.out.lt⟩, fun w2 w3 h2 hb2 => ⟨h2.1.trans (hb2.mono h2.1.size), h2.2.1.below hb2 h2.2.1.lt, h2.2.2.below hb2 h2.2.2.lt⟩⟩
      try simp only [Act.put, List.setIfInBounds_toArray, List.set_cons_zero, List.set_cons_succ]
      refine growF_each [10] (by kernel_rfl) (by decide) ?_
      refine growF_cons 10 rfl (by kernel_rfl) (fun wA hA K hK => ?_) growF_nil
      have z0 := hA.2.1.cell (i := 0) (v := .int .i64 0) rfl; have f0 := hA.2.1.frozen 0
      have z1 := hA.2.1.cell (i := 1) (v := .int .i64 0) rfl; have f1 := hA.2.1.frozen 1
      have z2 := hA.2.1.cell (i := 2) (v := .int .i64 0) rfl; have f2 := hA.2.1.frozen 2
      go_simp
      refine hK.out _ _ (fun w' => Below W.heap.size W w' ∧ Blk w' pown 77 #[.int .i64 p, .int .i64 lo, .int .i64 hi] ∧ Blk w' poth 77 #[.int .i64 0, .int .i64 0, .int .i64 0]) ⟨fun w2 h2 => ⟨(h2.1.cell (p := ⟨w.heap.size, 0, none⟩) HBB.out.lt).trans (HBB.out.cell (i := 0) rfl), (h2.1.cell (p := ⟨Ba, 0, none⟩) HKA.out.lt).trans (HKA.out.cell (i := 0) rfl), (h2.1.cell (p := ⟨Ba, 1, none⟩) HKA.out.lt).trans (HKA.out.cell (i := 1) rfl), HM.out.below h2.1 HM.out.lt⟩, fun w2 w3 h2 hb2 => ⟨h2.1.trans (hb2.mono h2.1.size), h2.2.1.below hb2 h2.2.1.lt, h2.2.2.below hb2 h2.2.2.lt⟩⟩ ⟨(((hA.1.setCell (p := ⟨pown, 0, none⟩) (by show W.heap.size ≤ pown; omega) _).setCell (p := ⟨pown, 1, none⟩) (by show W.heap.size ≤ pown; omega) _).setCell (p := ⟨pown, 2, none⟩) (by show W.heap.size ≤ pown; omega) _), (((hA.2.1.set 0 _).set 1 _).set 2 _), (((hA.2.2.far (p := ⟨pown, 0, none⟩) (by show poth ≠ pown; omega) _).far (p := ⟨pown, 1, none⟩) (by show poth ≠ pown; omega) _).far (p := ⟨pown, 2, none⟩) (by show poth ≠ pown; omega) _)⟩ ?_
      clear z0 f0 z1 f1 z2 f2 hK K hA wA hCalm
      have hCalm : Calm (fun w' => w'.cell? ⟨w.heap.size, 0, none⟩ = some (.map (some mb)) ∧ w'.cell? ⟨Ba, 0, none⟩ = some (.int .i64 eo) ∧ w'.cell? ⟨Ba, 1, none⟩ = some (.int .i64 er) ∧ MapB w' mb n K F) (fun w' => Below W.heap.size W w' ∧ Blk w' pown 77 #[.int .i64 p, .int .i64 lo, .int .i64 hi] ∧ Blk w' poth 77 #[.int .i64 0, .int .i64 0, .int .i64 0]) := ⟨fun w2 h2 => ⟨(h2.1.cell (p := ⟨w.heap.size, 0, none⟩) HBB.out.lt).trans (HBB.out.cell (i := 0) rfl), (h2.1.cell (p := ⟨Ba, 0, none⟩) HKA.out.lt).trans (HKA.out.cell (i := 0) rfl), (h2.1.cell (p := ⟨Ba, 1, none⟩) HKA.out.lt).trans (HKA.out.cell (i := 1) rfl), HM.out.below h2.1 HM.out.lt⟩, fun w2 w3 h2 hb2 => ⟨h2.1.trans (hb2.mono h2.1.size), h2.2.1.below hb2 h2.2.1.lt, h2.2.2.below hb2 h2.2.2.lt⟩⟩
      try simp only [Act.put]
      refine growF_each [11] (by kernel_rfl) (by decide) ?_
      refine growF_cons 11 rfl (by kernel_rfl) (fun wA hA K hK => ?_) growF_nil
      have z0 := hA.2.2.cell (i := 0) (v := .int .i64 0) rfl; have f0 := hA.2.2.frozen 0
      have z1 := hA.2.2.cell (i := 1) (v := .int .i64 0) rfl; have f1 := hA.2.2.frozen 1
      have z2 := hA.2.2.cell (i := 2) (v := .int .i64 0) rfl; have f2 := hA.2.2.frozen 2
      go_simp
      refine hK.out _ _ (fun w' => Below W.heap.size W w' ∧ Blk w' pown 77 #[.int .i64 p, .int .i64 lo, .int .i64 hi] ∧ Blk w' poth 77 #[.int .i64 op, .int .i64 olo, .int .i64 ohi]) ⟨fun w2 h2 => ⟨(h2.1.cell (p := ⟨w.heap.size, 0, none⟩) HBB.out.lt).trans (HBB.out.cell (i := 0) rfl), (h2.1.cell (p := ⟨Ba, 0, none⟩) HKA.out.lt).trans (HKA.out.cell (i := 0) rfl), (h2.1.cell (p := ⟨Ba, 1, none⟩) HKA.out.lt).trans (HKA.out.cell (i := 1) rfl), HM.out.below h2.1 HM.out.lt⟩, fun w2 w3 h2 hb2 => ⟨h2.1.trans (hb2.mono h2.1.size), h2.2.1.below hb2 h2.2.1.lt, h2.2.2.below hb2 h2.2.2.lt⟩⟩ ⟨(((hA.1.setCell (p := ⟨poth, 0, none⟩) (by show W.heap.size ≤ poth; omega) _).setCell (p := ⟨poth, 1, none⟩) (by show W.heap.size ≤ poth; omega) _).setCell (p := ⟨poth, 2, none⟩) (by show W.heap.size ≤ poth; omega) _), (((hA.2.1.far (p := ⟨poth, 0, none⟩) (by show pown ≠ poth; omega) _).far (p := ⟨poth, 1, none⟩) (by show pown ≠ poth; omega) _).far (p := ⟨poth, 2, none⟩) (by show pown ≠ poth; omega) _), (((hA.2.2.set 0 _).set 1 _).set 2 _)⟩ ?_
      clear z0 f0 z1 f1 z2 f2 hK K hA wA hCalm
      have hCalm : Calm (fun w' => w'.cell? ⟨w.heap.size, 0, none⟩ = some (.map (some mb)) ∧ w'.cell? ⟨Ba, 0, none⟩ = some (.int .i64 eo) ∧ w'.cell? ⟨Ba, 1, none⟩ = some (.int .i64 er) ∧ MapB w' mb n K F) (fun w' => Below W.heap.size W w' ∧ Blk w' pown 77 #[.int .i64 p, .int .i64 lo, .int .i64 hi] ∧ Blk w' poth 77 #[.int .i64 op, .int .i64 olo, .int .i64 ohi]) := ⟨fun w2 h2 => ⟨(h2.1.cell (p := ⟨w.heap.size, 0, none⟩) HBB.out.lt).trans (HBB.out.cell (i := 0) rfl), (h2.1.cell (p := ⟨Ba, 0, none⟩) HKA.out.lt).trans (HKA.out.cell (i := 0) rfl), (h2.1.cell (p := ⟨Ba, 1, none⟩) HKA.out.lt).trans (HKA.out.cell (i := 1) rfl), HM.out.below h2.1 HM.out.lt⟩, fun w2 w3 h2 hb2 => ⟨h2.1.trans (hb2.mono h2.1.size), h2.2.1.below hb2 h2.2.1.lt, h2.2.2.below hb2 h2.2.2.lt⟩⟩
      try simp only [Act.put]
      refine growF_done (by kernel_rfl) (fun wA hA => ?_) _
      have HBW := Lib.hid hA.1; have HO := Lib.hid hA.2.1; have HR := Lib.hid hA.2.2
      clear hA
      have o0 := HO.out.cell (i := 0) (v := .int .i64 p) rfl
      have o1 := HO.out.cell (i := 1) (v := .int .i64 lo) rfl
      have o2 := HO.out.cell (i := 2) (v := .int .i64 hi) rfl
      have r1 := HR.out.cell (i := 1) (v := .int .i64 olo) rfl
      have HC1 := Lib.hid (HBC.out.below HBW.out HBC.out.lt)
      have cc := HC1.out.cell (i := 0) (v := .bool false) rfl; have cf := HC1.out.frozen 0
      by_cases h1 : lo ≤ hi
      case neg =>
        have d1 : decide (lo > hi) = true := decide_eq_true (by omega)
        have H1 := Lib.hid h1; clear h1
        have hundef := un_none
        gi_wp2_with fail
        exact ⟨(keeps_of_below HBW.out).trans ((KeepsOthers.setCell _ _ _).from _), ⟨⟨rfl, _, HXM.out, fun h => absurd (HOK.out.1 h).1 (by have := H1.out; omega)⟩, (HBC.out.below HBW.out HBC.out.lt).set 0 _⟩, (HG.out.trans (HBW.out.mono HG.out.size)).setCell (p := ⟨w.heap.size + 1, 0, none⟩) (by show w.heap.size ≤ w.heap.size + 1; omega) _⟩
      case pos =>
        have d1 : decide (lo > hi) = false := decide_eq_false (by omega)
        have H1 := Lib.hid h1; clear h1
        by_cases h2 : df = ea
        case neg =>
          have d2 : (df == ea) = false := by simpa using h2
          have H2 := Lib.hid h2; clear h2
          gi_wp2_with fail
          exact ⟨(keeps_of_below HBW.out).trans ((KeepsOthers.setCell _ _ _).from _), ⟨⟨rfl, _, HXM.out, fun h => H2.out (HOK.out.1 h).2⟩, (HBC.out.below HBW.out HBC.out.lt).set 0 _⟩, (HG.out.trans (HBW.out.mono HG.out.size)).setCell (p := ⟨w.heap.size + 1, 0, none⟩) (by show w.heap.size ≤ w.heap.size + 1; omega) _⟩
        case pos =>
          have HGD := Lib.hid (HVS.out (HOK.out.2 ⟨H1.out, h2⟩))
          have d2 : (df == ea) = true := by simpa using h2
          clear h2
          gi_wp2_with fail
          exact ⟨keeps_of_below HBW.out, KpC.of_below HBW.out, ⟨⟨⟨HM.out.below HBW.out HM.out.lt, HBB.out.below HBW.out HBB.out.lt⟩, HC1.out⟩, Nat.le_trans HLW.out HBW.out.size, HGD.out⟩, HG.out.trans (HBW.out.mono HG.out.size)⟩
    refine growF_cons 9 rfl (by kernel_rfl) (fun wA hA K hK => ?_) ?_
    case _ =>
      obtain ⟨poth, hpoth⟩ : ∃ b, b = wA.heap.size := ⟨_, rfl⟩
      have le_poth : W.heap.size ≤ poth := by rw [hpoth]; exact hA.size
      have hnew : Blk (wA.alloc (.cells #[.int .i64 0, .int .i64 0, .int .i64 0] 77)) poth 77 #[.int .i64 0, .int .i64 0, .int .i64 0] := by rw [hpoth]; exact Blk.new wA _ _
      go_simp
      rw [← hpoth]
      refine hK.out _ _ (fun w' => Below W.heap.size W w' ∧ Blk w' poth 77 #[.int .i64 0, .int .i64 0, .int .i64 0]) ⟨fun w2 h2 => ⟨(h2.1.cell (p := ⟨w.heap.size, 0, none⟩) HBB.out.lt).trans (HBB.out.cell (i := 0) rfl), (h2.1.cell (p := ⟨Ba, 0, none⟩) HKA.out.lt).trans (HKA.out.cell (i := 0) rfl), (h2.1.cell (p := ⟨Ba, 1, none⟩) HKA.out.lt).trans (HKA.out.cell (i := 1) rfl), HM.out.below h2.1 HM.out.lt⟩, fun w2 w3 h2 hb2 => ⟨h2.1.trans (hb2.mono h2.1.size), h2.2.below hb2 h2.2.lt⟩⟩ ⟨hA.alloc hA.size _, hnew⟩ ?_
      clear hnew hpoth hK K hA wA hCalm
      have hCalm : Calm (fun w' => w'.cell? ⟨w.heap.size, 0, none⟩ = some (.map (some mb)) ∧ w'.cell? ⟨Ba, 0, none⟩ = some (.int .i64 eo) ∧ w'.cell? ⟨Ba, 1, none⟩ = some (.int .i64 er) ∧ MapB w' mb n K F) (fun w' => Below W.heap.size W w' ∧ Blk w' poth 77 #[.int .i64 0, .int .i64 0, .int .i64 0]) := ⟨fun w2 h2 => ⟨(h2.1.cell (p := ⟨w.heap.size, 0, none⟩) HBB.out.lt).trans (HBB.out.cell (i := 0) rfl), (h2.1.cell (p := ⟨Ba, 0, none⟩) HKA.out.lt).trans (HKA.out.cell (i := 0) rfl), (h2.1.cell (p := ⟨Ba, 1, none⟩) HKA.out.lt).trans (HKA.out.cell (i := 1) rfl), HM.out.below h2.1 HM.out.lt⟩, fun w2 w3 h2 hb2 => ⟨h2.1.trans (hb2.mono h2.1.size), h2.2.below hb2 h2.2.lt⟩⟩
      try simp only [Act.put, List.setIfInBounds_toArray, List.set_cons_zero, List.set_cons_succ]
      refine growF_each [8] (by kernel_rfl) (by decide) ?_
      refine growF_cons 8 rfl (by kernel_rfl) (fun wA hA K hK => ?_) growF_nil
      obtain ⟨pown, hpown⟩ : ∃ b, b = wA.heap.size := ⟨_, rfl⟩
      have le_pown : W.heap.size ≤ pown := by rw [hpown]; exact hA.1.size
      have lt_oth_pown : poth < pown := by rw [hpown]; exact hA.2.lt
      have hnew : Blk (wA.alloc (.cells #[.int .i64 0, .int .i64 0, .int .i64 0] 77)) pown 77 #[.int .i64 0, .int .i64 0, .int .i64 0] := by rw [hpown]; exact Blk.new wA _ _
      go_simp
      rw [← hpown]
      refine hK.out _ _ (fun w' => Below W.heap.size W w' ∧ Blk w' poth 77 #[.int .i64 0, .int .i64 0, .int .i64 0] ∧ Blk w' pown 77 #[.int .i64 0, .int .i64 0, .int .i64 0]) ⟨fun w2 h2 => ⟨(h2.1.cell (p := ⟨w.heap.size, 0, none⟩) HBB.out.lt).trans (HBB.out.cell (i := 0) rfl), (h2.1.cell (p := ⟨Ba, 0, none⟩) HKA.out.lt).trans (HKA.out.cell (i := 0) rfl), (h2.1.cell (p := ⟨Ba, 1, none⟩) HKA.out.lt).trans (HKA.out.cell (i := 1) rfl), HM.out.below h2.1 HM.out.lt⟩, fun w2 w3 h2 hb2 => ⟨h2.1.trans (hb2.mono h2.1.size), h2.2.1.below hb2 h2.2.1.lt, h2.2.2.below hb2 h2.2.2.lt⟩⟩ ⟨hA.1.alloc hA.1.size _, hA.2.alloc _, hnew⟩ ?_
      clear hnew hpown hK K hA wA hCalm
      have hCalm : Calm (fun w' => w'.cell? ⟨w.heap.size, 0, none⟩ = some (.map (some mb)) ∧ w'.cell? ⟨Ba, 0, none⟩ = some (.int .i64 eo) ∧ w'.cell? ⟨Ba, 1, none⟩ = some (.int .i64 er) ∧ MapB w' mb n K F) (fun w' => Below W.heap.size W w' ∧ Blk w' poth 77 #[.int .i64 0, .int .i64 0, .int .i64 0] ∧ Blk w' pown 77 #[.int .i64 0, .int .i64 0, .int .i64 0]) := ⟨fun w2 h2 => ⟨(h2.1.cell (p := ⟨w.heap.size, 0, none⟩) HBB.out.lt).trans (HBB.out.cell (i := 0) rfl), (h2.1.cell (p := ⟨Ba, 0, none⟩) HKA.out.lt).trans (HKA.out.cell (i := 0) rfl), (h2.1.cell (p := ⟨Ba, 1, none⟩) HKA.out.lt).trans (HKA.out.cell (i := 1) rfl), HM.out.below h2.1 HM.out.lt⟩, fun w2 w3 h2 hb2 => ⟨h2.1.trans (hb2.mono h2.1.size), h2.2.1.below hb2 h2.2.1.lt, h2.2.2.below hb2 h2.2.2.lt⟩⟩
      try simp only [Act.put, List.setIfInBounds_toArray, List.set_cons_zero, List.set_cons_succ]
      refine growF_each [10] (by kernel_rfl) (by decide) ?_
      refine growF_cons 10 rfl (by kernel_rfl) (fun wA hA K hK => ?_) growF_nil
      have z0 := hA.2.2.cell (i := 0) (v := .int .i64 0) rfl; have f0 := hA.2.2.frozen 0
      have z1 := hA.2.2.cell (i := 1) (v := .int .i64 0) rfl; have f1 := hA.2.2.frozen 1
      have z2 := hA.2.2.cell (i := 2) (v := .int .i64 0) rfl; have f2 := hA.2.2.frozen 2
      go_simp
      refine hK.out _ _ (fun w' => Below W.heap.size W w' ∧ Blk w' poth 77 #[.int .i64 0, .int .i64 0, .int .i64 0] ∧ Blk w' pown 77 #[.int .i64 p, .int .i64 lo, .int .i64 hi]) ⟨fun w2 h2 => ⟨(h2.1.cell (p := ⟨w.heap.size, 0, none⟩) HBB.out.lt).trans (HBB.out.cell (i := 0) rfl), (h2.1.cell (p := ⟨Ba, 0, none⟩) HKA.out.lt).trans (HKA.out.cell (i := 0) rfl), (h2.1.cell (p := ⟨Ba, 1, none⟩) HKA.out.lt).trans (HKA.out.cell (i := 1) rfl), HM.out.below h2.1 HM.out.lt⟩, fun w2 w3 h2 hb2 => ⟨h2.1.trans (hb2.mono h2.1.size), h2.2.1.below hb2 h2.2.1.lt, h2.2.2.below hb2 h2.2.2.lt⟩⟩ ⟨(((hA.1.setCell (p := ⟨pown, 0, none⟩) (by show W.heap.size ≤ pown; omega) _).setCell (p := ⟨pown, 1, none⟩) (by show W.heap.size ≤ pown; omega) _).setCell (p := ⟨pown, 2, none⟩) (by show W.heap.size ≤ pown; omega) _), (((hA.2.1.far (p := ⟨pown, 0, none⟩) (by show poth ≠ pown; omega) _).far (p := ⟨pown, 1, none⟩) (by show poth ≠ pown; omega) _).far (p := ⟨pown, 2, none⟩) (by show poth ≠ pown; omega) _), (((hA.2.2.set 0 _).set 1 _).set 2 _)⟩ ?_
      clear z0 f0 z1 f1 z2 f2 hK K hA wA hCalm
      have hCalm : Calm (fun w' => w'.cell? ⟨w.heap.size, 0, none⟩ = some (.map (some mb)) ∧ w'.cell? ⟨Ba, 0, none⟩ = some (.int .i64 eo) ∧ w'.cell? ⟨Ba, 1, none⟩ = some (.int .i64 er) ∧ MapB w' mb n K F) (fun w' => Below W.heap.size W w' ∧ Blk w' poth 77 #[.int .i64 0, .int .i64 0, .int .i64 0] ∧ Blk w' pown 77 #[.int .i64 p, .int .i64 lo, .int .i64 hi]) := ⟨fun w2 h2 => ⟨(h2.1.cell (p := ⟨w.heap.size, 0, none⟩) HBB.out.lt).trans (HBB.out.cell (i := 0) rfl), (h2.1.cell (p := ⟨Ba, 0, none⟩) HKA.out.lt).trans (HKA.out.cell (i := 0) rfl), (h2.1.cell (p := ⟨Ba, 1, none⟩) HKA.out.lt).trans (HKA.out.cell (i := 1) rfl), HM.out.below h2.1 HM.out.lt⟩, fun w2 w3 h2 hb2 => ⟨h2.1.trans (hb2.mono h2.1.size), h2.2.1.below hb2 h2.2.1.lt, h2.2.2.below hb2 h2.2.2.lt⟩⟩
      try simp only [Act.put]
      refine growF_each [11] (by kernel_rfl) (by decide) ?_
      refine growF_cons 11 rfl (by kernel_rfl) (fun wA hA K hK => ?_) growF_nil
      have z0 := hA.2.1.cell (i := 0) (v := .int .i64 0) rfl; have f0 := hA.2.1.frozen 0
      have z1 := hA.2.1.cell (i := 1) (v := .int .i64 0) rfl; have f1 := hA.2.1.frozen 1
      have z2 := hA.2.1.cell (i := 2) (v := .int .i64 0) rfl; have f2 := hA.2.1.frozen 2
      go_simp
      refine hK.out _ _ (fun w' => Below W.heap.size W w' ∧ Blk w' poth 77 #[.int .i64 op, .int .i64 olo, .int .i64 ohi] ∧ Blk w' pown 77 #[.int .i64 p, .int .i64 lo, .int .i64 hi]) ⟨fun w2 h2 => ⟨(h2.1.cell (p := ⟨w.heap.size, 0, none⟩) HBB.out.lt).trans (HBB.out.cell (i := 0) rfl), (h2.1.cell (p := ⟨Ba, 0, none⟩) HKA.out.lt).trans (HKA.out.cell (i := 0) rfl), (h2.1.cell (p := ⟨Ba, 1, none⟩) HKA.out.lt).trans (HKA.out.cell (i := 1) rfl), HM.out.below h2.1 HM.out.lt⟩, fun w2 w3 h2 hb2 => ⟨h2.1.trans (hb2.mono h2.1.size), h2.2.1.below hb2 h2.2.1.lt, h2.2.2.below hb2 h2.2.2.lt⟩⟩ ⟨(((hA.1.setCell (p := ⟨poth, 0, none⟩) (by show W.heap.size ≤ poth; omega) _).setCell (p := ⟨poth, 1, none⟩) (by show W.heap.size ≤ poth; omega) _).setCell (p := ⟨poth, 2, none⟩) (by show W.heap.size ≤ poth; omega) _), (((hA.2.1.set 0 _).set 1 _).set 2 _), (((hA.2.2.far (p := ⟨poth, 0, none⟩) (by show pown ≠ poth; omega) _).far (p := ⟨poth, 1, none⟩) (by show pown ≠ poth; omega) _).far (p := ⟨poth, 2, none⟩) (by show pown ≠ poth; omega) _)⟩ ?_
      clear z0 f0 z1 f1 z2 f2 hK K hA wA hCalm
      have hCalm : Calm (fun w' => w'.cell? ⟨w.heap.size, 0, none⟩ = some (.map (some mb)) ∧ w'.cell? ⟨Ba, 0, none⟩ = some (.int .i64 eo) ∧ w'.cell? ⟨Ba, 1, none⟩ = some (.int .i64 er) ∧ MapB w' mb n K F) (fun w' => Below W.heap.size W w' ∧ Blk w' poth 77 #[.int .i64 op, .int .i64 olo, .int .i64 ohi] ∧ Blk w' pown 77 #[.int .i64 p, .int .i64 lo, .int .i64 hi]) := ⟨fun w2 h2 => ⟨(h2.1.cell (p := ⟨w.heap.size, 0, none⟩) HBB.out.lt).trans (HBB.out.cell (i := 0) rfl), (h2.1.cell (p := ⟨Ba, 0, none⟩) HKA.out.lt).trans (HKA.out.cell (i := 0) rfl), (h2.1.cell (p := ⟨Ba, 1, none⟩) HKA.out.lt).trans (HKA.out.cell (i := 1) rfl), HM.out.below h2.1 HM.out.lt⟩, fun w2 w3 h2 hb2 => ⟨h2.1.trans (hb2.mono h2.1.size), h2.2.1.below hb2 h2.2.1.lt, h2.2.2.below hb2 h2.2.2.lt⟩⟩
      try simp only [Act.put]
      refine growF_done (by kernel_rfl) (fun wA hA => ?_) _
      have HBW := Lib.hid hA.1; have HO := Lib.hid hA.2.2; have HR := Lib.hid hA.2.1
      clear hA
      have o0 := HO.out.cell (i := 0) (v := .int .i64 p) rfl
      have o1 := HO.out.cell (i := 1) (v := .int .i64 lo) rfl
      have o2 := HO.out.cell (i := 2) (v := .int .i64 hi) rfl
      have r1 := HR.out.cell (i := 1) (v := .int .i64 olo) rfl
      have HC1 := Lib.hid (HBC.out.below HBW.out HBC.out.lt)
      have cc := HC1.out.cell (i := 0) (v := .bool false) rfl; have cf := HC1.out.frozen 0
      by_cases h1 : lo ≤ hi
      case neg =>
        have d1 : decide (lo > hi) = true := decide_eq_true (by omega)
        have H1 := Lib.hid h1; clear h1
        have hundef := un_none
        gi_wp2_with fail
        exact ⟨(keeps_of_below HBW.out).trans ((KeepsOthers.setCell _ _ _).from _), ⟨⟨rfl, _, HXM.out, fun h => absurd (HOK.out.1 h).1 (by have := H1.out; omega)⟩, (HBC.out.below HBW.out HBC.out.lt).set 0 _⟩, (HG.out.trans (HBW.out.mono HG.out.size)).setCell (p := ⟨w.heap.size + 1, 0, none⟩) (by show w.heap.size ≤ w.heap.size + 1; omega) _⟩
      case pos =>
        have d1 : decide (lo > hi) = false := decide_eq_false (by omega)
        have H1 := Lib.hid h1; clear h1
        by_cases h2 : df = ea
        case neg =>
          have d2 : (df == ea) = false := by simpa using h2
          have H2 := Lib.hid h2; clear h2
          gi_wp2_with fail
          exact ⟨(keeps_of_below HBW.out).trans ((KeepsOthers.setCell _ _ _).from _), ⟨⟨rfl, _, HXM.out, fun h => H2.out (HOK.out.1 h).2⟩, (HBC.out.below HBW.out HBC.out.lt).set 0 _⟩, (HG.out.trans (HBW.out.mono HG.out.size)).setCell (p := ⟨w.heap.size + 1, 0, none⟩) (by show w.heap.size ≤ w.heap.size + 1; omega) _⟩
        case pos =>
          have HGD := Lib.hid (HVS.out (HOK.out.2 ⟨H1.out, h2⟩))
          have d2 : (df == ea) = true := by simpa using h2
          clear h2
          gi_wp2_with fail
          exact ⟨keeps_of_below HBW.out, KpC.of_below HBW.out, ⟨⟨⟨HM.out.below HBW.out HM.out.lt, HBB.out.below HBW.out HBB.out.lt⟩, HC1.out⟩, Nat.le_trans HLW.out HBW.out.size, HGD.out⟩, HG.out.trans (HBW.out.mono HG.out.size)⟩
    exact growF_nil
end Go.Proofs.Ytbcgfohacbapoaa
