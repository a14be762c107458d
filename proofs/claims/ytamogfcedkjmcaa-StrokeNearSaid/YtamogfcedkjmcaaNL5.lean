
/- The walk of StrokeNear. Conditions: ints. -/
import Derived.Test.YtamogfcedkjmcaaPk5
namespace Go.Proofs.Ytamogfcedkjmcaa
open Go.RowKit Go.Lib Go.Shelf

theorem near_symm_iff {ax ay bx by_ px py z : Int} : NearP bx by_ ax ay px py z ↔ NearP ax ay bx by_ px py z := ⟨fun h => h.symm, fun h => h.symm⟩
set_option maxRecDepth 100000 in
set_option maxHeartbeats 16000000 in
theorem near_law (x0 x1 x2 x3 x4 x5 t m : Int) (w : World) (hx0 : (-9223372036854775808 ≤ x0 ∧ x0 ≤ 9223372036854775807)) (hx1 : (-9223372036854775808 ≤ x1 ∧ x1 ≤ 9223372036854775807)) (hx2 : (-9223372036854775808 ≤ x2 ∧ x2 ≤ 9223372036854775807)) (hx3 : (-9223372036854775808 ≤ x3 ∧ x3 ≤ 9223372036854775807)) (hx4 : (-9223372036854775808 ≤ x4 ∧ x4 ≤ 9223372036854775807)) (hx5 : (-9223372036854775808 ≤ x5 ∧ x5 ≤ 9223372036854775807)) (ht : (-9223372036854775808 ≤ t ∧ t ≤ 9223372036854775807)) (hm : (-9223372036854775808 ≤ m ∧ m ≤ 9223372036854775807)) :
    Calls Try.prog 8 #[.agg #[.int .i64 x0, .int .i64 x1, .int .i64 x2, .int .i64 x3, .int .i64 x4, .int .i64 x5], .int .i64 t, .int .i64 m] w fun e w' => e = .returned (.bool true) ∧ Below w.heap.size w w' := by
  obtain ⟨ax, hax_, Hax⟩ := lpick_one x0 4096 hx0 (by omega)
  obtain ⟨ay, hay_, Hay⟩ := lpick_one x1 4096 hx1 (by omega)
  obtain ⟨bx, hbx_, Hbx⟩ := lpick_one x2 4096 hx2 (by omega)
  obtain ⟨by_, hby__, Hby_⟩ := lpick_one x3 4096 hx3 (by omega)
  obtain ⟨px, hpx_, Hpx⟩ := lpick_one x4 4096 hx4 (by omega)
  obtain ⟨py, hpy_, Hpy⟩ := lpick_one x5 4096 hx5 (by omega)
  obtain ⟨z, hz_, Hz⟩ := lpick_one t 1001 ht (by omega)
  obtain ⟨k, hk_, Hk⟩ := lpick_one m (1001 - z) hm (by omega)
  have ha : OnP ax ay := by unfold OnP; omega
  have hb : OnP bx by_ := by unfold OnP; omega
  have hp : OnP px py := by unfold OnP; omega
  have hzz : 0 ≤ z ∧ z ≤ 1000 := by omega
  obtain ⟨N, hN⟩ : ∃ N : Bool, N = decide (NearP ax ay bx by_ px py z) := ⟨_, rfl⟩
  have HN1 := Lib.hid (fun W => pnear_any ax ay bx by_ px py z W); have HN2 := Lib.hid (fun W => pnear_any bx by_ ax ay px py z W); have HN3 := Lib.hid (fun W => pnear_any ax ay bx by_ px py (z + k) W)
  have HN4 := Lib.hid (fun W => pnear_any ax ay bx by_ ax ay z W); have HN5 := Lib.hid (fun W => pnear_any ax ay bx by_ bx by_ z W); have HN6 := Lib.hid (fun W => pnear_any ax ay bx ay px py z W)
  simp only [decide_eq_decide.2 (near_symm_iff (ax := ax) (ay := ay) (bx := bx) (by_ := by_) (px := px) (py := py) (z := z))] at HN2
  simp only [decide_eq_true (nearP_left ha hb hzz)] at HN4
  simp only [decide_eq_true (nearP_right ha hb hzz)] at HN5
  have HGR : Hid (N = true → decide (NearP ax ay bx by_ px py (z + k)) = true) := Lib.hid (fun h => decide_eq_true ((of_decide_eq_true (hN.symm.trans h)).mono (by omega) (by omega)))
  have HBX : Hid (N = true → _) := Lib.hid (fun h => (of_decide_eq_true (hN.symm.trans h)).box)
  simp only [← hN] at HN1 HN2
  have HLV : Hid (((ax ≤ px ∧ px ≤ bx) ∨ (bx ≤ px ∧ px ≤ ax)) → (NearP ax ay bx ay px py z ↔ -z ≤ py - ay ∧ py - ay ≤ z)) := Lib.hid (fun h => nearP_level ha (by unfold OnP at *; omega) hp hzz h)
  obtain ⟨mnx, hmnx⟩ : ∃ q, (if bx < ax then bx else ax) = q := ⟨_, rfl⟩
  obtain ⟨mxx, hmxx⟩ : ∃ q, (if ax < bx then bx else ax) = q := ⟨_, rfl⟩
  obtain ⟨mny, hmny⟩ : ∃ q, (if by_ < ay then by_ else ay) = q := ⟨_, rfl⟩
  obtain ⟨mxy, hmxy⟩ : ∃ q, (if ay < by_ then by_ else ay) = q := ⟨_, rfl⟩
  have HMM : Hid ((mnx ≤ ax ∧ mnx ≤ bx ∧ (mnx = ax ∨ mnx = bx)) ∧ (ax ≤ mxx ∧ bx ≤ mxx ∧ (mxx = ax ∨ mxx = bx)) ∧ (mny ≤ ay ∧ mny ≤ by_ ∧ (mny = ay ∨ mny = by_)) ∧ (ay ≤ mxy ∧ by_ ≤ mxy ∧ (mxy = ay ∨ mxy = by_))) := Lib.hid (by refine ⟨?_, ?_, ?_, ?_⟩ <;> (first | rw [← hmnx] | rw [← hmxx] | rw [← hmny] | rw [← hmxy]) <;> split <;> omega)
  have HBD : Hid ((0 ≤ ax ∧ ax ≤ 4095) ∧ (0 ≤ ay ∧ ay ≤ 4095) ∧ (0 ≤ bx ∧ bx ≤ 4095) ∧ (0 ≤ by_ ∧ by_ ≤ 4095) ∧ (0 ≤ px ∧ px ≤ 4095) ∧ (0 ≤ py ∧ py ≤ 4095) ∧ (0 ≤ z ∧ z ≤ 1000) ∧ 0 ≤ k ∧ z + k ≤ 1000) := Lib.hid (by omega)
  have hmms := HMM.out
  have HBOX : Hid (N = true → (mnx - z ≤ px ∧ px ≤ mxx + z) ∧ mny - z ≤ py ∧ py ≤ mxy + z) := Lib.hid (fun h => by have h2 := HBX.out h; refine ⟨⟨?_, ?_⟩, ?_, ?_⟩ <;> (rcases h2 with ⟨⟨h3, h4⟩, h5, h6⟩; revert h3 h4 h5 h6; repeat' split) <;> omega)
  have Hax_ := Lib.hid Hax; clear Hax
  have Hay_ := Lib.hid Hay; clear Hay
  have Hbx_ := Lib.hid Hbx; clear Hbx
  have Hby__ := Lib.hid Hby_; clear Hby_
  have Hpx_ := Lib.hid Hpx; clear Hpx
  have Hpy_ := Lib.hid Hpy; clear Hpy
  have Hz_ := Lib.hid Hz; have Hk_ := Lib.hid Hk; clear Hz Hk
  have e1 : IntKind.i64.wrap (1001 - z) = 1001 - z := IntWalk.i64_in _ (by omega)
  have e2 : IntKind.i64.wrap (z + k) = z + k := IntWalk.i64_in _ (by omega)
  have e3 : IntKind.i64.wrap (mnx - z) = mnx - z := IntWalk.i64_in _ (by omega)
  have e4 : IntKind.i64.wrap (mxx + z) = mxx + z := IntWalk.i64_in _ (by omega)
  have e5 : IntKind.i64.wrap (mny - z) = mny - z := IntWalk.i64_in _ (by omega)
  have e6 : IntKind.i64.wrap (mxy + z) = mxy + z := IntWalk.i64_in _ (by omega)
  have e7 : IntKind.i64.wrap (py - ay) = py - ay := IntWalk.i64_in _ (by omega)
  have e8 : IntKind.i64.wrap (ay - py) = ay - py := IntWalk.i64_in _ (by omega)
  have HE := Lib.hid (And.intro e1 (And.intro e2 (And.intro e3 (And.intro e4 (And.intro e5 (And.intro e6 (And.intro e7 e8)))))))
  have HIF := Lib.hid (And.intro hmnx (And.intro hmxx (And.intro hmny hmxy)))
  clear hx0 hx1 hx2 hx3 hx4 hx5 ht hm hax_ hay_ hbx_ hby__ hpx_ hpy_ hz_ hk_ ha hb hp hzz hN HBX hmms hmnx hmxx hmny hmxy e1 e2 e3 e4 e5 e6 e7 e8
  have X_0 : Hid (Blk (w.alloc (.cells #[.int .i64 x0, .int .i64 x1, .int .i64 x2, .int .i64 x3, .int .i64 x4, .int .i64 x5] 67)) w.heap.size 67 #[.int .i64 x0, .int .i64 x1, .int .i64 x2, .int .i64 x3, .int .i64 x4, .int .i64 x5]) := allocs_blk [(#[.int .i64 x0, .int .i64 x1, .int .i64 x2, .int .i64 x3, .int .i64 x4, .int .i64 x5], 67)] w 0 _ rfl
  have HB_0 : Hid (Below w.heap.size w (w.alloc (.cells #[.int .i64 x0, .int .i64 x1, .int .i64 x2, .int .i64 x3, .int .i64 x4, .int .i64 x5] 67))) := allocs_below [(#[.int .i64 x0, .int .i64 x1, .int .i64 x2, .int .i64 x3, .int .i64 x4, .int .i64 x5], 67)] w (Below.refl w.heap.size w) (Nat.le_refl _)
  go_enter Try.func8, Try.ntmps8
  go_wp2_with fail
  refine (sane_any _).mono ?_
  rintro e v0 ⟨rfl, hb⟩
  have X_1 : Hid (Blk v0 w.heap.size 67 #[.int .i64 x0, .int .i64 x1, .int .i64 x2, .int .i64 x3, .int .i64 x4, .int .i64 x5]) := Lib.hid (X_0.out.below hb X_0.out.lt)
  have HB_1 : Hid (Below w.heap.size w v0) := Lib.hid (HB_0.out.trans (hb.mono HB_0.out.size))
  clear hb X_0 HB_0
  go_wp2_with fail
  refine wp_region_grow (S := (fun w' => w'.cell? ⟨w.heap.size, 0, none⟩ = some (.int .i64 x0) ∧ w'.cell? ⟨w.heap.size, 1, none⟩ = some (.int .i64 x1))) ((fun w' => Below w.heap.size w w' ∧ Blk w' w.heap.size 67 #[.int .i64 x0, .int .i64 x1, .int .i64 x2, .int .i64 x3, .int .i64 x4, .int .i64 x5])) (by kernel_rfl) (⟨fun w2 h2 => ⟨(h2.2.cell (i := 0) rfl), (h2.2.cell (i := 1) rfl)⟩, fun w2 w3 h2 hb2 => ⟨h2.1.trans (hb2.mono h2.1.size), h2.2.below hb2 h2.2.lt⟩⟩) (⟨HB_1.out.drew, X_1.out.drew⟩) (fun hCalm => ?_)
  refine grow_take 0 (some 20) ?_ rfl rfl (by kernel_rfl) (fun _ _ _ h => h) (by kernel_rfl) hCalm ?_ ?_
  rotate_left
  · intro wS hS; (try dsimp only at hS); go_simp <;> with_reducible rfl
  try simp only [Act.put, List.setIfInBounds_toArray, List.set_cons_zero, List.set_cons_succ]
  refine grow_take 1 (some 21) ?_ rfl rfl (by kernel_rfl) (fun _ _ _ h => h) (by kernel_rfl) hCalm ?_ ?_
  rotate_left
  · intro wS hS; (try dsimp only at hS); go_simp <;> with_reducible rfl
  try simp only [Act.put, List.setIfInBounds_toArray, List.set_cons_zero, List.set_cons_succ]
  refine grow_call 2 (some 22) (.int .i64 ax) 12 [.tmp 21, .const (Go.Value.int Go.IntKind.i64 4096)] #[3, 3] rfl rfl (by kernel_rfl) (fun _ _ _ h => h) (by kernel_rfl) hCalm rfl (enters_of Try.func12 (by kernel_rfl) rfl) (fun wz _ => Hax_.out wz) (by kernel_rfl) ?_
  try simp only [Act.put, List.setIfInBounds_toArray, List.set_cons_zero, List.set_cons_succ]
  refine grow_take 3 (some 23) ?_ rfl rfl (by kernel_rfl) (fun _ _ _ h => h) (by kernel_rfl) hCalm ?_ ?_
  rotate_left
  · intro wS hS; (try dsimp only at hS); go_simp <;> with_reducible rfl
  try simp only [Act.put, List.setIfInBounds_toArray, List.set_cons_zero, List.set_cons_succ]
  refine grow_take 4 (some 24) ?_ rfl rfl (by kernel_rfl) (fun _ _ _ h => h) (by kernel_rfl) hCalm ?_ ?_
  rotate_left
  · intro wS hS; (try dsimp only at hS); go_simp <;> with_reducible rfl
  try simp only [Act.put, List.setIfInBounds_toArray, List.set_cons_zero, List.set_cons_succ]
  refine grow_call 5 (some 25) (.int .i64 ay) 12 [.tmp 24, .const (Go.Value.int Go.IntKind.i64 4096)] #[3, 3] rfl rfl (by kernel_rfl) (fun _ _ _ h => h) (by kernel_rfl) hCalm rfl (enters_of Try.func12 (by kernel_rfl) rfl) (fun wz _ => Hay_.out wz) (by kernel_rfl) ?_
  try simp only [Act.put, List.setIfInBounds_toArray, List.set_cons_zero, List.set_cons_succ]
  refine grow_take 6 (some 26) ?_ rfl rfl (by kernel_rfl) (fun _ _ _ h => h) (by kernel_rfl) hCalm ?_ ?_
  rotate_left
  · intro wS hS; (try dsimp only at hS); go_simp <;> with_reducible rfl
  try simp only [Act.put, List.setIfInBounds_toArray, List.set_cons_zero, List.set_cons_succ]
  refine grow_each [7] (by kernel_rfl) (by decide) ?_
  refine grow_cons 7 rfl (by kernel_rfl) (fun wA hA K hK => ?_) grow_nil
  obtain ⟨pA, hpA⟩ : ∃ b, b = wA.heap.size := ⟨_, rfl⟩
  have le_pA : w.heap.size ≤ pA := by rw [hpA]; exact hA.1.size
  have lt_X_pA : w.heap.size < pA := by rw [hpA]; exact hA.2.lt
  have hnew : Blk (wA.alloc (.cells #[.int .i64 0, .int .i64 0] 29)) pA 29 #[.int .i64 0, .int .i64 0] := by rw [hpA]; exact Blk.new wA _ _
  go_simp
  rw [← hpA]
  refine hK.out _ _ (fun w' => Below w.heap.size w w' ∧ Blk w' w.heap.size 67 #[.int .i64 x0, .int .i64 x1, .int .i64 x2, .int .i64 x3, .int .i64 x4, .int .i64 x5] ∧ Blk w' pA 29 #[.int .i64 0, .int .i64 0]) ⟨fun w2 h2 => ⟨(h2.2.1.cell (i := 0) rfl), (h2.2.1.cell (i := 1) rfl)⟩, fun w2 w3 h2 hb2 => ⟨h2.1.trans (hb2.mono h2.1.size), h2.2.1.below hb2 h2.2.1.lt, h2.2.2.below hb2 h2.2.2.lt⟩⟩ ⟨hA.1.alloc hA.1.size _, hA.2.alloc _, hnew⟩ ?_
  clear hnew hpA hK K hA wA hCalm
  have hCalm : Calm (fun w' => w'.cell? ⟨w.heap.size, 0, none⟩ = some (.int .i64 x0) ∧ w'.cell? ⟨w.heap.size, 1, none⟩ = some (.int .i64 x1)) (fun w' => Below w.heap.size w w' ∧ Blk w' w.heap.size 67 #[.int .i64 x0, .int .i64 x1, .int .i64 x2, .int .i64 x3, .int .i64 x4, .int .i64 x5] ∧ Blk w' pA 29 #[.int .i64 0, .int .i64 0]) := ⟨fun w2 h2 => ⟨(h2.2.1.cell (i := 0) rfl), (h2.2.1.cell (i := 1) rfl)⟩, fun w2 w3 h2 hb2 => ⟨h2.1.trans (hb2.mono h2.1.size), h2.2.1.below hb2 h2.2.1.lt, h2.2.2.below hb2 h2.2.2.lt⟩⟩
  try simp only [Act.put, List.setIfInBounds_toArray, List.set_cons_zero, List.set_cons_succ]
  refine grow_each [8] (by kernel_rfl) (by decide) ?_
  refine grow_cons 8 rfl (by kernel_rfl) (fun wA hA K hK => ?_) grow_nil
  have z0 := hA.2.2.cell (i := 0) (v := .int .i64 0) rfl; have f0 := hA.2.2.frozen 0
  have z1 := hA.2.2.cell (i := 1) (v := .int .i64 0) rfl; have f1 := hA.2.2.frozen 1
  go_simp
  refine hK.out _ _ (fun w' => Below w.heap.size w w' ∧ Blk w' w.heap.size 67 #[.int .i64 x0, .int .i64 x1, .int .i64 x2, .int .i64 x3, .int .i64 x4, .int .i64 x5] ∧ Blk w' pA 29 #[.int .i64 ax, .int .i64 ay]) ⟨fun w2 h2 => ⟨(h2.2.1.cell (i := 0) rfl), (h2.2.1.cell (i := 1) rfl)⟩, fun w2 w3 h2 hb2 => ⟨h2.1.trans (hb2.mono h2.1.size), h2.2.1.below hb2 h2.2.1.lt, h2.2.2.below hb2 h2.2.2.lt⟩⟩ ⟨((hA.1.setCell (p := ⟨pA, 0, none⟩) (by show w.heap.size ≤ pA; omega) _).setCell (p := ⟨pA, 1, none⟩) (by show w.heap.size ≤ pA; omega) _), ((hA.2.1.far (p := ⟨pA, 0, none⟩) (by show w.heap.size ≠ pA; omega) _).far (p := ⟨pA, 1, none⟩) (by show w.heap.size ≠ pA; omega) _), ((hA.2.2.set 0 _).set 1 _)⟩ ?_
  clear z0 f0 z1 f1 hK K hA wA hCalm
  have hCalm : Calm (fun w' => w'.cell? ⟨w.heap.size, 0, none⟩ = some (.int .i64 x0) ∧ w'.cell? ⟨w.heap.size, 1, none⟩ = some (.int .i64 x1)) (fun w' => Below w.heap.size w w' ∧ Blk w' w.heap.size 67 #[.int .i64 x0, .int .i64 x1, .int .i64 x2, .int .i64 x3, .int .i64 x4, .int .i64 x5] ∧ Blk w' pA 29 #[.int .i64 ax, .int .i64 ay]) := ⟨fun w2 h2 => ⟨(h2.2.1.cell (i := 0) rfl), (h2.2.1.cell (i := 1) rfl)⟩, fun w2 w3 h2 hb2 => ⟨h2.1.trans (hb2.mono h2.1.size), h2.2.1.below hb2 h2.2.1.lt, h2.2.2.below hb2 h2.2.2.lt⟩⟩
  try simp only [Act.put]
  refine grow_done (by kernel_rfl) (fun wA hA => ?_) _
  have X_2 : Hid (Blk wA w.heap.size 67 #[.int .i64 x0, .int .i64 x1, .int .i64 x2, .int .i64 x3, .int .i64 x4, .int .i64 x5]) := Lib.hid hA.2.1
  have A_2 : Hid (Blk wA pA 29 #[.int .i64 ax, .int .i64 ay]) := Lib.hid hA.2.2
  have HB_2 : Hid (Below w.heap.size w wA) := Lib.hid hA.1
  clear hA hCalm X_1 HB_1
  rename World => u2
  go_wp2_with fail
  refine wp_region_grow (S := (fun w' => w'.cell? ⟨w.heap.size, 2, none⟩ = some (.int .i64 x2) ∧ w'.cell? ⟨w.heap.size, 3, none⟩ = some (.int .i64 x3))) ((fun w' => Below w.heap.size w w' ∧ Blk w' w.heap.size 67 #[.int .i64 x0, .int .i64 x1, .int .i64 x2, .int .i64 x3, .int .i64 x4, .int .i64 x5] ∧ Blk w' pA 29 #[.int .i64 ax, .int .i64 ay])) (by kernel_rfl) (⟨fun w2 h2 => ⟨(h2.2.1.cell (i := 2) rfl), (h2.2.1.cell (i := 3) rfl)⟩, fun w2 w3 h2 hb2 => ⟨h2.1.trans (hb2.mono h2.1.size), h2.2.1.below hb2 h2.2.1.lt, h2.2.2.below hb2 h2.2.2.lt⟩⟩) (⟨HB_2.out.drew, X_2.out.drew, A_2.out.drew⟩) (fun hCalm => ?_)
  refine grow_take 0 (some 27) ?_ rfl rfl (by kernel_rfl) (fun _ _ _ h => h) (by kernel_rfl) hCalm ?_ ?_
  rotate_left
  · intro wS hS; (try dsimp only at hS); go_simp <;> with_reducible rfl
  try simp only [Act.put, List.setIfInBounds_toArray, List.set_cons_zero, List.set_cons_succ]
  refine grow_take 1 (some 28) ?_ rfl rfl (by kernel_rfl) (fun _ _ _ h => h) (by kernel_rfl) hCalm ?_ ?_
  rotate_left
  · intro wS hS; (try dsimp only at hS); go_simp <;> with_reducible rfl
  try simp only [Act.put, List.setIfInBounds_toArray, List.set_cons_zero, List.set_cons_succ]
  refine grow_call 2 (some 29) (.int .i64 bx) 12 [.tmp 28, .const (Go.Value.int Go.IntKind.i64 4096)] #[3, 3] rfl rfl (by kernel_rfl) (fun _ _ _ h => h) (by kernel_rfl) hCalm rfl (enters_of Try.func12 (by kernel_rfl) rfl) (fun wz _ => Hbx_.out wz) (by kernel_rfl) ?_
  try simp only [Act.put, List.setIfInBounds_toArray, List.set_cons_zero, List.set_cons_succ]
  refine grow_take 3 (some 30) ?_ rfl rfl (by kernel_rfl) (fun _ _ _ h => h) (by kernel_rfl) hCalm ?_ ?_
  rotate_left
  · intro wS hS; (try dsimp only at hS); go_simp <;> with_reducible rfl
  try simp only [Act.put, List.setIfInBounds_toArray, List.set_cons_zero, List.set_cons_succ]
  refine grow_take 4 (some 31) ?_ rfl rfl (by kernel_rfl) (fun _ _ _ h => h) (by kernel_rfl) hCalm ?_ ?_
  rotate_left
  · intro wS hS; (try dsimp only at hS); go_simp <;> with_reducible rfl
  try simp only [Act.put, List.setIfInBounds_toArray, List.set_cons_zero, List.set_cons_succ]
  refine grow_call 5 (some 32) (.int .i64 by_) 12 [.tmp 31, .const (Go.Value.int Go.IntKind.i64 4096)] #[3, 3] rfl rfl (by kernel_rfl) (fun _ _ _ h => h) (by kernel_rfl) hCalm rfl (enters_of Try.func12 (by kernel_rfl) rfl) (fun wz _ => Hby__.out wz) (by kernel_rfl) ?_
  try simp only [Act.put, List.setIfInBounds_toArray, List.set_cons_zero, List.set_cons_succ]
  refine grow_take 6 (some 33) ?_ rfl rfl (by kernel_rfl) (fun _ _ _ h => h) (by kernel_rfl) hCalm ?_ ?_
  rotate_left
  · intro wS hS; (try dsimp only at hS); go_simp <;> with_reducible rfl
  try simp only [Act.put, List.setIfInBounds_toArray, List.set_cons_zero, List.set_cons_succ]
  refine grow_each [7] (by kernel_rfl) (by decide) ?_
  refine grow_cons 7 rfl (by kernel_rfl) (fun wA hA K hK => ?_) grow_nil
  obtain ⟨pB, hpB⟩ : ∃ b, b = wA.heap.size := ⟨_, rfl⟩
  have le_pB : w.heap.size ≤ pB := by rw [hpB]; exact hA.1.size
  have lt_X_pB : w.heap.size < pB := by rw [hpB]; exact hA.2.1.lt
  have lt_A_pB : pA < pB := by rw [hpB]; exact hA.2.2.lt
  have hnew : Blk (wA.alloc (.cells #[.int .i64 0, .int .i64 0] 29)) pB 29 #[.int .i64 0, .int .i64 0] := by rw [hpB]; exact Blk.new wA _ _
  go_simp
  rw [← hpB]
  refine hK.out _ _ (fun w' => Below w.heap.size w w' ∧ Blk w' w.heap.size 67 #[.int .i64 x0, .int .i64 x1, .int .i64 x2, .int .i64 x3, .int .i64 x4, .int .i64 x5] ∧ Blk w' pA 29 #[.int .i64 ax, .int .i64 ay] ∧ Blk w' pB 29 #[.int .i64 0, .int .i64 0]) ⟨fun w2 h2 => ⟨(h2.2.1.cell (i := 2) rfl), (h2.2.1.cell (i := 3) rfl)⟩, fun w2 w3 h2 hb2 => ⟨h2.1.trans (hb2.mono h2.1.size), h2.2.1.below hb2 h2.2.1.lt, h2.2.2.1.below hb2 h2.2.2.1.lt, h2.2.2.2.below hb2 h2.2.2.2.lt⟩⟩ ⟨hA.1.alloc hA.1.size _, hA.2.1.alloc _, hA.2.2.alloc _, hnew⟩ ?_
  clear hnew hpB hK K hA wA hCalm
  have hCalm : Calm (fun w' => w'.cell? ⟨w.heap.size, 2, none⟩ = some (.int .i64 x2) ∧ w'.cell? ⟨w.heap.size, 3, none⟩ = some (.int .i64 x3)) (fun w' => Below w.heap.size w w' ∧ Blk w' w.heap.size 67 #[.int .i64 x0, .int .i64 x1, .int .i64 x2, .int .i64 x3, .int .i64 x4, .int .i64 x5] ∧ Blk w' pA 29 #[.int .i64 ax, .int .i64 ay] ∧ Blk w' pB 29 #[.int .i64 0, .int .i64 0]) := ⟨fun w2 h2 => ⟨(h2.2.1.cell (i := 2) rfl), (h2.2.1.cell (i := 3) rfl)⟩, fun w2 w3 h2 hb2 => ⟨h2.1.trans (hb2.mono h2.1.size), h2.2.1.below hb2 h2.2.1.lt, h2.2.2.1.below hb2 h2.2.2.1.lt, h2.2.2.2.below hb2 h2.2.2.2.lt⟩⟩
  try simp only [Act.put, List.setIfInBounds_toArray, List.set_cons_zero, List.set_cons_succ]
  refine grow_each [8] (by kernel_rfl) (by decide) ?_
  refine grow_cons 8 rfl (by kernel_rfl) (fun wA hA K hK => ?_) grow_nil
  have z0 := hA.2.2.2.cell (i := 0) (v := .int .i64 0) rfl; have f0 := hA.2.2.2.frozen 0
  have z1 := hA.2.2.2.cell (i := 1) (v := .int .i64 0) rfl; have f1 := hA.2.2.2.frozen 1
  go_simp
  refine hK.out _ _ (fun w' => Below w.heap.size w w' ∧ Blk w' w.heap.size 67 #[.int .i64 x0, .int .i64 x1, .int .i64 x2, .int .i64 x3, .int .i64 x4, .int .i64 x5] ∧ Blk w' pA 29 #[.int .i64 ax, .int .i64 ay] ∧ Blk w' pB 29 #[.int .i64 bx, .int .i64 by_]) ⟨fun w2 h2 => ⟨(h2.2.1.cell (i := 2) rfl), (h2.2.1.cell (i := 3) rfl)⟩, fun w2 w3 h2 hb2 => ⟨h2.1.trans (hb2.mono h2.1.size), h2.2.1.below hb2 h2.2.1.lt, h2.2.2.1.below hb2 h2.2.2.1.lt, h2.2.2.2.below hb2 h2.2.2.2.lt⟩⟩ ⟨((hA.1.setCell (p := ⟨pB, 0, none⟩) (by show w.heap.size ≤ pB; omega) _).setCell (p := ⟨pB, 1, none⟩) (by show w.heap.size ≤ pB; omega) _), ((hA.2.1.far (p := ⟨pB, 0, none⟩) (by show w.heap.size ≠ pB; omega) _).far (p := ⟨pB, 1, none⟩) (by show w.heap.size ≠ pB; omega) _), ((hA.2.2.1.far (p := ⟨pB, 0, none⟩) (by show pA ≠ pB; omega) _).far (p := ⟨pB, 1, none⟩) (by show pA ≠ pB; omega) _), ((hA.2.2.2.set 0 _).set 1 _)⟩ ?_
  clear z0 f0 z1 f1 hK K hA wA hCalm
  have hCalm : Calm (fun w' => w'.cell? ⟨w.heap.size, 2, none⟩ = some (.int .i64 x2) ∧ w'.cell? ⟨w.heap.size, 3, none⟩ = some (.int .i64 x3)) (fun w' => Below w.heap.size w w' ∧ Blk w' w.heap.size 67 #[.int .i64 x0, .int .i64 x1, .int .i64 x2, .int .i64 x3, .int .i64 x4, .int .i64 x5] ∧ Blk w' pA 29 #[.int .i64 ax, .int .i64 ay] ∧ Blk w' pB 29 #[.int .i64 bx, .int .i64 by_]) := ⟨fun w2 h2 => ⟨(h2.2.1.cell (i := 2) rfl), (h2.2.1.cell (i := 3) rfl)⟩, fun w2 w3 h2 hb2 => ⟨h2.1.trans (hb2.mono h2.1.size), h2.2.1.below hb2 h2.2.1.lt, h2.2.2.1.below hb2 h2.2.2.1.lt, h2.2.2.2.below hb2 h2.2.2.2.lt⟩⟩
  try simp only [Act.put]
  refine grow_done (by kernel_rfl) (fun wA hA => ?_) _
  have X_3 : Hid (Blk wA w.heap.size 67 #[.int .i64 x0, .int .i64 x1, .int .i64 x2, .int .i64 x3, .int .i64 x4, .int .i64 x5]) := Lib.hid hA.2.1
  have A_3 : Hid (Blk wA pA 29 #[.int .i64 ax, .int .i64 ay]) := Lib.hid hA.2.2.1
  have B_3 : Hid (Blk wA pB 29 #[.int .i64 bx, .int .i64 by_]) := Lib.hid hA.2.2.2
  have HB_3 : Hid (Below w.heap.size w wA) := Lib.hid hA.1
  clear hA hCalm X_2 A_2 HB_2
  rename World => u3
  go_wp2_with fail
  refine wp_region_grow (S := (fun w' => w'.cell? ⟨w.heap.size, 4, none⟩ = some (.int .i64 x4) ∧ w'.cell? ⟨w.heap.size, 5, none⟩ = some (.int .i64 x5))) ((fun w' => Below w.heap.size w w' ∧ Blk w' w.heap.size 67 #[.int .i64 x0, .int .i64 x1, .int .i64 x2, .int .i64 x3, .int .i64 x4, .int .i64 x5] ∧ Blk w' pA 29 #[.int .i64 ax, .int .i64 ay] ∧ Blk w' pB 29 #[.int .i64 bx, .int .i64 by_])) (by kernel_rfl) (⟨fun w2 h2 => ⟨(h2.2.1.cell (i := 4) rfl), (h2.2.1.cell (i := 5) rfl)⟩, fun w2 w3 h2 hb2 => ⟨h2.1.trans (hb2.mono h2.1.size), h2.2.1.below hb2 h2.2.1.lt, h2.2.2.1.below hb2 h2.2.2.1.lt, h2.2.2.2.below hb2 h2.2.2.2.lt⟩⟩) (⟨HB_3.out.drew, X_3.out.drew, A_3.out.drew, B_3.out.drew⟩) (fun hCalm => ?_)
  refine grow_take 0 (some 34) ?_ rfl rfl (by kernel_rfl) (fun _ _ _ h => h) (by kernel_rfl) hCalm ?_ ?_
  rotate_left
  · intro wS hS; (try dsimp only at hS); go_simp <;> with_reducible rfl
  try simp only [Act.put, List.setIfInBounds_toArray, List.set_cons_zero, List.set_cons_succ]
  refine grow_take 1 (some 35) ?_ rfl rfl (by kernel_rfl) (fun _ _ _ h => h) (by kernel_rfl) hCalm ?_ ?_
  rotate_left
  · intro wS hS; (try dsimp only at hS); go_simp <;> with_reducible rfl
  try simp only [Act.put, List.setIfInBounds_toArray, List.set_cons_zero, List.set_cons_succ]
  refine grow_call 2 (some 36) (.int .i64 px) 12 [.tmp 35, .const (Go.Value.int Go.IntKind.i64 4096)] #[3, 3] rfl rfl (by kernel_rfl) (fun _ _ _ h => h) (by kernel_rfl) hCalm rfl (enters_of Try.func12 (by kernel_rfl) rfl) (fun wz _ => Hpx_.out wz) (by kernel_rfl) ?_
  try simp only [Act.put, List.setIfInBounds_toArray, List.set_cons_zero, List.set_cons_succ]
  refine grow_take 3 (some 37) ?_ rfl rfl (by kernel_rfl) (fun _ _ _ h => h) (by kernel_rfl) hCalm ?_ ?_
  rotate_left
  · intro wS hS; (try dsimp only at hS); go_simp <;> with_reducible rfl
  try simp only [Act.put, List.setIfInBounds_toArray, List.set_cons_zero, List.set_cons_succ]
  refine grow_take 4 (some 38) ?_ rfl rfl (by kernel_rfl) (fun _ _ _ h => h) (by kernel_rfl) hCalm ?_ ?_
  rotate_left
  · intro wS hS; (try dsimp only at hS); go_simp <;> with_reducible rfl
  try simp only [Act.put, List.setIfInBounds_toArray, List.set_cons_zero, List.set_cons_succ]
  refine grow_call 5 (some 39) (.int .i64 py) 12 [.tmp 38, .const (Go.Value.int Go.IntKind.i64 4096)] #[3, 3] rfl rfl (by kernel_rfl) (fun _ _ _ h => h) (by kernel_rfl) hCalm rfl (enters_of Try.func12 (by kernel_rfl) rfl) (fun wz _ => Hpy_.out wz) (by kernel_rfl) ?_
  try simp only [Act.put, List.setIfInBounds_toArray, List.set_cons_zero, List.set_cons_succ]
  refine grow_take 6 (some 40) ?_ rfl rfl (by kernel_rfl) (fun _ _ _ h => h) (by kernel_rfl) hCalm ?_ ?_
  rotate_left
  · intro wS hS; (try dsimp only at hS); go_simp <;> with_reducible rfl
  try simp only [Act.put, List.setIfInBounds_toArray, List.set_cons_zero, List.set_cons_succ]
  refine grow_each [7] (by kernel_rfl) (by decide) ?_
  refine grow_cons 7 rfl (by kernel_rfl) (fun wA hA K hK => ?_) grow_nil
  obtain ⟨pP, hpP⟩ : ∃ b, b = wA.heap.size := ⟨_, rfl⟩
  have le_pP : w.heap.size ≤ pP := by rw [hpP]; exact hA.1.size
  have lt_X_pP : w.heap.size < pP := by rw [hpP]; exact hA.2.1.lt
  have lt_A_pP : pA < pP := by rw [hpP]; exact hA.2.2.1.lt
  have lt_B_pP : pB < pP := by rw [hpP]; exact hA.2.2.2.lt
  have hnew : Blk (wA.alloc (.cells #[.int .i64 0, .int .i64 0] 29)) pP 29 #[.int .i64 0, .int .i64 0] := by rw [hpP]; exact Blk.new wA _ _
  go_simp
  rw [← hpP]
  refine hK.out _ _ (fun w' => Below w.heap.size w w' ∧ Blk w' w.heap.size 67 #[.int .i64 x0, .int .i64 x1, .int .i64 x2, .int .i64 x3, .int .i64 x4, .int .i64 x5] ∧ Blk w' pA 29 #[.int .i64 ax, .int .i64 ay] ∧ Blk w' pB 29 #[.int .i64 bx, .int .i64 by_] ∧ Blk w' pP 29 #[.int .i64 0, .int .i64 0]) ⟨fun w2 h2 => ⟨(h2.2.1.cell (i := 4) rfl), (h2.2.1.cell (i := 5) rfl)⟩, fun w2 w3 h2 hb2 => ⟨h2.1.trans (hb2.mono h2.1.size), h2.2.1.below hb2 h2.2.1.lt, h2.2.2.1.below hb2 h2.2.2.1.lt, h2.2.2.2.1.below hb2 h2.2.2.2.1.lt, h2.2.2.2.2.below hb2 h2.2.2.2.2.lt⟩⟩ ⟨hA.1.alloc hA.1.size _, hA.2.1.alloc _, hA.2.2.1.alloc _, hA.2.2.2.alloc _, hnew⟩ ?_
  clear hnew hpP hK K hA wA hCalm
  have hCalm : Calm (fun w' => w'.cell? ⟨w.heap.size, 4, none⟩ = some (.int .i64 x4) ∧ w'.cell? ⟨w.heap.size, 5, none⟩ = some (.int .i64 x5)) (fun w' => Below w.heap.size w w' ∧ Blk w' w.heap.size 67 #[.int .i64 x0, .int .i64 x1, .int .i64 x2, .int .i64 x3, .int .i64 x4, .int .i64 x5] ∧ Blk w' pA 29 #[.int .i64 ax, .int .i64 ay] ∧ Blk w' pB 29 #[.int .i64 bx, .int .i64 by_] ∧ Blk w' pP 29 #[.int .i64 0, .int .i64 0]) := ⟨fun w2 h2 => ⟨(h2.2.1.cell (i := 4) rfl), (h2.2.1.cell (i := 5) rfl)⟩, fun w2 w3 h2 hb2 => ⟨h2.1.trans (hb2.mono h2.1.size), h2.2.1.below hb2 h2.2.1.lt, h2.2.2.1.below hb2 h2.2.2.1.lt, h2.2.2.2.1.below hb2 h2.2.2.2.1.lt, h2.2.2.2.2.below hb2 h2.2.2.2.2.lt⟩⟩
  try simp only [Act.put, List.setIfInBounds_toArray, List.set_cons_zero, List.set_cons_succ]
  refine grow_each [8] (by kernel_rfl) (by decide) ?_
  refine grow_cons 8 rfl (by kernel_rfl) (fun wA hA K hK => ?_) grow_nil
  have z0 := hA.2.2.2.2.cell (i := 0) (v := .int .i64 0) rfl; have f0 := hA.2.2.2.2.frozen 0
  have z1 := hA.2.2.2.2.cell (i := 1) (v := .int .i64 0) rfl; have f1 := hA.2.2.2.2.frozen 1
  go_simp
  refine hK.out _ _ (fun w' => Below w.heap.size w w' ∧ Blk w' w.heap.size 67 #[.int .i64 x0, .int .i64 x1, .int .i64 x2, .int .i64 x3, .int .i64 x4, .int .i64 x5] ∧ Blk w' pA 29 #[.int .i64 ax, .int .i64 ay] ∧ Blk w' pB 29 #[.int .i64 bx, .int .i64 by_] ∧ Blk w' pP 29 #[.int .i64 px, .int .i64 py]) ⟨fun w2 h2 => ⟨(h2.2.1.cell (i := 4) rfl), (h2.2.1.cell (i := 5) rfl)⟩, fun w2 w3 h2 hb2 => ⟨h2.1.trans (hb2.mono h2.1.size), h2.2.1.below hb2 h2.2.1.lt, h2.2.2.1.below hb2 h2.2.2.1.lt, h2.2.2.2.1.below hb2 h2.2.2.2.1.lt, h2.2.2.2.2.below hb2 h2.2.2.2.2.lt⟩⟩ ⟨((hA.1.setCell (p := ⟨pP, 0, none⟩) (by show w.heap.size ≤ pP; omega) _).setCell (p := ⟨pP, 1, none⟩) (by show w.heap.size ≤ pP; omega) _), ((hA.2.1.far (p := ⟨pP, 0, none⟩) (by show w.heap.size ≠ pP; omega) _).far (p := ⟨pP, 1, none⟩) (by show w.heap.size ≠ pP; omega) _), ((hA.2.2.1.far (p := ⟨pP, 0, none⟩) (by show pA ≠ pP; omega) _).far (p := ⟨pP, 1, none⟩) (by show pA ≠ pP; omega) _), ((hA.2.2.2.1.far (p := ⟨pP, 0, none⟩) (by show pB ≠ pP; omega) _).far (p := ⟨pP, 1, none⟩) (by show pB ≠ pP; omega) _), ((hA.2.2.2.2.set 0 _).set 1 _)⟩ ?_
  clear z0 f0 z1 f1 hK K hA wA hCalm
  have hCalm : Calm (fun w' => w'.cell? ⟨w.heap.size, 4, none⟩ = some (.int .i64 x4) ∧ w'.cell? ⟨w.heap.size, 5, none⟩ = some (.int .i64 x5)) (fun w' => Below w.heap.size w w' ∧ Blk w' w.heap.size 67 #[.int .i64 x0, .int .i64 x1, .int .i64 x2, .int .i64 x3, .int .i64 x4, .int .i64 x5] ∧ Blk w' pA 29 #[.int .i64 ax, .int .i64 ay] ∧ Blk w' pB 29 #[.int .i64 bx, .int .i64 by_] ∧ Blk w' pP 29 #[.int .i64 px, .int .i64 py]) := ⟨fun w2 h2 => ⟨(h2.2.1.cell (i := 4) rfl), (h2.2.1.cell (i := 5) rfl)⟩, fun w2 w3 h2 hb2 => ⟨h2.1.trans (hb2.mono h2.1.size), h2.2.1.below hb2 h2.2.1.lt, h2.2.2.1.below hb2 h2.2.2.1.lt, h2.2.2.2.1.below hb2 h2.2.2.2.1.lt, h2.2.2.2.2.below hb2 h2.2.2.2.2.lt⟩⟩
  try simp only [Act.put]
  refine grow_done (by kernel_rfl) (fun wA hA => ?_) _
  have X_4 : Hid (Blk wA w.heap.size 67 #[.int .i64 x0, .int .i64 x1, .int .i64 x2, .int .i64 x3, .int .i64 x4, .int .i64 x5]) := Lib.hid hA.2.1
  have A_4 : Hid (Blk wA pA 29 #[.int .i64 ax, .int .i64 ay]) := Lib.hid hA.2.2.1
  have B_4 : Hid (Blk wA pB 29 #[.int .i64 bx, .int .i64 by_]) := Lib.hid hA.2.2.2.1
  have P_4 : Hid (Blk wA pP 29 #[.int .i64 px, .int .i64 py]) := Lib.hid hA.2.2.2.2
  have HB_4 : Hid (Below w.heap.size w wA) := Lib.hid hA.1
  clear hA hCalm X_3 A_3 B_3 HB_3
  rename World => u4
  obtain ⟨e1, e2, -⟩ := HE.out
  go_wp2_with fail
  refine (Hz_.out _).mono ?_
  rintro e v4 ⟨rfl, hb⟩
  have X_5 : Hid (Blk v4 w.heap.size 67 #[.int .i64 x0, .int .i64 x1, .int .i64 x2, .int .i64 x3, .int .i64 x4, .int .i64 x5]) := Lib.hid (X_4.out.below hb X_4.out.lt)
  have A_5 : Hid (Blk v4 pA 29 #[.int .i64 ax, .int .i64 ay]) := Lib.hid (A_4.out.below hb A_4.out.lt)
  have B_5 : Hid (Blk v4 pB 29 #[.int .i64 bx, .int .i64 by_]) := Lib.hid (B_4.out.below hb B_4.out.lt)
  have P_5 : Hid (Blk v4 pP 29 #[.int .i64 px, .int .i64 py]) := Lib.hid (P_4.out.below hb P_4.out.lt)
  have HB_5 : Hid (Below w.heap.size w v4) := Lib.hid (HB_4.out.trans (hb.mono HB_4.out.size))
  clear hb X_4 A_4 B_4 P_4 HB_4
  go_wp2_with fail
  refine (Hk_.out _).mono ?_
  rintro e v5 ⟨rfl, hb⟩
  have X_6 : Hid (Blk v5 w.heap.size 67 #[.int .i64 x0, .int .i64 x1, .int .i64 x2, .int .i64 x3, .int .i64 x4, .int .i64 x5]) := Lib.hid (X_5.out.below hb X_5.out.lt)
  have A_6 : Hid (Blk v5 pA 29 #[.int .i64 ax, .int .i64 ay]) := Lib.hid (A_5.out.below hb A_5.out.lt)
  have B_6 : Hid (Blk v5 pB 29 #[.int .i64 bx, .int .i64 by_]) := Lib.hid (B_5.out.below hb B_5.out.lt)
  have P_6 : Hid (Blk v5 pP 29 #[.int .i64 px, .int .i64 py]) := Lib.hid (P_5.out.below hb P_5.out.lt)
  have HB_6 : Hid (Below w.heap.size w v5) := Lib.hid (HB_5.out.trans (hb.mono HB_5.out.size))
  clear hb X_5 A_5 B_5 P_5 HB_5
  have yy0 := A_6.out.cell (i := 0) (v := .int .i64 ax) rfl; have yy1 := A_6.out.cell (i := 1) (v := .int .i64 ay) rfl
  have yy2 := B_6.out.cell (i := 0) (v := .int .i64 bx) rfl; have yy3 := B_6.out.cell (i := 1) (v := .int .i64 by_) rfl
  have yy4 := P_6.out.cell (i := 0) (v := .int .i64 px) rfl; have yy5 := P_6.out.cell (i := 1) (v := .int .i64 py) rfl
  go_wp2_with fail
  refine (HN1.out _).mono ?_
  rintro e v6 ⟨rfl, hb⟩
  clear yy0 yy1 yy2 yy3 yy4 yy5
  have X_7 : Hid (Blk v6 w.heap.size 67 #[.int .i64 x0, .int .i64 x1, .int .i64 x2, .int .i64 x3, .int .i64 x4, .int .i64 x5]) := Lib.hid (X_6.out.below hb X_6.out.lt)
  have A_7 : Hid (Blk v6 pA 29 #[.int .i64 ax, .int .i64 ay]) := Lib.hid (A_6.out.below hb A_6.out.lt)
  have B_7 : Hid (Blk v6 pB 29 #[.int .i64 bx, .int .i64 by_]) := Lib.hid (B_6.out.below hb B_6.out.lt)
  have P_7 : Hid (Blk v6 pP 29 #[.int .i64 px, .int .i64 py]) := Lib.hid (P_6.out.below hb P_6.out.lt)
  have HB_7 : Hid (Below w.heap.size w v6) := Lib.hid (HB_6.out.trans (hb.mono HB_6.out.size))
  clear hb X_6 A_6 B_6 P_6 HB_6
  clear e1
  cases N with
  | false =>
    have yy0 := A_7.out.cell (i := 0) (v := .int .i64 ax) rfl; have yy1 := A_7.out.cell (i := 1) (v := .int .i64 ay) rfl
    have yy2 := B_7.out.cell (i := 0) (v := .int .i64 bx) rfl; have yy3 := B_7.out.cell (i := 1) (v := .int .i64 by_) rfl
    have yy4 := P_7.out.cell (i := 0) (v := .int .i64 px) rfl; have yy5 := P_7.out.cell (i := 1) (v := .int .i64 py) rfl
    go_wp2_with fail
    refine (HN2.out _).mono ?_
    rintro e v7 ⟨rfl, hb⟩
    clear yy0 yy1 yy2 yy3 yy4 yy5
    have X_8 : Hid (Blk v7 w.heap.size 67 #[.int .i64 x0, .int .i64 x1, .int .i64 x2, .int .i64 x3, .int .i64 x4, .int .i64 x5]) := Lib.hid (X_7.out.below hb X_7.out.lt)
    have A_8 : Hid (Blk v7 pA 29 #[.int .i64 ax, .int .i64 ay]) := Lib.hid (A_7.out.below hb A_7.out.lt)
    have B_8 : Hid (Blk v7 pB 29 #[.int .i64 bx, .int .i64 by_]) := Lib.hid (B_7.out.below hb B_7.out.lt)
    have P_8 : Hid (Blk v7 pP 29 #[.int .i64 px, .int .i64 py]) := Lib.hid (P_7.out.below hb P_7.out.lt)
    have HB_8 : Hid (Below w.heap.size w v7) := Lib.hid (HB_7.out.trans (hb.mono HB_7.out.size))
    clear hb X_7 A_7 B_7 P_7 HB_7
    have hundef := un_none
    have yy0 := A_8.out.cell (i := 0) (v := .int .i64 ax) rfl; have yy1 := A_8.out.cell (i := 1) (v := .int .i64 ay) rfl
    have yy2 := B_8.out.cell (i := 0) (v := .int .i64 bx) rfl; have yy3 := B_8.out.cell (i := 1) (v := .int .i64 by_) rfl
    go_wp2_with fail
    refine (HN4.out _).mono ?_
    rintro e v8 ⟨rfl, hb⟩
    clear yy0 yy1 yy2 yy3
    have X_9 : Hid (Blk v8 w.heap.size 67 #[.int .i64 x0, .int .i64 x1, .int .i64 x2, .int .i64 x3, .int .i64 x4, .int .i64 x5]) := Lib.hid (X_8.out.below hb X_8.out.lt)
    have A_9 : Hid (Blk v8 pA 29 #[.int .i64 ax, .int .i64 ay]) := Lib.hid (A_8.out.below hb A_8.out.lt)
    have B_9 : Hid (Blk v8 pB 29 #[.int .i64 bx, .int .i64 by_]) := Lib.hid (B_8.out.below hb B_8.out.lt)
    have P_9 : Hid (Blk v8 pP 29 #[.int .i64 px, .int .i64 py]) := Lib.hid (P_8.out.below hb P_8.out.lt)
    have HB_9 : Hid (Below w.heap.size w v8) := Lib.hid (HB_8.out.trans (hb.mono HB_8.out.size))
    clear hb X_8 A_8 B_8 P_8 HB_8
    have yy0 := A_9.out.cell (i := 0) (v := .int .i64 ax) rfl; have yy1 := A_9.out.cell (i := 1) (v := .int .i64 ay) rfl
    have yy2 := B_9.out.cell (i := 0) (v := .int .i64 bx) rfl; have yy3 := B_9.out.cell (i := 1) (v := .int .i64 by_) rfl
    go_wp2_with fail
    refine (HN5.out _).mono ?_
    rintro e v9 ⟨rfl, hb⟩
    clear yy0 yy1 yy2 yy3
    have X_10 : Hid (Blk v9 w.heap.size 67 #[.int .i64 x0, .int .i64 x1, .int .i64 x2, .int .i64 x3, .int .i64 x4, .int .i64 x5]) := Lib.hid (X_9.out.below hb X_9.out.lt)
    have A_10 : Hid (Blk v9 pA 29 #[.int .i64 ax, .int .i64 ay]) := Lib.hid (A_9.out.below hb A_9.out.lt)
    have B_10 : Hid (Blk v9 pB 29 #[.int .i64 bx, .int .i64 by_]) := Lib.hid (B_9.out.below hb B_9.out.lt)
    have P_10 : Hid (Blk v9 pP 29 #[.int .i64 px, .int .i64 py]) := Lib.hid (P_9.out.below hb P_9.out.lt)
    have HB_10 : Hid (Below w.heap.size w v9) := Lib.hid (HB_9.out.trans (hb.mono HB_9.out.size))
    clear hb X_9 A_9 B_9 P_9 HB_9
    go_upto_region 12 with fail
    go_cut [14] from 88 to 133 (fun v wx => ∃ ib : Bool, v = .bool ib ∧ (False → ib = true) ∧ v9 = wx)
    case first =>
      obtain ⟨-, -, e3, e4, e5, e6, -⟩ := HE.out; obtain ⟨i1, i2, i3, i4⟩ := HIF.out
      have hbx := HBOX.out
      have yy0 := A_10.out.cell (i := 0) (v := .int .i64 ax) rfl; have yy1 := A_10.out.cell (i := 1) (v := .int .i64 ay) rfl
      have yy2 := B_10.out.cell (i := 0) (v := .int .i64 bx) rfl; have yy3 := B_10.out.cell (i := 1) (v := .int .i64 by_) rfl
      have yy4 := P_10.out.cell (i := 0) (v := .int .i64 px) rfl; have yy5 := P_10.out.cell (i := 1) (v := .int .i64 py) rfl
      by_cases t1 : mnx - z ≤ px
      case neg =>
        clear hbx
        go_wp2_with fail
        go_meet
        exact ⟨false, rfl, fun h => h.elim, rfl⟩
      case pos =>
        by_cases t2 : px ≤ mxx + z
        case neg =>
          clear hbx
          go_wp2_with fail
          go_meet
          exact ⟨false, rfl, fun h => h.elim, rfl⟩
        case pos =>
          by_cases t3 : mny - z ≤ py
          case neg =>
            clear hbx
            go_wp2_with fail
            go_meet
            exact ⟨false, rfl, fun h => h.elim, rfl⟩
          case pos =>
            by_cases t4 : py ≤ mxy + z
            case neg =>
              clear hbx
              go_wp2_with fail
              go_meet
              exact ⟨false, rfl, fun h => h.elim, rfl⟩
            case pos =>
              clear hbx
              go_wp2_with fail
              go_meet
              exact ⟨true, rfl, fun _ => rfl, rfl⟩
    case rest =>
      obtain ⟨ib, rfl, hib, rfl⟩ := hcut
      clear hib
      have yy0 := A_10.out.cell (i := 0) (v := .int .i64 ax) rfl; have yy1 := A_10.out.cell (i := 1) (v := .int .i64 ay) rfl
      have yy2 := B_10.out.cell (i := 0) (v := .int .i64 bx) rfl; have yy3 := B_10.out.cell (i := 1) (v := .int .i64 by_) rfl
      go_upto_region 14 with fail
      clear yy0 yy1 yy2 yy3
      have X_11 : Hid (Blk (v9.alloc (.cells #[.int .i64 bx, .int .i64 ay] 29)) w.heap.size 67 #[.int .i64 x0, .int .i64 x1, .int .i64 x2, .int .i64 x3, .int .i64 x4, .int .i64 x5]) := Lib.hid (X_10.out.alloc _)
      have A_11 : Hid (Blk (v9.alloc (.cells #[.int .i64 bx, .int .i64 ay] 29)) pA 29 #[.int .i64 ax, .int .i64 ay]) := Lib.hid (A_10.out.alloc _)
      have B_11 : Hid (Blk (v9.alloc (.cells #[.int .i64 bx, .int .i64 ay] 29)) pB 29 #[.int .i64 bx, .int .i64 by_]) := Lib.hid (B_10.out.alloc _)
      have P_11 : Hid (Blk (v9.alloc (.cells #[.int .i64 bx, .int .i64 ay] 29)) pP 29 #[.int .i64 px, .int .i64 py]) := Lib.hid (P_10.out.alloc _)
      have V_11 : Hid (Blk (v9.alloc (.cells #[.int .i64 bx, .int .i64 ay] 29)) v9.heap.size 29 #[.int .i64 bx, .int .i64 ay]) := Lib.hid (Blk.new _ _ _)
      have HB_11 : Hid (Below w.heap.size w (v9.alloc (.cells #[.int .i64 bx, .int .i64 ay] 29))) := Lib.hid (HB_10.out.alloc HB_10.out.size _)
      clear X_10 A_10 B_10 P_10 HB_10
      obtain ⟨i1, i2, -⟩ := HIF.out
      have yy0 := A_11.out.cell (i := 0) (v := .int .i64 ax) rfl; have yy1 := A_11.out.cell (i := 1) (v := .int .i64 ay) rfl
      have yy2 := B_11.out.cell (i := 0) (v := .int .i64 bx) rfl; have yy3 := B_11.out.cell (i := 1) (v := .int .i64 by_) rfl
      have yy4 := P_11.out.cell (i := 0) (v := .int .i64 px) rfl; have yy5 := P_11.out.cell (i := 1) (v := .int .i64 py) rfl
      go_cut [16] from 139 to 155 (fun v wx => ∃ ib : Bool, v = .bool ib ∧ (ib = true ↔ (mnx ≤ px ∧ px ≤ mxx)) ∧ (v9.alloc (.cells #[.int .i64 bx, .int .i64 ay] 29)) = wx)
      case first =>
        by_cases t1 : mnx ≤ px
        case neg =>
          go_wp2_with fail
          go_meet
          exact ⟨false, rfl, ⟨fun h => (by cases h), fun h => by omega⟩, rfl⟩
        case pos =>
          by_cases t2 : px ≤ mxx
          case neg =>
            go_wp2_with fail
            go_meet
            exact ⟨false, rfl, ⟨fun h => (by cases h), fun h => by omega⟩, rfl⟩
          case pos =>
            go_wp2_with fail
            go_meet
            exact ⟨true, rfl, ⟨fun _ => ⟨t1, t2⟩, fun _ => rfl⟩, rfl⟩
      case rest =>
        clear yy0 yy1 yy2 yy3 yy4 yy5
        obtain ⟨sb, rfl, hsb, rfl⟩ := hcut
        clear i1 i2
        have HSB := Lib.hid hsb; clear hsb
        cases sb with
        | false =>
          have HK : Hid (∀ w', Below (v9.alloc (.cells #[.int .i64 bx, .int .i64 ay] 29)).heap.size (v9.alloc (.cells #[.int .i64 bx, .int .i64 ay] 29)) w' → w'.cell? ⟨pA, 0, none⟩ = some (.int .i64 ax) ∧ w'.cell? ⟨pA, 1, none⟩ = some (.int .i64 ay) ∧ w'.cell? ⟨pP, 0, none⟩ = some (.int .i64 px) ∧ w'.cell? ⟨pP, 1, none⟩ = some (.int .i64 py) ∧ w'.cell? ⟨v9.heap.size, 0, none⟩ = some (.int .i64 bx) ∧ w'.cell? ⟨v9.heap.size, 1, none⟩ = some (.int .i64 ay)) := Lib.hid (fun w' hW => ⟨((A_11.out.below hW A_11.out.lt).cell (i := 0) rfl), ((A_11.out.below hW A_11.out.lt).cell (i := 1) rfl), ((P_11.out.below hW P_11.out.lt).cell (i := 0) rfl), ((P_11.out.below hW P_11.out.lt).cell (i := 1) rfl), ((V_11.out.below hW V_11.out.lt).cell (i := 0) rfl), ((V_11.out.below hW V_11.out.lt).cell (i := 1) rfl)⟩)
          have HY : Hid (Below (v9.alloc (.cells #[.int .i64 bx, .int .i64 ay] 29)).heap.size (v9.alloc (.cells #[.int .i64 bx, .int .i64 ay] 29)) (v9.alloc (.cells #[.int .i64 bx, .int .i64 ay] 29)).drew) := (Below.refl _ _).drew
          go_wp2_with fail
          refine wp_region_held_drew (S := (fun w' => w'.cell? ⟨pA, 0, none⟩ = some (.int .i64 ax) ∧ w'.cell? ⟨pA, 1, none⟩ = some (.int .i64 ay) ∧ w'.cell? ⟨pP, 0, none⟩ = some (.int .i64 px) ∧ w'.cell? ⟨pP, 1, none⟩ = some (.int .i64 py) ∧ w'.cell? ⟨v9.heap.size, 0, none⟩ = some (.int .i64 bx) ∧ w'.cell? ⟨v9.heap.size, 1, none⟩ = some (.int .i64 ay))) (by kernel_rfl) (HK.out _ HY.out) (fun hHeld => ?_)
          refine held_take 0 (some 157) ?_ rfl rfl (by kernel_rfl) (fun _ _ _ h => h) (by kernel_rfl) ?_ (by assumption) ?_
          rotate_left
          · intro wS hS; (try dsimp only at hS); go_simp <;> with_reducible rfl
          try simp only [Act.put, List.setIfInBounds_toArray, List.set_cons_zero, List.set_cons_succ]
          refine held_take 1 (some 158) ?_ rfl rfl (by kernel_rfl) (fun _ _ _ h => h) (by kernel_rfl) ?_ (by assumption) ?_
          rotate_left
          · intro wS hS; (try dsimp only at hS); go_simp <;> with_reducible rfl
          try simp only [Act.put, List.setIfInBounds_toArray, List.set_cons_zero, List.set_cons_succ]
          refine held_take 2 (some 159) ?_ rfl rfl (by kernel_rfl) (fun _ _ _ h => h) (by kernel_rfl) ?_ (by assumption) ?_
          rotate_left
          · intro wS hS; (try dsimp only at hS); go_simp <;> with_reducible rfl
          try simp only [Act.put, List.setIfInBounds_toArray, List.set_cons_zero, List.set_cons_succ]
          refine held_take 3 (some 160) ?_ rfl rfl (by kernel_rfl) (fun _ _ _ h => h) (by kernel_rfl) ?_ (by assumption) ?_
          rotate_left
          · intro wS hS; (try dsimp only at hS); go_simp <;> with_reducible rfl
          try simp only [Act.put, List.setIfInBounds_toArray, List.set_cons_zero, List.set_cons_succ]
          refine held_take 4 (some 161) ?_ rfl rfl (by kernel_rfl) (fun _ _ _ h => h) (by kernel_rfl) ?_ (by assumption) ?_
          rotate_left
          · intro wS hS; (try dsimp only at hS); go_simp <;> with_reducible rfl
          try simp only [Act.put, List.setIfInBounds_toArray, List.set_cons_zero, List.set_cons_succ]
          refine held_skips [(5, some 162)] 28 (fun _ _ _ _ h => h) rfl (by kernel_rfl) (by assumption) ?_
          simp only [skipL, skipA, List.foldl_cons, List.foldl_nil, Act.put, List.setIfInBounds_toArray, List.set_cons_zero, List.set_cons_succ]
          refine held_take 6 (some 163) ?_ rfl rfl (by kernel_rfl) (fun _ _ _ h => h) (by kernel_rfl) ?_ (by assumption) ?_
          rotate_left
          · intro wS hS; (try dsimp only at hS); go_simp <;> with_reducible rfl
          try simp only [Act.put, List.setIfInBounds_toArray, List.set_cons_zero, List.set_cons_succ]
          refine held_take 7 (some 164) ?_ rfl rfl (by kernel_rfl) (fun _ _ _ h => h) (by kernel_rfl) ?_ (by assumption) ?_
          rotate_left
          · intro wS hS; (try dsimp only at hS); go_simp <;> with_reducible rfl
          try simp only [Act.put, List.setIfInBounds_toArray, List.set_cons_zero, List.set_cons_succ]
          refine held_take 8 (some 165) ?_ rfl rfl (by kernel_rfl) (fun _ _ _ h => h) (by kernel_rfl) ?_ (by assumption) ?_
          rotate_left
          · intro wS hS; (try dsimp only at hS); go_simp <;> with_reducible rfl
          try simp only [Act.put, List.setIfInBounds_toArray, List.set_cons_zero, List.set_cons_succ]
          refine held_take 9 (some 166) ?_ rfl rfl (by kernel_rfl) (fun _ _ _ h => h) (by kernel_rfl) ?_ (by assumption) ?_
          rotate_left
          · intro wS hS; (try dsimp only at hS); go_simp <;> with_reducible rfl
          try simp only [Act.put, List.setIfInBounds_toArray, List.set_cons_zero, List.set_cons_succ]
          refine held_take 10 (some 167) ?_ rfl rfl (by kernel_rfl) (fun _ _ _ h => h) (by kernel_rfl) ?_ (by assumption) ?_
          rotate_left
          · intro wS hS; (try dsimp only at hS); go_simp <;> with_reducible rfl
          try simp only [Act.put, List.setIfInBounds_toArray, List.set_cons_zero, List.set_cons_succ]
          refine held_take 11 (some 168) ?_ rfl rfl (by kernel_rfl) (fun _ _ _ h => h) (by kernel_rfl) ?_ (by assumption) ?_
          rotate_left
          · intro wS hS; (try dsimp only at hS); go_simp <;> with_reducible rfl
          try simp only [Act.put, List.setIfInBounds_toArray, List.set_cons_zero, List.set_cons_succ]
          refine held_skips [(12, some 169), (13, some 170), (14, some 171), (15, some 172), (16, some 173), (17, some 174), (18, some 175), (19, some 176), (20, some 177), (21, some 178), (22, some 179), (23, some 180), (24, some 181), (25, some 182), (26, some 183), (27, some 184), (28, some 185), (29, some 186), (30, some 187)] 3 (fun _ _ _ _ h => h) rfl (by kernel_rfl) (by assumption) ?_
          simp only [skipL, skipA, List.foldl_cons, List.foldl_nil, Act.put, List.setIfInBounds_toArray, List.set_cons_zero, List.set_cons_succ]
          refine held_take 31 (some 188) ?_ rfl rfl (by kernel_rfl) (fun _ _ _ h => h) (by kernel_rfl) ?_ (by assumption) ?_
          rotate_left
          · intro wS hS; (try dsimp only at hS); go_simp <;> with_reducible rfl
          try simp only [Act.put, List.setIfInBounds_toArray, List.set_cons_zero, List.set_cons_succ]
          refine held_take 32 (some 189) ?_ rfl rfl (by kernel_rfl) (fun _ _ _ h => h) (by kernel_rfl) ?_ (by assumption) ?_
          rotate_left
          · intro wS hS; (try dsimp only at hS); go_simp <;> with_reducible rfl
          try simp only [Act.put, List.setIfInBounds_toArray, List.set_cons_zero, List.set_cons_succ]
          refine held_take 33 (some 6) ?_ rfl rfl (by kernel_rfl) (fun _ _ _ h => h) (by kernel_rfl) ?_ (by assumption) ?_
          rotate_left
          · intro wS hS; (try dsimp only at hS); go_simp <;> with_reducible rfl
          try simp only [Act.put, List.setIfInBounds_toArray, List.set_cons_zero, List.set_cons_succ]
          refine wpAnyH_done (by kernel_rfl) ?_ _
          go_wp2_with fail
          all_goals
            go_ret
            exact ⟨by first | rfl | simp, HB_11.out.trans (HY.out.mono HB_11.out.size)⟩
        | true =>
          have HK : Hid (∀ w', Below (v9.alloc (.cells #[.int .i64 bx, .int .i64 ay] 29)).heap.size (v9.alloc (.cells #[.int .i64 bx, .int .i64 ay] 29)) w' → w'.cell? ⟨pA, 0, none⟩ = some (.int .i64 ax) ∧ w'.cell? ⟨pA, 1, none⟩ = some (.int .i64 ay) ∧ w'.cell? ⟨pP, 0, none⟩ = some (.int .i64 px) ∧ w'.cell? ⟨pP, 1, none⟩ = some (.int .i64 py) ∧ w'.cell? ⟨v9.heap.size, 0, none⟩ = some (.int .i64 bx) ∧ w'.cell? ⟨v9.heap.size, 1, none⟩ = some (.int .i64 ay)) := Lib.hid (fun w' hW => ⟨((A_11.out.below hW A_11.out.lt).cell (i := 0) rfl), ((A_11.out.below hW A_11.out.lt).cell (i := 1) rfl), ((P_11.out.below hW P_11.out.lt).cell (i := 0) rfl), ((P_11.out.below hW P_11.out.lt).cell (i := 1) rfl), ((V_11.out.below hW V_11.out.lt).cell (i := 0) rfl), ((V_11.out.below hW V_11.out.lt).cell (i := 1) rfl)⟩)
          have HY : Hid (Below (v9.alloc (.cells #[.int .i64 bx, .int .i64 ay] 29)).heap.size (v9.alloc (.cells #[.int .i64 bx, .int .i64 ay] 29)) (v9.alloc (.cells #[.int .i64 bx, .int .i64 ay] 29)).drew) := (Below.refl _ _).drew
          obtain ⟨-, -, -, -, -, -, e7, e8⟩ := HE.out
          have hlv : NearP ax ay bx ay px py z ↔ (if py - ay < ay - py then ay - py else py - ay) ≤ z := by
            rw [HLV.out (by have h1 := HSB.out.1 rfl; have h2 := HMM.out; omega)]
            constructor
            · intro h; split <;> omega
            · intro h; split at h <;> omega
          have HLW : Hid (∀ W : World, Calls Try.prog 37 #[.agg #[.int .i64 ax, .int .i64 ay], .agg #[.int .i64 bx, .int .i64 ay], .agg #[.int .i64 px, .int .i64 py], .int .i64 z] W fun e w' => e = .returned (.bool (decide ((if py - ay < ay - py then ay - py else py - ay) ≤ z))) ∧ Below W.heap.size W w') := Lib.hid (fun W => by have h := HN6.out W; rwa [decide_eq_decide.2 hlv] at h)
          clear hlv
          go_wp2_with fail
          refine wp_region_held_drew (S := (fun w' => w'.cell? ⟨pA, 0, none⟩ = some (.int .i64 ax) ∧ w'.cell? ⟨pA, 1, none⟩ = some (.int .i64 ay) ∧ w'.cell? ⟨pP, 0, none⟩ = some (.int .i64 px) ∧ w'.cell? ⟨pP, 1, none⟩ = some (.int .i64 py) ∧ w'.cell? ⟨v9.heap.size, 0, none⟩ = some (.int .i64 bx) ∧ w'.cell? ⟨v9.heap.size, 1, none⟩ = some (.int .i64 ay))) (by kernel_rfl) (HK.out _ HY.out) (fun hHeld => ?_)
          refine held_take 0 (some 157) ?_ rfl rfl (by kernel_rfl) (fun _ _ _ h => h) (by kernel_rfl) ?_ (by assumption) ?_
          rotate_left
          · intro wS hS; (try dsimp only at hS); go_simp <;> with_reducible rfl
          try simp only [Act.put, List.setIfInBounds_toArray, List.set_cons_zero, List.set_cons_succ]
          refine held_take 1 (some 158) ?_ rfl rfl (by kernel_rfl) (fun _ _ _ h => h) (by kernel_rfl) ?_ (by assumption) ?_
          rotate_left
          · intro wS hS; (try dsimp only at hS); go_simp <;> with_reducible rfl
          try simp only [Act.put, List.setIfInBounds_toArray, List.set_cons_zero, List.set_cons_succ]
          refine held_take 2 (some 159) ?_ rfl rfl (by kernel_rfl) (fun _ _ _ h => h) (by kernel_rfl) ?_ (by assumption) ?_
          rotate_left
          · intro wS hS; (try dsimp only at hS); go_simp <;> with_reducible rfl
          try simp only [Act.put, List.setIfInBounds_toArray, List.set_cons_zero, List.set_cons_succ]
          refine held_take 3 (some 160) ?_ rfl rfl (by kernel_rfl) (fun _ _ _ h => h) (by kernel_rfl) ?_ (by assumption) ?_
          rotate_left
          · intro wS hS; (try dsimp only at hS); go_simp <;> with_reducible rfl
          try simp only [Act.put, List.setIfInBounds_toArray, List.set_cons_zero, List.set_cons_succ]
          refine held_take 4 (some 161) ?_ rfl rfl (by kernel_rfl) (fun _ _ _ h => h) (by kernel_rfl) ?_ (by assumption) ?_
          rotate_left
          · intro wS hS; (try dsimp only at hS); go_simp <;> with_reducible rfl
          try simp only [Act.put, List.setIfInBounds_toArray, List.set_cons_zero, List.set_cons_succ]
          refine held_skips [(5, some 162)] 28 (fun _ _ _ _ h => h) rfl (by kernel_rfl) (by assumption) ?_
          simp only [skipL, skipA, List.foldl_cons, List.foldl_nil, Act.put, List.setIfInBounds_toArray, List.set_cons_zero, List.set_cons_succ]
          refine held_take 6 (some 163) ?_ rfl rfl (by kernel_rfl) (fun _ _ _ h => h) (by kernel_rfl) ?_ (by assumption) ?_
          rotate_left
          · intro wS hS; (try dsimp only at hS); go_simp <;> with_reducible rfl
          try simp only [Act.put, List.setIfInBounds_toArray, List.set_cons_zero, List.set_cons_succ]
          refine held_take 7 (some 164) ?_ rfl rfl (by kernel_rfl) (fun _ _ _ h => h) (by kernel_rfl) ?_ (by assumption) ?_
          rotate_left
          · intro wS hS; (try dsimp only at hS); go_simp <;> with_reducible rfl
          try simp only [Act.put, List.setIfInBounds_toArray, List.set_cons_zero, List.set_cons_succ]
          refine held_take 8 (some 165) ?_ rfl rfl (by kernel_rfl) (fun _ _ _ h => h) (by kernel_rfl) ?_ (by assumption) ?_
          rotate_left
          · intro wS hS; (try dsimp only at hS); go_simp <;> with_reducible rfl
          try simp only [Act.put, List.setIfInBounds_toArray, List.set_cons_zero, List.set_cons_succ]
          refine held_take 9 (some 166) ?_ rfl rfl (by kernel_rfl) (fun _ _ _ h => h) (by kernel_rfl) ?_ (by assumption) ?_
          rotate_left
          · intro wS hS; (try dsimp only at hS); go_simp <;> with_reducible rfl
          try simp only [Act.put, List.setIfInBounds_toArray, List.set_cons_zero, List.set_cons_succ]
          refine held_take 10 (some 167) ?_ rfl rfl (by kernel_rfl) (fun _ _ _ h => h) (by kernel_rfl) ?_ (by assumption) ?_
          rotate_left
          · intro wS hS; (try dsimp only at hS); go_simp <;> with_reducible rfl
          try simp only [Act.put, List.setIfInBounds_toArray, List.set_cons_zero, List.set_cons_succ]
          refine held_take 11 (some 168) ?_ rfl rfl (by kernel_rfl) (fun _ _ _ h => h) (by kernel_rfl) ?_ (by assumption) ?_
          rotate_left
          · intro wS hS; (try dsimp only at hS); go_simp <;> with_reducible rfl
          try simp only [Act.put, List.setIfInBounds_toArray, List.set_cons_zero, List.set_cons_succ]
          refine held_take 12 (some 169) ?_ rfl rfl (by kernel_rfl) (fun _ _ _ h => h) (by kernel_rfl) ?_ (by assumption) ?_
          rotate_left
          · intro wS hS; (try dsimp only at hS); go_simp <;> with_reducible rfl
          try simp only [Act.put, List.setIfInBounds_toArray, List.set_cons_zero, List.set_cons_succ]
          refine held_take 13 (some 170) ?_ rfl rfl (by kernel_rfl) (fun _ _ _ h => h) (by kernel_rfl) ?_ (by assumption) ?_
          rotate_left
          · intro wS hS; (try dsimp only at hS); go_simp <;> with_reducible rfl
          try simp only [Act.put, List.setIfInBounds_toArray, List.set_cons_zero, List.set_cons_succ]
          refine held_take 14 (some 171) ?_ rfl rfl (by kernel_rfl) (fun _ _ _ h => h) (by kernel_rfl) ?_ (by assumption) ?_
          rotate_left
          · intro wS hS; (try dsimp only at hS); go_simp <;> with_reducible rfl
          try simp only [Act.put, List.setIfInBounds_toArray, List.set_cons_zero, List.set_cons_succ]
          refine held_take 15 (some 172) ?_ rfl rfl (by kernel_rfl) (fun _ _ _ h => h) (by kernel_rfl) ?_ (by assumption) ?_
          rotate_left
          · intro wS hS; (try dsimp only at hS); go_simp <;> with_reducible rfl
          try simp only [Act.put, List.setIfInBounds_toArray, List.set_cons_zero, List.set_cons_succ]
          refine held_take 17 (some 174) ?_ rfl rfl (by kernel_rfl) (fun _ _ _ h => h) (by kernel_rfl) ?_ (by assumption) ?_
          rotate_left
          · intro wS hS; (try dsimp only at hS); go_simp <;> with_reducible rfl
          try simp only [Act.put, List.setIfInBounds_toArray, List.set_cons_zero, List.set_cons_succ]
          refine held_take 18 (some 175) ?_ rfl rfl (by kernel_rfl) (fun _ _ _ h => h) (by kernel_rfl) ?_ (by assumption) ?_
          rotate_left
          · intro wS hS; (try dsimp only at hS); go_simp <;> with_reducible rfl
          try simp only [Act.put, List.setIfInBounds_toArray, List.set_cons_zero, List.set_cons_succ]
          refine held_take 19 (some 176) ?_ rfl rfl (by kernel_rfl) (fun _ _ _ h => h) (by kernel_rfl) ?_ (by assumption) ?_
          rotate_left
          · intro wS hS; (try dsimp only at hS); go_simp <;> with_reducible rfl
          try simp only [Act.put, List.setIfInBounds_toArray, List.set_cons_zero, List.set_cons_succ]
          refine held_take 20 (some 177) ?_ rfl rfl (by kernel_rfl) (fun _ _ _ h => h) (by kernel_rfl) ?_ (by assumption) ?_
          rotate_left
          · intro wS hS; (try dsimp only at hS); go_simp <;> with_reducible rfl
          try simp only [Act.put, List.setIfInBounds_toArray, List.set_cons_zero, List.set_cons_succ]
          refine held_take 21 (some 178) ?_ rfl rfl (by kernel_rfl) (fun _ _ _ h => h) (by kernel_rfl) ?_ (by assumption) ?_
          rotate_left
          · intro wS hS; (try dsimp only at hS); go_simp <;> with_reducible rfl
          try simp only [Act.put, List.setIfInBounds_toArray, List.set_cons_zero, List.set_cons_succ]
          refine held_take 22 (some 179) ?_ rfl rfl (by kernel_rfl) (fun _ _ _ h => h) (by kernel_rfl) ?_ (by assumption) ?_
          rotate_left
          · intro wS hS; (try dsimp only at hS); go_simp <;> with_reducible rfl
          try simp only [Act.put, List.setIfInBounds_toArray, List.set_cons_zero, List.set_cons_succ]
          refine held_take 23 (some 180) ?_ rfl rfl (by kernel_rfl) (fun _ _ _ h => h) (by kernel_rfl) ?_ (by assumption) ?_
          rotate_left
          · intro wS hS; (try dsimp only at hS); go_simp <;> with_reducible rfl
          try simp only [Act.put, List.setIfInBounds_toArray, List.set_cons_zero, List.set_cons_succ]
          refine held_take 24 (some 181) ?_ rfl rfl (by kernel_rfl) (fun _ _ _ h => h) (by kernel_rfl) ?_ (by assumption) ?_
          rotate_left
          · intro wS hS; (try dsimp only at hS); go_simp <;> with_reducible rfl
          try simp only [Act.put, List.setIfInBounds_toArray, List.set_cons_zero, List.set_cons_succ]
          refine held_take 25 (some 182) ?_ rfl rfl (by kernel_rfl) (fun _ _ _ h => h) (by kernel_rfl) ?_ (by assumption) ?_
          rotate_left
          · intro wS hS; (try dsimp only at hS); go_simp <;> with_reducible rfl
          try simp only [Act.put, List.setIfInBounds_toArray, List.set_cons_zero, List.set_cons_succ]
          refine held_take 26 (some 183) ?_ rfl rfl (by kernel_rfl) (fun _ _ _ h => h) (by kernel_rfl) ?_ (by assumption) ?_
          rotate_left
          · intro wS hS; (try dsimp only at hS); go_simp <;> with_reducible rfl
          try simp only [Act.put, List.setIfInBounds_toArray, List.set_cons_zero, List.set_cons_succ]
          refine held_take 27 (some 184) ?_ rfl rfl (by kernel_rfl) (fun _ _ _ h => h) (by kernel_rfl) ?_ (by assumption) ?_
          rotate_left
          · intro wS hS; (try dsimp only at hS); go_simp <;> with_reducible rfl
          try simp only [Act.put, List.setIfInBounds_toArray, List.set_cons_zero, List.set_cons_succ]
          refine held_take 28 (some 185) ?_ rfl rfl (by kernel_rfl) (fun _ _ _ h => h) (by kernel_rfl) ?_ (by assumption) ?_
          rotate_left
          · intro wS hS; (try dsimp only at hS); go_simp <;> with_reducible rfl
          try simp only [Act.put, List.setIfInBounds_toArray, List.set_cons_zero, List.set_cons_succ]
          refine held_take 29 (some 186) ?_ rfl rfl (by kernel_rfl) (fun _ _ _ h => h) (by kernel_rfl) ?_ (by assumption) ?_
          rotate_left
          · intro wS hS; (try dsimp only at hS); go_simp <;> with_reducible rfl
          try simp only [Act.put, List.setIfInBounds_toArray, List.set_cons_zero, List.set_cons_succ]
          refine held_call 16 (some 173) 37 [.tmp 169, .tmp 170, .tmp 171, .tmp 172] #[29, 29, 29, 3] rfl rfl (by kernel_rfl) (by kernel_rfl) rfl (enters_of Try.func37 (by kernel_rfl) rfl) (HLW.out _) (by kernel_rfl) ?_
          rintro e wq ⟨rfl, hq⟩
          have HY := Lib.hid (HY.out.trans (hq.mono HY.out.size)); clear hq
          refine ⟨_, rfl, (HK.out _ HY.out), ?_⟩
          have hHeld := (HK.out _ HY.out)
          try simp only [Act.put, List.setIfInBounds_toArray, List.set_cons_zero, List.set_cons_succ]
          refine held_take 30 (some 187) ?_ rfl rfl (by kernel_rfl) (fun _ _ _ h => h) (by kernel_rfl) ?_ (by assumption) ?_
          rotate_left
          · intro wS hS; (try dsimp only at hS); go_simp <;> with_reducible rfl
          try simp only [Act.put, List.setIfInBounds_toArray, List.set_cons_zero, List.set_cons_succ]
          refine held_take 31 (some 188) ?_ rfl rfl (by kernel_rfl) (fun _ _ _ h => h) (by kernel_rfl) ?_ (by assumption) ?_
          rotate_left
          · intro wS hS; (try dsimp only at hS); go_simp <;> with_reducible rfl
          try simp only [Act.put, List.setIfInBounds_toArray, List.set_cons_zero, List.set_cons_succ]
          refine held_take 32 (some 189) ?_ rfl rfl (by kernel_rfl) (fun _ _ _ h => h) (by kernel_rfl) ?_ (by assumption) ?_
          rotate_left
          · intro wS hS; (try dsimp only at hS); go_simp <;> with_reducible rfl
          try simp only [Act.put, List.setIfInBounds_toArray, List.set_cons_zero, List.set_cons_succ]
          refine held_take 33 (some 6) ?_ rfl rfl (by kernel_rfl) (fun _ _ _ h => h) (by kernel_rfl) ?_ (by assumption) ?_
          rotate_left
          · intro wS hS; (try dsimp only at hS); go_simp <;> with_reducible rfl
          try simp only [Act.put, List.setIfInBounds_toArray, List.set_cons_zero, List.set_cons_succ]
          refine wpAnyH_done (by kernel_rfl) ?_ _
          go_wp2_with fail
          all_goals
            go_ret
            exact ⟨by first | rfl | simp, HB_11.out.trans (HY.out.mono HB_11.out.size)⟩
  | true =>
    have yy0 := A_7.out.cell (i := 0) (v := .int .i64 ax) rfl; have yy1 := A_7.out.cell (i := 1) (v := .int .i64 ay) rfl
    have yy2 := B_7.out.cell (i := 0) (v := .int .i64 bx) rfl; have yy3 := B_7.out.cell (i := 1) (v := .int .i64 by_) rfl
    have yy4 := P_7.out.cell (i := 0) (v := .int .i64 px) rfl; have yy5 := P_7.out.cell (i := 1) (v := .int .i64 py) rfl
    go_wp2_with fail
    refine (HN2.out _).mono ?_
    rintro e v7 ⟨rfl, hb⟩
    clear yy0 yy1 yy2 yy3 yy4 yy5
    have X_8 : Hid (Blk v7 w.heap.size 67 #[.int .i64 x0, .int .i64 x1, .int .i64 x2, .int .i64 x3, .int .i64 x4, .int .i64 x5]) := Lib.hid (X_7.out.below hb X_7.out.lt)
    have A_8 : Hid (Blk v7 pA 29 #[.int .i64 ax, .int .i64 ay]) := Lib.hid (A_7.out.below hb A_7.out.lt)
    have B_8 : Hid (Blk v7 pB 29 #[.int .i64 bx, .int .i64 by_]) := Lib.hid (B_7.out.below hb B_7.out.lt)
    have P_8 : Hid (Blk v7 pP 29 #[.int .i64 px, .int .i64 py]) := Lib.hid (P_7.out.below hb P_7.out.lt)
    have HB_8 : Hid (Below w.heap.size w v7) := Lib.hid (HB_7.out.trans (hb.mono HB_7.out.size))
    clear hb X_7 A_7 B_7 P_7 HB_7
    have hundef := un_none
    have HGN := HN3; simp only [HGR.out (by simp)] at HGN
    have yy0 := A_8.out.cell (i := 0) (v := .int .i64 ax) rfl; have yy1 := A_8.out.cell (i := 1) (v := .int .i64 ay) rfl
    have yy2 := B_8.out.cell (i := 0) (v := .int .i64 bx) rfl; have yy3 := B_8.out.cell (i := 1) (v := .int .i64 by_) rfl
    have yy4 := P_8.out.cell (i := 0) (v := .int .i64 px) rfl; have yy5 := P_8.out.cell (i := 1) (v := .int .i64 py) rfl
    go_wp2_with fail
    refine (HGN.out _).mono ?_
    rintro e v8 ⟨rfl, hb⟩
    clear yy0 yy1 yy2 yy3 yy4 yy5
    have X_9 : Hid (Blk v8 w.heap.size 67 #[.int .i64 x0, .int .i64 x1, .int .i64 x2, .int .i64 x3, .int .i64 x4, .int .i64 x5]) := Lib.hid (X_8.out.below hb X_8.out.lt)
    have A_9 : Hid (Blk v8 pA 29 #[.int .i64 ax, .int .i64 ay]) := Lib.hid (A_8.out.below hb A_8.out.lt)
    have B_9 : Hid (Blk v8 pB 29 #[.int .i64 bx, .int .i64 by_]) := Lib.hid (B_8.out.below hb B_8.out.lt)
    have P_9 : Hid (Blk v8 pP 29 #[.int .i64 px, .int .i64 py]) := Lib.hid (P_8.out.below hb P_8.out.lt)
    have HB_9 : Hid (Below w.heap.size w v8) := Lib.hid (HB_8.out.trans (hb.mono HB_8.out.size))
    clear hb X_8 A_8 B_8 P_8 HB_8
    have yy0 := A_9.out.cell (i := 0) (v := .int .i64 ax) rfl; have yy1 := A_9.out.cell (i := 1) (v := .int .i64 ay) rfl
    have yy2 := B_9.out.cell (i := 0) (v := .int .i64 bx) rfl; have yy3 := B_9.out.cell (i := 1) (v := .int .i64 by_) rfl
    go_wp2_with fail
    refine (HN4.out _).mono ?_
    rintro e v9 ⟨rfl, hb⟩
    clear yy0 yy1 yy2 yy3
    have X_10 : Hid (Blk v9 w.heap.size 67 #[.int .i64 x0, .int .i64 x1, .int .i64 x2, .int .i64 x3, .int .i64 x4, .int .i64 x5]) := Lib.hid (X_9.out.below hb X_9.out.lt)
    have A_10 : Hid (Blk v9 pA 29 #[.int .i64 ax, .int .i64 ay]) := Lib.hid (A_9.out.below hb A_9.out.lt)
    have B_10 : Hid (Blk v9 pB 29 #[.int .i64 bx, .int .i64 by_]) := Lib.hid (B_9.out.below hb B_9.out.lt)
    have P_10 : Hid (Blk v9 pP 29 #[.int .i64 px, .int .i64 py]) := Lib.hid (P_9.out.below hb P_9.out.lt)
    have HB_10 : Hid (Below w.heap.size w v9) := Lib.hid (HB_9.out.trans (hb.mono HB_9.out.size))
    clear hb X_9 A_9 B_9 P_9 HB_9
    have yy0 := A_10.out.cell (i := 0) (v := .int .i64 ax) rfl; have yy1 := A_10.out.cell (i := 1) (v := .int .i64 ay) rfl
    have yy2 := B_10.out.cell (i := 0) (v := .int .i64 bx) rfl; have yy3 := B_10.out.cell (i := 1) (v := .int .i64 by_) rfl
    go_wp2_with fail
    refine (HN5.out _).mono ?_
    rintro e v10 ⟨rfl, hb⟩
    clear yy0 yy1 yy2 yy3
    have X_11 : Hid (Blk v10 w.heap.size 67 #[.int .i64 x0, .int .i64 x1, .int .i64 x2, .int .i64 x3, .int .i64 x4, .int .i64 x5]) := Lib.hid (X_10.out.below hb X_10.out.lt)
    have A_11 : Hid (Blk v10 pA 29 #[.int .i64 ax, .int .i64 ay]) := Lib.hid (A_10.out.below hb A_10.out.lt)
    have B_11 : Hid (Blk v10 pB 29 #[.int .i64 bx, .int .i64 by_]) := Lib.hid (B_10.out.below hb B_10.out.lt)
    have P_11 : Hid (Blk v10 pP 29 #[.int .i64 px, .int .i64 py]) := Lib.hid (P_10.out.below hb P_10.out.lt)
    have HB_11 : Hid (Below w.heap.size w v10) := Lib.hid (HB_10.out.trans (hb.mono HB_10.out.size))
    clear hb X_10 A_10 B_10 P_10 HB_10
    go_upto_region 12 with fail
    go_cut [14] from 88 to 133 (fun v wx => ∃ ib : Bool, v = .bool ib ∧ (True → ib = true) ∧ v10 = wx)
    case first =>
      obtain ⟨-, -, e3, e4, e5, e6, -⟩ := HE.out; obtain ⟨i1, i2, i3, i4⟩ := HIF.out
      have hbx := HBOX.out
      have yy0 := A_11.out.cell (i := 0) (v := .int .i64 ax) rfl; have yy1 := A_11.out.cell (i := 1) (v := .int .i64 ay) rfl
      have yy2 := B_11.out.cell (i := 0) (v := .int .i64 bx) rfl; have yy3 := B_11.out.cell (i := 1) (v := .int .i64 by_) rfl
      have yy4 := P_11.out.cell (i := 0) (v := .int .i64 px) rfl; have yy5 := P_11.out.cell (i := 1) (v := .int .i64 py) rfl
      have t1 : mnx - z ≤ px := (hbx (by simp)).1.1
      have t2 : px ≤ mxx + z := (hbx (by simp)).1.2
      have t3 : mny - z ≤ py := (hbx (by simp)).2.1
      have t4 : py ≤ mxy + z := (hbx (by simp)).2.2
      clear hbx
      go_wp2_with fail
      go_meet
      exact ⟨true, rfl, fun _ => rfl, rfl⟩
    case rest =>
      obtain ⟨ib, rfl, hib, rfl⟩ := hcut
      obtain rfl : ib = true := hib trivial
      have yy0 := A_11.out.cell (i := 0) (v := .int .i64 ax) rfl; have yy1 := A_11.out.cell (i := 1) (v := .int .i64 ay) rfl
      have yy2 := B_11.out.cell (i := 0) (v := .int .i64 bx) rfl; have yy3 := B_11.out.cell (i := 1) (v := .int .i64 by_) rfl
      go_upto_region 14 with fail
      clear yy0 yy1 yy2 yy3
      have X_12 : Hid (Blk (v10.alloc (.cells #[.int .i64 bx, .int .i64 ay] 29)) w.heap.size 67 #[.int .i64 x0, .int .i64 x1, .int .i64 x2, .int .i64 x3, .int .i64 x4, .int .i64 x5]) := Lib.hid (X_11.out.alloc _)
      have A_12 : Hid (Blk (v10.alloc (.cells #[.int .i64 bx, .int .i64 ay] 29)) pA 29 #[.int .i64 ax, .int .i64 ay]) := Lib.hid (A_11.out.alloc _)
      have B_12 : Hid (Blk (v10.alloc (.cells #[.int .i64 bx, .int .i64 ay] 29)) pB 29 #[.int .i64 bx, .int .i64 by_]) := Lib.hid (B_11.out.alloc _)
      have P_12 : Hid (Blk (v10.alloc (.cells #[.int .i64 bx, .int .i64 ay] 29)) pP 29 #[.int .i64 px, .int .i64 py]) := Lib.hid (P_11.out.alloc _)
      have V_12 : Hid (Blk (v10.alloc (.cells #[.int .i64 bx, .int .i64 ay] 29)) v10.heap.size 29 #[.int .i64 bx, .int .i64 ay]) := Lib.hid (Blk.new _ _ _)
      have HB_12 : Hid (Below w.heap.size w (v10.alloc (.cells #[.int .i64 bx, .int .i64 ay] 29))) := Lib.hid (HB_11.out.alloc HB_11.out.size _)
      clear X_11 A_11 B_11 P_11 HB_11
      obtain ⟨i1, i2, -⟩ := HIF.out
      have yy0 := A_12.out.cell (i := 0) (v := .int .i64 ax) rfl; have yy1 := A_12.out.cell (i := 1) (v := .int .i64 ay) rfl
      have yy2 := B_12.out.cell (i := 0) (v := .int .i64 bx) rfl; have yy3 := B_12.out.cell (i := 1) (v := .int .i64 by_) rfl
      have yy4 := P_12.out.cell (i := 0) (v := .int .i64 px) rfl; have yy5 := P_12.out.cell (i := 1) (v := .int .i64 py) rfl
      go_cut [16] from 139 to 155 (fun v wx => ∃ ib : Bool, v = .bool ib ∧ (ib = true ↔ (mnx ≤ px ∧ px ≤ mxx)) ∧ (v10.alloc (.cells #[.int .i64 bx, .int .i64 ay] 29)) = wx)
      case first =>
        by_cases t1 : mnx ≤ px
        case neg =>
          go_wp2_with fail
          go_meet
          exact ⟨false, rfl, ⟨fun h => (by cases h), fun h => by omega⟩, rfl⟩
        case pos =>
          by_cases t2 : px ≤ mxx
          case neg =>
            go_wp2_with fail
            go_meet
            exact ⟨false, rfl, ⟨fun h => (by cases h), fun h => by omega⟩, rfl⟩
          case pos =>
            go_wp2_with fail
            go_meet
            exact ⟨true, rfl, ⟨fun _ => ⟨t1, t2⟩, fun _ => rfl⟩, rfl⟩
      case rest =>
        clear yy0 yy1 yy2 yy3 yy4 yy5
        obtain ⟨sb, rfl, hsb, rfl⟩ := hcut
        clear i1 i2
        have HSB := Lib.hid hsb; clear hsb
        cases sb with
        | false =>
          have HK : Hid (∀ w', Below (v10.alloc (.cells #[.int .i64 bx, .int .i64 ay] 29)).heap.size (v10.alloc (.cells #[.int .i64 bx, .int .i64 ay] 29)) w' → w'.cell? ⟨pA, 0, none⟩ = some (.int .i64 ax) ∧ w'.cell? ⟨pA, 1, none⟩ = some (.int .i64 ay) ∧ w'.cell? ⟨pP, 0, none⟩ = some (.int .i64 px) ∧ w'.cell? ⟨pP, 1, none⟩ = some (.int .i64 py) ∧ w'.cell? ⟨v10.heap.size, 0, none⟩ = some (.int .i64 bx) ∧ w'.cell? ⟨v10.heap.size, 1, none⟩ = some (.int .i64 ay)) := Lib.hid (fun w' hW => ⟨((A_12.out.below hW A_12.out.lt).cell (i := 0) rfl), ((A_12.out.below hW A_12.out.lt).cell (i := 1) rfl), ((P_12.out.below hW P_12.out.lt).cell (i := 0) rfl), ((P_12.out.below hW P_12.out.lt).cell (i := 1) rfl), ((V_12.out.below hW V_12.out.lt).cell (i := 0) rfl), ((V_12.out.below hW V_12.out.lt).cell (i := 1) rfl)⟩)
          have HY : Hid (Below (v10.alloc (.cells #[.int .i64 bx, .int .i64 ay] 29)).heap.size (v10.alloc (.cells #[.int .i64 bx, .int .i64 ay] 29)) (v10.alloc (.cells #[.int .i64 bx, .int .i64 ay] 29)).drew) := (Below.refl _ _).drew
          go_wp2_with fail
          refine wp_region_held_drew (S := (fun w' => w'.cell? ⟨pA, 0, none⟩ = some (.int .i64 ax) ∧ w'.cell? ⟨pA, 1, none⟩ = some (.int .i64 ay) ∧ w'.cell? ⟨pP, 0, none⟩ = some (.int .i64 px) ∧ w'.cell? ⟨pP, 1, none⟩ = some (.int .i64 py) ∧ w'.cell? ⟨v10.heap.size, 0, none⟩ = some (.int .i64 bx) ∧ w'.cell? ⟨v10.heap.size, 1, none⟩ = some (.int .i64 ay))) (by kernel_rfl) (HK.out _ HY.out) (fun hHeld => ?_)
          refine held_take 0 (some 157) ?_ rfl rfl (by kernel_rfl) (fun _ _ _ h => h) (by kernel_rfl) ?_ (by assumption) ?_
          rotate_left
          · intro wS hS; (try dsimp only at hS); go_simp <;> with_reducible rfl
          try simp only [Act.put, List.setIfInBounds_toArray, List.set_cons_zero, List.set_cons_succ]
          refine held_take 1 (some 158) ?_ rfl rfl (by kernel_rfl) (fun _ _ _ h => h) (by kernel_rfl) ?_ (by assumption) ?_
          rotate_left
          · intro wS hS; (try dsimp only at hS); go_simp <;> with_reducible rfl
          try simp only [Act.put, List.setIfInBounds_toArray, List.set_cons_zero, List.set_cons_succ]
          refine held_take 2 (some 159) ?_ rfl rfl (by kernel_rfl) (fun _ _ _ h => h) (by kernel_rfl) ?_ (by assumption) ?_
          rotate_left
          · intro wS hS; (try dsimp only at hS); go_simp <;> with_reducible rfl
          try simp only [Act.put, List.setIfInBounds_toArray, List.set_cons_zero, List.set_cons_succ]
          refine held_take 3 (some 160) ?_ rfl rfl (by kernel_rfl) (fun _ _ _ h => h) (by kernel_rfl) ?_ (by assumption) ?_
          rotate_left
          · intro wS hS; (try dsimp only at hS); go_simp <;> with_reducible rfl
          try simp only [Act.put, List.setIfInBounds_toArray, List.set_cons_zero, List.set_cons_succ]
          refine held_take 4 (some 161) ?_ rfl rfl (by kernel_rfl) (fun _ _ _ h => h) (by kernel_rfl) ?_ (by assumption) ?_
          rotate_left
          · intro wS hS; (try dsimp only at hS); go_simp <;> with_reducible rfl
          try simp only [Act.put, List.setIfInBounds_toArray, List.set_cons_zero, List.set_cons_succ]
          refine held_take 5 (some 162) ?_ rfl rfl (by kernel_rfl) (fun _ _ _ h => h) (by kernel_rfl) ?_ (by assumption) ?_
          rotate_left
          · intro wS hS; (try dsimp only at hS); go_simp <;> with_reducible rfl
          try simp only [Act.put, List.setIfInBounds_toArray, List.set_cons_zero, List.set_cons_succ]
          refine held_take 6 (some 163) ?_ rfl rfl (by kernel_rfl) (fun _ _ _ h => h) (by kernel_rfl) ?_ (by assumption) ?_
          rotate_left
          · intro wS hS; (try dsimp only at hS); go_simp <;> with_reducible rfl
          try simp only [Act.put, List.setIfInBounds_toArray, List.set_cons_zero, List.set_cons_succ]
          refine held_take 7 (some 164) ?_ rfl rfl (by kernel_rfl) (fun _ _ _ h => h) (by kernel_rfl) ?_ (by assumption) ?_
          rotate_left
          · intro wS hS; (try dsimp only at hS); go_simp <;> with_reducible rfl
          try simp only [Act.put, List.setIfInBounds_toArray, List.set_cons_zero, List.set_cons_succ]
          refine held_take 8 (some 165) ?_ rfl rfl (by kernel_rfl) (fun _ _ _ h => h) (by kernel_rfl) ?_ (by assumption) ?_
          rotate_left
          · intro wS hS; (try dsimp only at hS); go_simp <;> with_reducible rfl
          try simp only [Act.put, List.setIfInBounds_toArray, List.set_cons_zero, List.set_cons_succ]
          refine held_take 9 (some 166) ?_ rfl rfl (by kernel_rfl) (fun _ _ _ h => h) (by kernel_rfl) ?_ (by assumption) ?_
          rotate_left
          · intro wS hS; (try dsimp only at hS); go_simp <;> with_reducible rfl
          try simp only [Act.put, List.setIfInBounds_toArray, List.set_cons_zero, List.set_cons_succ]
          refine held_take 10 (some 167) ?_ rfl rfl (by kernel_rfl) (fun _ _ _ h => h) (by kernel_rfl) ?_ (by assumption) ?_
          rotate_left
          · intro wS hS; (try dsimp only at hS); go_simp <;> with_reducible rfl
          try simp only [Act.put, List.setIfInBounds_toArray, List.set_cons_zero, List.set_cons_succ]
          refine held_take 11 (some 168) ?_ rfl rfl (by kernel_rfl) (fun _ _ _ h => h) (by kernel_rfl) ?_ (by assumption) ?_
          rotate_left
          · intro wS hS; (try dsimp only at hS); go_simp <;> with_reducible rfl
          try simp only [Act.put, List.setIfInBounds_toArray, List.set_cons_zero, List.set_cons_succ]
          refine held_skips [(12, some 169), (13, some 170), (14, some 171), (15, some 172), (16, some 173), (17, some 174), (18, some 175), (19, some 176), (20, some 177), (21, some 178), (22, some 179), (23, some 180), (24, some 181), (25, some 182), (26, some 183), (27, some 184), (28, some 185), (29, some 186), (30, some 187)] 3 (fun _ _ _ _ h => h) rfl (by kernel_rfl) (by assumption) ?_
          simp only [skipL, skipA, List.foldl_cons, List.foldl_nil, Act.put, List.setIfInBounds_toArray, List.set_cons_zero, List.set_cons_succ]
          refine held_take 31 (some 188) ?_ rfl rfl (by kernel_rfl) (fun _ _ _ h => h) (by kernel_rfl) ?_ (by assumption) ?_
          rotate_left
          · intro wS hS; (try dsimp only at hS); go_simp <;> with_reducible rfl
          try simp only [Act.put, List.setIfInBounds_toArray, List.set_cons_zero, List.set_cons_succ]
          refine held_take 32 (some 189) ?_ rfl rfl (by kernel_rfl) (fun _ _ _ h => h) (by kernel_rfl) ?_ (by assumption) ?_
          rotate_left
          · intro wS hS; (try dsimp only at hS); go_simp <;> with_reducible rfl
          try simp only [Act.put, List.setIfInBounds_toArray, List.set_cons_zero, List.set_cons_succ]
          refine held_take 33 (some 6) ?_ rfl rfl (by kernel_rfl) (fun _ _ _ h => h) (by kernel_rfl) ?_ (by assumption) ?_
          rotate_left
          · intro wS hS; (try dsimp only at hS); go_simp <;> with_reducible rfl
          try simp only [Act.put, List.setIfInBounds_toArray, List.set_cons_zero, List.set_cons_succ]
          refine wpAnyH_done (by kernel_rfl) ?_ _
          go_wp2_with fail
          all_goals
            go_ret
            exact ⟨by first | rfl | simp, HB_12.out.trans (HY.out.mono HB_12.out.size)⟩
        | true =>
          have HK : Hid (∀ w', Below (v10.alloc (.cells #[.int .i64 bx, .int .i64 ay] 29)).heap.size (v10.alloc (.cells #[.int .i64 bx, .int .i64 ay] 29)) w' → w'.cell? ⟨pA, 0, none⟩ = some (.int .i64 ax) ∧ w'.cell? ⟨pA, 1, none⟩ = some (.int .i64 ay) ∧ w'.cell? ⟨pP, 0, none⟩ = some (.int .i64 px) ∧ w'.cell? ⟨pP, 1, none⟩ = some (.int .i64 py) ∧ w'.cell? ⟨v10.heap.size, 0, none⟩ = some (.int .i64 bx) ∧ w'.cell? ⟨v10.heap.size, 1, none⟩ = some (.int .i64 ay)) := Lib.hid (fun w' hW => ⟨((A_12.out.below hW A_12.out.lt).cell (i := 0) rfl), ((A_12.out.below hW A_12.out.lt).cell (i := 1) rfl), ((P_12.out.below hW P_12.out.lt).cell (i := 0) rfl), ((P_12.out.below hW P_12.out.lt).cell (i := 1) rfl), ((V_12.out.below hW V_12.out.lt).cell (i := 0) rfl), ((V_12.out.below hW V_12.out.lt).cell (i := 1) rfl)⟩)
          have HY : Hid (Below (v10.alloc (.cells #[.int .i64 bx, .int .i64 ay] 29)).heap.size (v10.alloc (.cells #[.int .i64 bx, .int .i64 ay] 29)) (v10.alloc (.cells #[.int .i64 bx, .int .i64 ay] 29)).drew) := (Below.refl _ _).drew
          obtain ⟨-, -, -, -, -, -, e7, e8⟩ := HE.out
          have hlv : NearP ax ay bx ay px py z ↔ (if py - ay < ay - py then ay - py else py - ay) ≤ z := by
            rw [HLV.out (by have h1 := HSB.out.1 rfl; have h2 := HMM.out; omega)]
            constructor
            · intro h; split <;> omega
            · intro h; split at h <;> omega
          have HLW : Hid (∀ W : World, Calls Try.prog 37 #[.agg #[.int .i64 ax, .int .i64 ay], .agg #[.int .i64 bx, .int .i64 ay], .agg #[.int .i64 px, .int .i64 py], .int .i64 z] W fun e w' => e = .returned (.bool (decide ((if py - ay < ay - py then ay - py else py - ay) ≤ z))) ∧ Below W.heap.size W w') := Lib.hid (fun W => by have h := HN6.out W; rwa [decide_eq_decide.2 hlv] at h)
          clear hlv
          go_wp2_with fail
          refine wp_region_held_drew (S := (fun w' => w'.cell? ⟨pA, 0, none⟩ = some (.int .i64 ax) ∧ w'.cell? ⟨pA, 1, none⟩ = some (.int .i64 ay) ∧ w'.cell? ⟨pP, 0, none⟩ = some (.int .i64 px) ∧ w'.cell? ⟨pP, 1, none⟩ = some (.int .i64 py) ∧ w'.cell? ⟨v10.heap.size, 0, none⟩ = some (.int .i64 bx) ∧ w'.cell? ⟨v10.heap.size, 1, none⟩ = some (.int .i64 ay))) (by kernel_rfl) (HK.out _ HY.out) (fun hHeld => ?_)
          refine held_take 0 (some 157) ?_ rfl rfl (by kernel_rfl) (fun _ _ _ h => h) (by kernel_rfl) ?_ (by assumption) ?_
          rotate_left
          · intro wS hS; (try dsimp only at hS); go_simp <;> with_reducible rfl
          try simp only [Act.put, List.setIfInBounds_toArray, List.set_cons_zero, List.set_cons_succ]
          refine held_take 1 (some 158) ?_ rfl rfl (by kernel_rfl) (fun _ _ _ h => h) (by kernel_rfl) ?_ (by assumption) ?_
          rotate_left
          · intro wS hS; (try dsimp only at hS); go_simp <;> with_reducible rfl
          try simp only [Act.put, List.setIfInBounds_toArray, List.set_cons_zero, List.set_cons_succ]
          refine held_take 2 (some 159) ?_ rfl rfl (by kernel_rfl) (fun _ _ _ h => h) (by kernel_rfl) ?_ (by assumption) ?_
          rotate_left
          · intro wS hS; (try dsimp only at hS); go_simp <;> with_reducible rfl
          try simp only [Act.put, List.setIfInBounds_toArray, List.set_cons_zero, List.set_cons_succ]
          refine held_take 3 (some 160) ?_ rfl rfl (by kernel_rfl) (fun _ _ _ h => h) (by kernel_rfl) ?_ (by assumption) ?_
          rotate_left
          · intro wS hS; (try dsimp only at hS); go_simp <;> with_reducible rfl
          try simp only [Act.put, List.setIfInBounds_toArray, List.set_cons_zero, List.set_cons_succ]
          refine held_take 4 (some 161) ?_ rfl rfl (by kernel_rfl) (fun _ _ _ h => h) (by kernel_rfl) ?_ (by assumption) ?_
          rotate_left
          · intro wS hS; (try dsimp only at hS); go_simp <;> with_reducible rfl
          try simp only [Act.put, List.setIfInBounds_toArray, List.set_cons_zero, List.set_cons_succ]
          refine held_take 5 (some 162) ?_ rfl rfl (by kernel_rfl) (fun _ _ _ h => h) (by kernel_rfl) ?_ (by assumption) ?_
          rotate_left
          · intro wS hS; (try dsimp only at hS); go_simp <;> with_reducible rfl
          try simp only [Act.put, List.setIfInBounds_toArray, List.set_cons_zero, List.set_cons_succ]
          refine held_take 6 (some 163) ?_ rfl rfl (by kernel_rfl) (fun _ _ _ h => h) (by kernel_rfl) ?_ (by assumption) ?_
          rotate_left
          · intro wS hS; (try dsimp only at hS); go_simp <;> with_reducible rfl
          try simp only [Act.put, List.setIfInBounds_toArray, List.set_cons_zero, List.set_cons_succ]
          refine held_take 7 (some 164) ?_ rfl rfl (by kernel_rfl) (fun _ _ _ h => h) (by kernel_rfl) ?_ (by assumption) ?_
          rotate_left
          · intro wS hS; (try dsimp only at hS); go_simp <;> with_reducible rfl
          try simp only [Act.put, List.setIfInBounds_toArray, List.set_cons_zero, List.set_cons_succ]
          refine held_take 8 (some 165) ?_ rfl rfl (by kernel_rfl) (fun _ _ _ h => h) (by kernel_rfl) ?_ (by assumption) ?_
          rotate_left
          · intro wS hS; (try dsimp only at hS); go_simp <;> with_reducible rfl
          try simp only [Act.put, List.setIfInBounds_toArray, List.set_cons_zero, List.set_cons_succ]
          refine held_take 9 (some 166) ?_ rfl rfl (by kernel_rfl) (fun _ _ _ h => h) (by kernel_rfl) ?_ (by assumption) ?_
          rotate_left
          · intro wS hS; (try dsimp only at hS); go_simp <;> with_reducible rfl
          try simp only [Act.put, List.setIfInBounds_toArray, List.set_cons_zero, List.set_cons_succ]
          refine held_take 10 (some 167) ?_ rfl rfl (by kernel_rfl) (fun _ _ _ h => h) (by kernel_rfl) ?_ (by assumption) ?_
          rotate_left
          · intro wS hS; (try dsimp only at hS); go_simp <;> with_reducible rfl
          try simp only [Act.put, List.setIfInBounds_toArray, List.set_cons_zero, List.set_cons_succ]
          refine held_take 11 (some 168) ?_ rfl rfl (by kernel_rfl) (fun _ _ _ h => h) (by kernel_rfl) ?_ (by assumption) ?_
          rotate_left
          · intro wS hS; (try dsimp only at hS); go_simp <;> with_reducible rfl
          try simp only [Act.put, List.setIfInBounds_toArray, List.set_cons_zero, List.set_cons_succ]
          refine held_take 12 (some 169) ?_ rfl rfl (by kernel_rfl) (fun _ _ _ h => h) (by kernel_rfl) ?_ (by assumption) ?_
          rotate_left
          · intro wS hS; (try dsimp only at hS); go_simp <;> with_reducible rfl
          try simp only [Act.put, List.setIfInBounds_toArray, List.set_cons_zero, List.set_cons_succ]
          refine held_take 13 (some 170) ?_ rfl rfl (by kernel_rfl) (fun _ _ _ h => h) (by kernel_rfl) ?_ (by assumption) ?_
          rotate_left
          · intro wS hS; (try dsimp only at hS); go_simp <;> with_reducible rfl
          try simp only [Act.put, List.setIfInBounds_toArray, List.set_cons_zero, List.set_cons_succ]
          refine held_take 14 (some 171) ?_ rfl rfl (by kernel_rfl) (fun _ _ _ h => h) (by kernel_rfl) ?_ (by assumption) ?_
          rotate_left
          · intro wS hS; (try dsimp only at hS); go_simp <;> with_reducible rfl
          try simp only [Act.put, List.setIfInBounds_toArray, List.set_cons_zero, List.set_cons_succ]
          refine held_take 15 (some 172) ?_ rfl rfl (by kernel_rfl) (fun _ _ _ h => h) (by kernel_rfl) ?_ (by assumption) ?_
          rotate_left
          · intro wS hS; (try dsimp only at hS); go_simp <;> with_reducible rfl
          try simp only [Act.put, List.setIfInBounds_toArray, List.set_cons_zero, List.set_cons_succ]
          refine held_take 17 (some 174) ?_ rfl rfl (by kernel_rfl) (fun _ _ _ h => h) (by kernel_rfl) ?_ (by assumption) ?_
          rotate_left
          · intro wS hS; (try dsimp only at hS); go_simp <;> with_reducible rfl
          try simp only [Act.put, List.setIfInBounds_toArray, List.set_cons_zero, List.set_cons_succ]
          refine held_take 18 (some 175) ?_ rfl rfl (by kernel_rfl) (fun _ _ _ h => h) (by kernel_rfl) ?_ (by assumption) ?_
          rotate_left
          · intro wS hS; (try dsimp only at hS); go_simp <;> with_reducible rfl
          try simp only [Act.put, List.setIfInBounds_toArray, List.set_cons_zero, List.set_cons_succ]
          refine held_take 19 (some 176) ?_ rfl rfl (by kernel_rfl) (fun _ _ _ h => h) (by kernel_rfl) ?_ (by assumption) ?_
          rotate_left
          · intro wS hS; (try dsimp only at hS); go_simp <;> with_reducible rfl
          try simp only [Act.put, List.setIfInBounds_toArray, List.set_cons_zero, List.set_cons_succ]
          refine held_take 20 (some 177) ?_ rfl rfl (by kernel_rfl) (fun _ _ _ h => h) (by kernel_rfl) ?_ (by assumption) ?_
          rotate_left
          · intro wS hS; (try dsimp only at hS); go_simp <;> with_reducible rfl
          try simp only [Act.put, List.setIfInBounds_toArray, List.set_cons_zero, List.set_cons_succ]
          refine held_take 21 (some 178) ?_ rfl rfl (by kernel_rfl) (fun _ _ _ h => h) (by kernel_rfl) ?_ (by assumption) ?_
          rotate_left
          · intro wS hS; (try dsimp only at hS); go_simp <;> with_reducible rfl
          try simp only [Act.put, List.setIfInBounds_toArray, List.set_cons_zero, List.set_cons_succ]
          refine held_take 22 (some 179) ?_ rfl rfl (by kernel_rfl) (fun _ _ _ h => h) (by kernel_rfl) ?_ (by assumption) ?_
          rotate_left
          · intro wS hS; (try dsimp only at hS); go_simp <;> with_reducible rfl
          try simp only [Act.put, List.setIfInBounds_toArray, List.set_cons_zero, List.set_cons_succ]
          refine held_take 23 (some 180) ?_ rfl rfl (by kernel_rfl) (fun _ _ _ h => h) (by kernel_rfl) ?_ (by assumption) ?_
          rotate_left
          · intro wS hS; (try dsimp only at hS); go_simp <;> with_reducible rfl
          try simp only [Act.put, List.setIfInBounds_toArray, List.set_cons_zero, List.set_cons_succ]
          refine held_take 24 (some 181) ?_ rfl rfl (by kernel_rfl) (fun _ _ _ h => h) (by kernel_rfl) ?_ (by assumption) ?_
          rotate_left
          · intro wS hS; (try dsimp only at hS); go_simp <;> with_reducible rfl
          try simp only [Act.put, List.setIfInBounds_toArray, List.set_cons_zero, List.set_cons_succ]
          refine held_take 25 (some 182) ?_ rfl rfl (by kernel_rfl) (fun _ _ _ h => h) (by kernel_rfl) ?_ (by assumption) ?_
          rotate_left
          · intro wS hS; (try dsimp only at hS); go_simp <;> with_reducible rfl
          try simp only [Act.put, List.setIfInBounds_toArray, List.set_cons_zero, List.set_cons_succ]
          refine held_take 26 (some 183) ?_ rfl rfl (by kernel_rfl) (fun _ _ _ h => h) (by kernel_rfl) ?_ (by assumption) ?_
          rotate_left
          · intro wS hS; (try dsimp only at hS); go_simp <;> with_reducible rfl
          try simp only [Act.put, List.setIfInBounds_toArray, List.set_cons_zero, List.set_cons_succ]
          refine held_take 27 (some 184) ?_ rfl rfl (by kernel_rfl) (fun _ _ _ h => h) (by kernel_rfl) ?_ (by assumption) ?_
          rotate_left
          · intro wS hS; (try dsimp only at hS); go_simp <;> with_reducible rfl
          try simp only [Act.put, List.setIfInBounds_toArray, List.set_cons_zero, List.set_cons_succ]
          refine held_take 28 (some 185) ?_ rfl rfl (by kernel_rfl) (fun _ _ _ h => h) (by kernel_rfl) ?_ (by assumption) ?_
          rotate_left
          · intro wS hS; (try dsimp only at hS); go_simp <;> with_reducible rfl
          try simp only [Act.put, List.setIfInBounds_toArray, List.set_cons_zero, List.set_cons_succ]
          refine held_take 29 (some 186) ?_ rfl rfl (by kernel_rfl) (fun _ _ _ h => h) (by kernel_rfl) ?_ (by assumption) ?_
          rotate_left
          · intro wS hS; (try dsimp only at hS); go_simp <;> with_reducible rfl
          try simp only [Act.put, List.setIfInBounds_toArray, List.set_cons_zero, List.set_cons_succ]
          refine held_call 16 (some 173) 37 [.tmp 169, .tmp 170, .tmp 171, .tmp 172] #[29, 29, 29, 3] rfl rfl (by kernel_rfl) (by kernel_rfl) rfl (enters_of Try.func37 (by kernel_rfl) rfl) (HLW.out _) (by kernel_rfl) ?_
          rintro e wq ⟨rfl, hq⟩
          have HY := Lib.hid (HY.out.trans (hq.mono HY.out.size)); clear hq
          refine ⟨_, rfl, (HK.out _ HY.out), ?_⟩
          have hHeld := (HK.out _ HY.out)
          try simp only [Act.put, List.setIfInBounds_toArray, List.set_cons_zero, List.set_cons_succ]
          refine held_take 30 (some 187) ?_ rfl rfl (by kernel_rfl) (fun _ _ _ h => h) (by kernel_rfl) ?_ (by assumption) ?_
          rotate_left
          · intro wS hS; (try dsimp only at hS); go_simp <;> with_reducible rfl
          try simp only [Act.put, List.setIfInBounds_toArray, List.set_cons_zero, List.set_cons_succ]
          refine held_take 31 (some 188) ?_ rfl rfl (by kernel_rfl) (fun _ _ _ h => h) (by kernel_rfl) ?_ (by assumption) ?_
          rotate_left
          · intro wS hS; (try dsimp only at hS); go_simp <;> with_reducible rfl
          try simp only [Act.put, List.setIfInBounds_toArray, List.set_cons_zero, List.set_cons_succ]
          refine held_take 32 (some 189) ?_ rfl rfl (by kernel_rfl) (fun _ _ _ h => h) (by kernel_rfl) ?_ (by assumption) ?_
          rotate_left
          · intro wS hS; (try dsimp only at hS); go_simp <;> with_reducible rfl
          try simp only [Act.put, List.setIfInBounds_toArray, List.set_cons_zero, List.set_cons_succ]
          refine held_take 33 (some 6) ?_ rfl rfl (by kernel_rfl) (fun _ _ _ h => h) (by kernel_rfl) ?_ (by assumption) ?_
          rotate_left
          · intro wS hS; (try dsimp only at hS); go_simp <;> with_reducible rfl
          try simp only [Act.put, List.setIfInBounds_toArray, List.set_cons_zero, List.set_cons_succ]
          refine wpAnyH_done (by kernel_rfl) ?_ _
          go_wp2_with fail
          all_goals
            go_ret
            exact ⟨by first | rfl | simp, HB_12.out.trans (HY.out.mono HB_12.out.size)⟩
end Go.Proofs.Ytamogfcedkjmcaa
