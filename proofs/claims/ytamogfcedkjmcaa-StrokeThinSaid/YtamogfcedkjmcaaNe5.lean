
/- The contract of isNear. Conditions: places on the board, a tolerance. -/
import Derived.Test.YtamogfcedkjmcaaSa5
import Derived.Test.YtamogfcedkjmcaaGrw5
import Derived.Test.YtamogfcedkjmcaaNM5
import Derived.Deep.CutRange
namespace Go.Proofs.Ytamogfcedkjmcaa
open Go.RowKit Go.Lib

theorem near_parts {A B L D C M : Int} (hL : 0 ≤ L) (hB : B = A - 2 * D + L) (hC : C * C = L * A - D * D) (h : A ≤ M ∨ B ≤ M ∨ (¬ (L + A < B ∨ L + B < A ∨ L = 0) ∧ C * C ≤ M * L)) :
    (D ≤ 0 → A ≤ M) ∧ (L ≤ D → B ≤ M) ∧ (0 < D → D < L → C * C ≤ M * L) := by
  have hc : M * L = L * M := Int.mul_comm _ _
  refine ⟨fun hD => ?_, fun hD => ?_, fun h0 h1 => ?_⟩
  · rcases h with h | h | ⟨h, h2⟩
    · exact h
    · omega
    · have hD0 : D = 0 := by omega
      have hLp : 0 < L := by omega
      rw [hC, hD0, hc] at h2
      have : L * A ≤ L * M := by omega
      exact Int.le_of_mul_le_mul_left this hLp
  · rcases h with h | h | ⟨h, h2⟩
    · omega
    · exact h
    · have hD0 : D = L := by omega
      have hLp : 0 < L := by omega
      rw [hC, hD0, hc] at h2
      have h4 : L * B = L * A - L * L := by rw [hB, hD0]; grind
      have : L * B ≤ L * M := by omega
      exact Int.le_of_mul_le_mul_left this hLp
  · have hDD := self_mul D
    rcases h with h | h | h
    · have := Int.mul_le_mul_of_nonneg_left h hL
      omega
    · have h3 := Int.mul_le_mul_of_nonneg_left h hL
      have h4 : C * C = L * B - (D - L) * (D - L) := by rw [hC, hB]; grind
      have h5 := self_mul (D - L)
      omega
    · exact h.2
theorem near_form {ax ay bx by_ px py z : Int} (ha : OnP ax ay) (hb : OnP bx by_) (hp : OnP px py) (hz : 0 ≤ z ∧ z ≤ 1000) :
    ((bx - ax) * (px - ax) + (by_ - ay) * (py - ay) ≤ 0 → (NearP ax ay bx by_ px py z ↔ (px - ax) * (px - ax) + (py - ay) * (py - ay) ≤ z * z)) ∧
    (0 ≤ (bx - ax) * (px - bx) + (by_ - ay) * (py - by_) → (NearP ax ay bx by_ px py z ↔ (px - bx) * (px - bx) + (py - by_) * (py - by_) ≤ z * z)) ∧
    (0 < (bx - ax) * (px - ax) + (by_ - ay) * (py - ay) → (bx - ax) * (px - bx) + (by_ - ay) * (py - by_) < 0 →
      (NearP ax ay bx by_ px py z ↔ ((bx - ax) * (py - ay) - (by_ - ay) * (px - ax)) * ((bx - ax) * (py - ay) - (by_ - ay) * (px - ax)) ≤ z * z * ((bx - ax) * (bx - ax) + (by_ - ay) * (by_ - ay)))) := by
  have e1 : sqd ax ay px py = (px - ax) * (px - ax) + (py - ay) * (py - ay) := by unfold sqd; grind
  have e2 : sqd bx by_ px py = (px - bx) * (px - bx) + (py - by_) * (py - by_) := by unfold sqd; grind
  have e3 : sqd ax ay bx by_ = (bx - ax) * (bx - ax) + (by_ - ay) * (by_ - ay) := by unfold sqd; grind
  have hL := (sqd_le ha hb).1
  have hB : (px - bx) * (px - bx) + (py - by_) * (py - by_) = (px - ax) * (px - ax) + (py - ay) * (py - ay) - 2 * ((bx - ax) * (px - ax) + (by_ - ay) * (py - ay)) + ((bx - ax) * (bx - ax) + (by_ - ay) * (by_ - ay)) := by grind
  have hC : ((bx - ax) * (py - ay) - (by_ - ay) * (px - ax)) * ((bx - ax) * (py - ay) - (by_ - ay) * (px - ax)) = ((bx - ax) * (bx - ax) + (by_ - ay) * (by_ - ay)) * ((px - ax) * (px - ax) + (py - ay) * (py - ay)) - ((bx - ax) * (px - ax) + (by_ - ay) * (py - ay)) * ((bx - ax) * (px - ax) + (by_ - ay) * (py - ay)) := by grind
  have hE : (bx - ax) * (px - bx) + (by_ - ay) * (py - by_) = (bx - ax) * (px - ax) + (by_ - ay) * (py - ay) - ((bx - ax) * (bx - ax) + (by_ - ay) * (by_ - ay)) := by grind
  have hsp : NearP ax ay bx by_ px py z ↔ _ := ⟨fun h => h.2.2.2.2, fun h => ⟨ha, hb, hp, hz, h⟩⟩
  rw [hsp, e1, e2, e3]
  rw [e3] at hL
  rw [hE]
  clear hsp e1 e2 e3 hE
  generalize (bx - ax) * (bx - ax) + (by_ - ay) * (by_ - ay) = L at *
  generalize (px - ax) * (px - ax) + (py - ay) * (py - ay) = A at *
  generalize (px - bx) * (px - bx) + (py - by_) * (py - by_) = B at *
  generalize (bx - ax) * (px - ax) + (by_ - ay) * (py - ay) = D at *
  generalize (bx - ax) * (py - ay) - (by_ - ay) * (px - ax) = C at *
  refine ⟨fun hD => ⟨fun h => (near_parts hL hB hC h).1 hD, fun h => .inl h⟩, fun hD => ⟨fun h => (near_parts hL hB hC h).2.1 (by omega), fun h => .inr (.inl h)⟩, fun h0 h1 => ⟨fun h => (near_parts hL hB hC h).2.2 h0 (by omega), fun h => .inr (.inr ⟨by omega, h⟩)⟩⟩
set_option maxRecDepth 100000 in
set_option maxHeartbeats 4000000 in
theorem pisnear_any (ax ay bx by_ px py z : Int) (w : World) (ha : OnP ax ay) (hb : OnP bx by_) (hp : OnP px py) (hz : 0 ≤ z ∧ z ≤ 1000) :
    Calls Try.prog 59 #[.agg #[.int .i64 ax, .int .i64 ay], .agg #[.int .i64 bx, .int .i64 by_], .agg #[.int .i64 px, .int .i64 py], .int .i64 z] w fun e w' => e = .returned (.bool (decide (NearP ax ay bx by_ px py z))) ∧ Below w.heap.size w w' := by
  have HNF := Lib.hid (near_form ha hb hp hz)
  have HF1 := Lib.hid (fun W => pdiff_any ax ay bx by_ W ha hb); have HF2 := Lib.hid (fun W => pdiff_any ax ay px py W ha hp); have HF3 := Lib.hid (fun W => pdiff_any bx by_ px py W hb hp)
  unfold OnP at ha hb hp
  obtain ⟨u1, hu1⟩ : ∃ u, u = bx - ax := ⟨_, rfl⟩
  obtain ⟨u2, hu2⟩ : ∃ u, u = by_ - ay := ⟨_, rfl⟩
  obtain ⟨s1, hs1⟩ : ∃ u, u = px - ax := ⟨_, rfl⟩
  obtain ⟨s2, hs2⟩ : ∃ u, u = py - ay := ⟨_, rfl⟩
  obtain ⟨t1, ht1⟩ : ∃ u, u = px - bx := ⟨_, rfl⟩
  obtain ⟨t2, ht2⟩ : ∃ u, u = py - by_ := ⟨_, rfl⟩
  rw [← hu1, ← hu2, ← hs1, ← hs2, ← ht1, ← ht2] at HNF
  rw [← hu1, ← hu2] at HF1; rw [← hs1, ← hs2] at HF2; rw [← ht1, ← ht2] at HF3
  have b1 : (-4095 ≤ u1 ∧ u1 ≤ 4095) ∧ (-4095 ≤ u2 ∧ u2 ≤ 4095) := by omega
  have b2 : (-4095 ≤ s1 ∧ s1 ≤ 4095) ∧ (-4095 ≤ s2 ∧ s2 ≤ 4095) := by omega
  have b3 : (-4095 ≤ t1 ∧ t1 ≤ 4095) ∧ (-4095 ≤ t2 ∧ t2 ≤ 4095) := by omega
  clear hu1 hu2 hs1 hs2 ht1 ht2 ha hb hp
  have HA1 := Lib.hid (fun W => palong_any u1 u2 s1 s2 W b1 b2); have HA2 := Lib.hid (fun W => palong_any s1 s2 s1 s2 W b2 b2); have HA3 := Lib.hid (fun W => palong_any u1 u2 t1 t2 W b1 b3)
  have HA4 := Lib.hid (fun W => palong_any t1 t2 t1 t2 W b3 b3); have HA5 := Lib.hid (fun W => pacross_any u1 u2 s1 s2 W b1 b2); have HA6 := Lib.hid (fun W => palong_any u1 u2 u1 u2 W b1 b1)
  have m0 := mul_le_of (a := z) (b := z) (n := 1000) (m := 1000) (by omega) (by omega) (by omega) (by omega)
  have em : IntKind.i64.wrap (z * z) = z * z := IntWalk.i64_in _ (by omega)
  have m1 := mul_le_of (a := u1) (b := s2) (n := 4095) (m := 4095) (by omega) (by omega) (by omega) (by omega)
  have m2 := mul_le_of (a := u2) (b := s1) (n := 4095) (m := 4095) (by omega) (by omega) (by omega) (by omega)
  have m3 := mul_le_of (a := u1) (b := u1) (n := 4095) (m := 4095) (by omega) (by omega) (by omega) (by omega)
  have m4 := mul_le_of (a := u2) (b := u2) (n := 4095) (m := 4095) (by omega) (by omega) (by omega) (by omega)
  obtain ⟨D, hD⟩ : ∃ d, d = u1 * s1 + u2 * s2 := ⟨_, rfl⟩
  obtain ⟨E, hE⟩ : ∃ d, d = u1 * t1 + u2 * t2 := ⟨_, rfl⟩
  obtain ⟨C, hC⟩ : ∃ d, d = u1 * s2 - u2 * s1 := ⟨_, rfl⟩
  obtain ⟨L, hL⟩ : ∃ d, d = u1 * u1 + u2 * u2 := ⟨_, rfl⟩
  obtain ⟨A2, hA2⟩ : ∃ d, d = s1 * s1 + s2 * s2 := ⟨_, rfl⟩
  obtain ⟨B2, hB2⟩ : ∃ d, d = t1 * t1 + t2 * t2 := ⟨_, rfl⟩
  obtain ⟨most, hmo⟩ : ∃ d, d = z * z := ⟨_, rfl⟩
  rw [← hD, ← hE, ← hC, ← hL, ← hA2, ← hB2, ← hmo] at HNF
  rw [← hD] at HA1; rw [← hA2] at HA2; rw [← hE] at HA3; rw [← hB2] at HA4; rw [← hC] at HA5; rw [← hL] at HA6
  rw [← hmo] at m0
  have em2 : IntKind.i64.wrap (z * z) = most := em.trans hmo.symm
  have m5 := mul_le_of (a := C) (b := C) (n := 33538050) (m := 33538050) (by omega) (by omega) (by omega) (by omega)
  have m6 := mul_le_of (a := most) (b := L) (n := 1000000) (m := 33538050) (by omega) (by omega) (by omega) (by omega)
  have e8 : IntKind.i64.wrap (C * C) = C * C := IntWalk.i64_in _ (by omega)
  have e9 : IntKind.i64.wrap (most * L) = most * L := IntWalk.i64_in _ (by omega)
  have HE := Lib.hid (And.intro e8 e9)
  clear em hz b1 b2 b3 m0 m1 m2 m3 m4 m5 m6 hD hE hC hL hA2 hB2 hmo e8 e9
  have A_0 : Hid (Blk (((w.alloc (.cells #[.int .i64 ax, .int .i64 ay] 29)).alloc (.cells #[.int .i64 bx, .int .i64 by_] 29)).alloc (.cells #[.int .i64 px, .int .i64 py] 29)) w.heap.size 29 #[.int .i64 ax, .int .i64 ay]) := allocs_blk [(#[.int .i64 ax, .int .i64 ay], 29), (#[.int .i64 bx, .int .i64 by_], 29), (#[.int .i64 px, .int .i64 py], 29)] w 0 _ rfl
  have B_0 : Hid (Blk (((w.alloc (.cells #[.int .i64 ax, .int .i64 ay] 29)).alloc (.cells #[.int .i64 bx, .int .i64 by_] 29)).alloc (.cells #[.int .i64 px, .int .i64 py] 29)) (w.heap.size + 1) 29 #[.int .i64 bx, .int .i64 by_]) := allocs_blk [(#[.int .i64 ax, .int .i64 ay], 29), (#[.int .i64 bx, .int .i64 by_], 29), (#[.int .i64 px, .int .i64 py], 29)] w 1 _ rfl
  have P_0 : Hid (Blk (((w.alloc (.cells #[.int .i64 ax, .int .i64 ay] 29)).alloc (.cells #[.int .i64 bx, .int .i64 by_] 29)).alloc (.cells #[.int .i64 px, .int .i64 py] 29)) (w.heap.size + 2) 29 #[.int .i64 px, .int .i64 py]) := allocs_blk [(#[.int .i64 ax, .int .i64 ay], 29), (#[.int .i64 bx, .int .i64 by_], 29), (#[.int .i64 px, .int .i64 py], 29)] w 2 _ rfl
  have HB_0 : Hid (Below w.heap.size w (((w.alloc (.cells #[.int .i64 ax, .int .i64 ay] 29)).alloc (.cells #[.int .i64 bx, .int .i64 by_] 29)).alloc (.cells #[.int .i64 px, .int .i64 py] 29))) := allocs_below [(#[.int .i64 ax, .int .i64 ay], 29), (#[.int .i64 bx, .int .i64 by_], 29), (#[.int .i64 px, .int .i64 py], 29)] w (Below.refl w.heap.size w) (Nat.le_refl _)
  have HEM := Lib.hid em2; clear em2
  go_enter Try.func59, Try.ntmps59
  go_upto_region 1 with fail
  go_cut [9, 10, 11] from 14 to 22 (fun x9 x10 x11 wx => ∃ p9 p10 p11 : Nat, x9 = .pointer (some ⟨p9, 0, none⟩) ∧ x10 = .pointer (some ⟨p10, 0, none⟩) ∧ x11 = .pointer (some ⟨p11, 0, none⟩) ∧ Blk wx p9 29 #[.int .i64 u1, .int .i64 u2] ∧ Blk wx p10 29 #[.int .i64 s1, .int .i64 s2] ∧ Blk wx p11 29 #[.int .i64 t1, .int .i64 t2] ∧ Below (((w.alloc (.cells #[.int .i64 ax, .int .i64 ay] 29)).alloc (.cells #[.int .i64 bx, .int .i64 by_] 29)).alloc (.cells #[.int .i64 px, .int .i64 py] 29)).heap.size (((w.alloc (.cells #[.int .i64 ax, .int .i64 ay] 29)).alloc (.cells #[.int .i64 bx, .int .i64 by_] 29)).alloc (.cells #[.int .i64 px, .int .i64 py] 29)) wx)
  case first =>
    have HK : Hid (∀ w', Below (((w.alloc (.cells #[.int .i64 ax, .int .i64 ay] 29)).alloc (.cells #[.int .i64 bx, .int .i64 by_] 29)).alloc (.cells #[.int .i64 px, .int .i64 py] 29)).heap.size (((w.alloc (.cells #[.int .i64 ax, .int .i64 ay] 29)).alloc (.cells #[.int .i64 bx, .int .i64 by_] 29)).alloc (.cells #[.int .i64 px, .int .i64 py] 29)) w' → w'.cell? ⟨w.heap.size, 0, none⟩ = some (.int .i64 ax) ∧ w'.cell? ⟨w.heap.size, 1, none⟩ = some (.int .i64 ay) ∧ w'.cell? ⟨(w.heap.size + 1), 0, none⟩ = some (.int .i64 bx) ∧ w'.cell? ⟨(w.heap.size + 1), 1, none⟩ = some (.int .i64 by_) ∧ w'.cell? ⟨(w.heap.size + 2), 0, none⟩ = some (.int .i64 px) ∧ w'.cell? ⟨(w.heap.size + 2), 1, none⟩ = some (.int .i64 py)) := Lib.hid (fun w' hW => ⟨((A_0.out.below hW A_0.out.lt).cell (i := 0) rfl), ((A_0.out.below hW A_0.out.lt).cell (i := 1) rfl), ((B_0.out.below hW B_0.out.lt).cell (i := 0) rfl), ((B_0.out.below hW B_0.out.lt).cell (i := 1) rfl), ((P_0.out.below hW P_0.out.lt).cell (i := 0) rfl), ((P_0.out.below hW P_0.out.lt).cell (i := 1) rfl)⟩)
    refine wp_region_grow (S := (fun w' => w'.cell? ⟨w.heap.size, 0, none⟩ = some (.int .i64 ax) ∧ w'.cell? ⟨w.heap.size, 1, none⟩ = some (.int .i64 ay) ∧ w'.cell? ⟨(w.heap.size + 1), 0, none⟩ = some (.int .i64 bx) ∧ w'.cell? ⟨(w.heap.size + 1), 1, none⟩ = some (.int .i64 by_) ∧ w'.cell? ⟨(w.heap.size + 2), 0, none⟩ = some (.int .i64 px) ∧ w'.cell? ⟨(w.heap.size + 2), 1, none⟩ = some (.int .i64 py))) ((fun w' => Below (((w.alloc (.cells #[.int .i64 ax, .int .i64 ay] 29)).alloc (.cells #[.int .i64 bx, .int .i64 by_] 29)).alloc (.cells #[.int .i64 px, .int .i64 py] 29)).heap.size (((w.alloc (.cells #[.int .i64 ax, .int .i64 ay] 29)).alloc (.cells #[.int .i64 bx, .int .i64 by_] 29)).alloc (.cells #[.int .i64 px, .int .i64 py] 29)) w')) (by kernel_rfl) (⟨fun w2 h2 => HK.out w2 h2, fun w2 w3 h2 hb => h2.trans (hb.mono h2.size)⟩) ((Below.refl _ _).drew) (fun hCalm => ?_)
    refine grow_take 0 (some 14) ?_ rfl rfl (by kernel_rfl) (fun _ _ _ h => h) (by kernel_rfl) hCalm ?_ ?_
    rotate_left
    · intro wS hS; (try dsimp only at hS); go_simp <;> with_reducible rfl
    try simp only [Act.put, List.setIfInBounds_toArray, List.set_cons_zero, List.set_cons_succ]
    refine grow_take 1 (some 15) ?_ rfl rfl (by kernel_rfl) (fun _ _ _ h => h) (by kernel_rfl) hCalm ?_ ?_
    rotate_left
    · intro wS hS; (try dsimp only at hS); go_simp <;> with_reducible rfl
    try simp only [Act.put, List.setIfInBounds_toArray, List.set_cons_zero, List.set_cons_succ]
    refine grow_call 2 (some 16) (.agg #[.int .i64 u1, .int .i64 u2]) 43 [.tmp 14, .tmp 15] #[29, 29] rfl rfl (by kernel_rfl) (fun _ _ _ h => h) (by kernel_rfl) hCalm rfl (enters_of Try.func43 (by kernel_rfl) rfl) (fun wz _ => HF1.out wz) (by kernel_rfl) ?_
    try simp only [Act.put, List.setIfInBounds_toArray, List.set_cons_zero, List.set_cons_succ]
    refine grow_take 3 (some 17) ?_ rfl rfl (by kernel_rfl) (fun _ _ _ h => h) (by kernel_rfl) hCalm ?_ ?_
    rotate_left
    · intro wS hS; (try dsimp only at hS); go_simp <;> with_reducible rfl
    try simp only [Act.put, List.setIfInBounds_toArray, List.set_cons_zero, List.set_cons_succ]
    refine grow_take 4 (some 18) ?_ rfl rfl (by kernel_rfl) (fun _ _ _ h => h) (by kernel_rfl) hCalm ?_ ?_
    rotate_left
    · intro wS hS; (try dsimp only at hS); go_simp <;> with_reducible rfl
    try simp only [Act.put, List.setIfInBounds_toArray, List.set_cons_zero, List.set_cons_succ]
    refine grow_call 5 (some 19) (.agg #[.int .i64 s1, .int .i64 s2]) 43 [.tmp 17, .tmp 18] #[29, 29] rfl rfl (by kernel_rfl) (fun _ _ _ h => h) (by kernel_rfl) hCalm rfl (enters_of Try.func43 (by kernel_rfl) rfl) (fun wz _ => HF2.out wz) (by kernel_rfl) ?_
    try simp only [Act.put, List.setIfInBounds_toArray, List.set_cons_zero, List.set_cons_succ]
    refine grow_take 6 (some 20) ?_ rfl rfl (by kernel_rfl) (fun _ _ _ h => h) (by kernel_rfl) hCalm ?_ ?_
    rotate_left
    · intro wS hS; (try dsimp only at hS); go_simp <;> with_reducible rfl
    try simp only [Act.put, List.setIfInBounds_toArray, List.set_cons_zero, List.set_cons_succ]
    refine grow_take 7 (some 21) ?_ rfl rfl (by kernel_rfl) (fun _ _ _ h => h) (by kernel_rfl) hCalm ?_ ?_
    rotate_left
    · intro wS hS; (try dsimp only at hS); go_simp <;> with_reducible rfl
    try simp only [Act.put, List.setIfInBounds_toArray, List.set_cons_zero, List.set_cons_succ]
    refine grow_call 8 (some 22) (.agg #[.int .i64 t1, .int .i64 t2]) 43 [.tmp 20, .tmp 21] #[29, 29] rfl rfl (by kernel_rfl) (fun _ _ _ h => h) (by kernel_rfl) hCalm rfl (enters_of Try.func43 (by kernel_rfl) rfl) (fun wz _ => HF3.out wz) (by kernel_rfl) ?_
    try simp only [Act.put, List.setIfInBounds_toArray, List.set_cons_zero, List.set_cons_succ]
    refine grow_each [9, 10, 11] (by kernel_rfl) (by decide) ?_
    refine grow_cons 9 rfl (by kernel_rfl) (fun wA hA K hK => ?_) ?_
    case _ =>
      obtain ⟨p9, hp9⟩ : ∃ b, b = wA.heap.size := ⟨_, rfl⟩
      have le_p9 : (((w.alloc (.cells #[.int .i64 ax, .int .i64 ay] 29)).alloc (.cells #[.int .i64 bx, .int .i64 by_] 29)).alloc (.cells #[.int .i64 px, .int .i64 py] 29)).heap.size ≤ p9 := by rw [hp9]; exact hA.size
      have hnew : Blk (wA.alloc (.cells #[.int .i64 0, .int .i64 0] 29)) p9 29 #[.int .i64 0, .int .i64 0] := by rw [hp9]; exact Blk.new wA _ _
      go_simp
      rw [← hp9]
      refine hK.out _ _ (fun w' => Below (((w.alloc (.cells #[.int .i64 ax, .int .i64 ay] 29)).alloc (.cells #[.int .i64 bx, .int .i64 by_] 29)).alloc (.cells #[.int .i64 px, .int .i64 py] 29)).heap.size (((w.alloc (.cells #[.int .i64 ax, .int .i64 ay] 29)).alloc (.cells #[.int .i64 bx, .int .i64 by_] 29)).alloc (.cells #[.int .i64 px, .int .i64 py] 29)) w' ∧ Blk w' p9 29 #[.int .i64 0, .int .i64 0]) ⟨fun w2 h2 => HK.out w2 h2.1, fun w2 w3 h2 hb => ⟨h2.1.trans (hb.mono h2.1.size), h2.2.below hb h2.2.lt⟩⟩ ⟨hA.alloc (Nat.le_trans hA.size (Nat.le_refl _)) _, hnew⟩ ?_
      clear hnew hp9 hK K hA wA hCalm
      have hCalm : Calm (fun w' => w'.cell? ⟨w.heap.size, 0, none⟩ = some (.int .i64 ax) ∧ w'.cell? ⟨w.heap.size, 1, none⟩ = some (.int .i64 ay) ∧ w'.cell? ⟨(w.heap.size + 1), 0, none⟩ = some (.int .i64 bx) ∧ w'.cell? ⟨(w.heap.size + 1), 1, none⟩ = some (.int .i64 by_) ∧ w'.cell? ⟨(w.heap.size + 2), 0, none⟩ = some (.int .i64 px) ∧ w'.cell? ⟨(w.heap.size + 2), 1, none⟩ = some (.int .i64 py)) (fun w' => Below (((w.alloc (.cells #[.int .i64 ax, .int .i64 ay] 29)).alloc (.cells #[.int .i64 bx, .int .i64 by_] 29)).alloc (.cells #[.int .i64 px, .int .i64 py] 29)).heap.size (((w.alloc (.cells #[.int .i64 ax, .int .i64 ay] 29)).alloc (.cells #[.int .i64 bx, .int .i64 by_] 29)).alloc (.cells #[.int .i64 px, .int .i64 py] 29)) w' ∧ Blk w' p9 29 #[.int .i64 0, .int .i64 0]) := ⟨fun w2 h2 => HK.out w2 h2.1, fun w2 w3 h2 hb => ⟨h2.1.trans (hb.mono h2.1.size), h2.2.below hb h2.2.lt⟩⟩
      try simp only [Act.put, List.setIfInBounds_toArray, List.set_cons_zero, List.set_cons_succ]
      refine grow_each [10, 11] (by kernel_rfl) (by decide) ?_
      refine grow_cons 10 rfl (by kernel_rfl) (fun wA hA K hK => ?_) ?_
      case _ =>
        obtain ⟨p10, hp10⟩ : ∃ b, b = wA.heap.size := ⟨_, rfl⟩
        have ne_p9_p10 : p9 ≠ p10 := by have := hA.2.lt; omega
        have le_p10 : (((w.alloc (.cells #[.int .i64 ax, .int .i64 ay] 29)).alloc (.cells #[.int .i64 bx, .int .i64 by_] 29)).alloc (.cells #[.int .i64 px, .int .i64 py] 29)).heap.size ≤ p10 := by rw [hp10]; exact hA.1.size
        have hnew : Blk (wA.alloc (.cells #[.int .i64 0, .int .i64 0] 29)) p10 29 #[.int .i64 0, .int .i64 0] := by rw [hp10]; exact Blk.new wA _ _
        go_simp
        rw [← hp10]
        refine hK.out _ _ (fun w' => Below (((w.alloc (.cells #[.int .i64 ax, .int .i64 ay] 29)).alloc (.cells #[.int .i64 bx, .int .i64 by_] 29)).alloc (.cells #[.int .i64 px, .int .i64 py] 29)).heap.size (((w.alloc (.cells #[.int .i64 ax, .int .i64 ay] 29)).alloc (.cells #[.int .i64 bx, .int .i64 by_] 29)).alloc (.cells #[.int .i64 px, .int .i64 py] 29)) w' ∧ Blk w' p9 29 #[.int .i64 0, .int .i64 0] ∧ Blk w' p10 29 #[.int .i64 0, .int .i64 0]) ⟨fun w2 h2 => HK.out w2 h2.1, fun w2 w3 h2 hb => ⟨h2.1.trans (hb.mono h2.1.size), h2.2.1.below hb h2.2.1.lt, h2.2.2.below hb h2.2.2.lt⟩⟩ ⟨hA.1.alloc (Nat.le_trans hA.1.size (Nat.le_refl _)) _, hA.2.alloc _, hnew⟩ ?_
        clear hnew hp10 hK K hA wA hCalm
        have hCalm : Calm (fun w' => w'.cell? ⟨w.heap.size, 0, none⟩ = some (.int .i64 ax) ∧ w'.cell? ⟨w.heap.size, 1, none⟩ = some (.int .i64 ay) ∧ w'.cell? ⟨(w.heap.size + 1), 0, none⟩ = some (.int .i64 bx) ∧ w'.cell? ⟨(w.heap.size + 1), 1, none⟩ = some (.int .i64 by_) ∧ w'.cell? ⟨(w.heap.size + 2), 0, none⟩ = some (.int .i64 px) ∧ w'.cell? ⟨(w.heap.size + 2), 1, none⟩ = some (.int .i64 py)) (fun w' => Below (((w.alloc (.cells #[.int .i64 ax, .int .i64 ay] 29)).alloc (.cells #[.int .i64 bx, .int .i64 by_] 29)).alloc (.cells #[.int .i64 px, .int .i64 py] 29)).heap.size (((w.alloc (.cells #[.int .i64 ax, .int .i64 ay] 29)).alloc (.cells #[.int .i64 bx, .int .i64 by_] 29)).alloc (.cells #[.int .i64 px, .int .i64 py] 29)) w' ∧ Blk w' p9 29 #[.int .i64 0, .int .i64 0] ∧ Blk w' p10 29 #[.int .i64 0, .int .i64 0]) := ⟨fun w2 h2 => HK.out w2 h2.1, fun w2 w3 h2 hb => ⟨h2.1.trans (hb.mono h2.1.size), h2.2.1.below hb h2.2.1.lt, h2.2.2.below hb h2.2.2.lt⟩⟩
        try simp only [Act.put, List.setIfInBounds_toArray, List.set_cons_zero, List.set_cons_succ]
        refine grow_each [11] (by kernel_rfl) (by decide) ?_
        refine grow_cons 11 rfl (by kernel_rfl) (fun wA hA K hK => ?_) grow_nil
        obtain ⟨p11, hp11⟩ : ∃ b, b = wA.heap.size := ⟨_, rfl⟩
        have ne_p9_p11 : p9 ≠ p11 := by have := hA.2.1.lt; omega
        have ne_p10_p11 : p10 ≠ p11 := by have := hA.2.2.lt; omega
        have le_p11 : (((w.alloc (.cells #[.int .i64 ax, .int .i64 ay] 29)).alloc (.cells #[.int .i64 bx, .int .i64 by_] 29)).alloc (.cells #[.int .i64 px, .int .i64 py] 29)).heap.size ≤ p11 := by rw [hp11]; exact hA.1.size
        have hnew : Blk (wA.alloc (.cells #[.int .i64 0, .int .i64 0] 29)) p11 29 #[.int .i64 0, .int .i64 0] := by rw [hp11]; exact Blk.new wA _ _
        go_simp
        rw [← hp11]
        refine hK.out _ _ (fun w' => Below (((w.alloc (.cells #[.int .i64 ax, .int .i64 ay] 29)).alloc (.cells #[.int .i64 bx, .int .i64 by_] 29)).alloc (.cells #[.int .i64 px, .int .i64 py] 29)).heap.size (((w.alloc (.cells #[.int .i64 ax, .int .i64 ay] 29)).alloc (.cells #[.int .i64 bx, .int .i64 by_] 29)).alloc (.cells #[.int .i64 px, .int .i64 py] 29)) w' ∧ Blk w' p9 29 #[.int .i64 0, .int .i64 0] ∧ Blk w' p10 29 #[.int .i64 0, .int .i64 0] ∧ Blk w' p11 29 #[.int .i64 0, .int .i64 0]) ⟨fun w2 h2 => HK.out w2 h2.1, fun w2 w3 h2 hb => ⟨h2.1.trans (hb.mono h2.1.size), h2.2.1.below hb h2.2.1.lt, h2.2.2.1.below hb h2.2.2.1.lt, h2.2.2.2.below hb h2.2.2.2.lt⟩⟩ ⟨hA.1.alloc (Nat.le_trans hA.1.size (Nat.le_refl _)) _, hA.2.1.alloc _, hA.2.2.alloc _, hnew⟩ ?_
        clear hnew hp11 hK K hA wA hCalm
        have hCalm : Calm (fun w' => w'.cell? ⟨w.heap.size, 0, none⟩ = some (.int .i64 ax) ∧ w'.cell? ⟨w.heap.size, 1, none⟩ = some (.int .i64 ay) ∧ w'.cell? ⟨(w.heap.size + 1), 0, none⟩ = some (.int .i64 bx) ∧ w'.cell? ⟨(w.heap.size + 1), 1, none⟩ = some (.int .i64 by_) ∧ w'.cell? ⟨(w.heap.size + 2), 0, none⟩ = some (.int .i64 px) ∧ w'.cell? ⟨(w.heap.size + 2), 1, none⟩ = some (.int .i64 py)) (fun w' => Below (((w.alloc (.cells #[.int .i64 ax, .int .i64 ay] 29)).alloc (.cells #[.int .i64 bx, .int .i64 by_] 29)).alloc (.cells #[.int .i64 px, .int .i64 py] 29)).heap.size (((w.alloc (.cells #[.int .i64 ax, .int .i64 ay] 29)).alloc (.cells #[.int .i64 bx, .int .i64 by_] 29)).alloc (.cells #[.int .i64 px, .int .i64 py] 29)) w' ∧ Blk w' p9 29 #[.int .i64 0, .int .i64 0] ∧ Blk w' p10 29 #[.int .i64 0, .int .i64 0] ∧ Blk w' p11 29 #[.int .i64 0, .int .i64 0]) := ⟨fun w2 h2 => HK.out w2 h2.1, fun w2 w3 h2 hb => ⟨h2.1.trans (hb.mono h2.1.size), h2.2.1.below hb h2.2.1.lt, h2.2.2.1.below hb h2.2.2.1.lt, h2.2.2.2.below hb h2.2.2.2.lt⟩⟩
        try simp only [Act.put, List.setIfInBounds_toArray, List.set_cons_zero, List.set_cons_succ]
        refine grow_each [12] (by kernel_rfl) (by decide) ?_
        refine grow_cons 12 rfl (by kernel_rfl) (fun wA hA K hK => ?_) grow_nil
        have z0 := hA.2.1.cell (i := 0) rfl; have z1 := hA.2.1.cell (i := 1) rfl; have f0 := hA.2.1.frozen 0; have f1 := hA.2.1.frozen 1
        go_simp
        refine hK.out _ _ (fun w' => Below (((w.alloc (.cells #[.int .i64 ax, .int .i64 ay] 29)).alloc (.cells #[.int .i64 bx, .int .i64 by_] 29)).alloc (.cells #[.int .i64 px, .int .i64 py] 29)).heap.size (((w.alloc (.cells #[.int .i64 ax, .int .i64 ay] 29)).alloc (.cells #[.int .i64 bx, .int .i64 by_] 29)).alloc (.cells #[.int .i64 px, .int .i64 py] 29)) w' ∧ Blk w' p9 29 #[.int .i64 u1, .int .i64 u2] ∧ Blk w' p10 29 #[.int .i64 0, .int .i64 0] ∧ Blk w' p11 29 #[.int .i64 0, .int .i64 0]) ⟨fun w2 h2 => HK.out w2 h2.1, fun w2 w3 h2 hb => ⟨h2.1.trans (hb.mono h2.1.size), h2.2.1.below hb h2.2.1.lt, h2.2.2.1.below hb h2.2.2.1.lt, h2.2.2.2.below hb h2.2.2.2.lt⟩⟩ ⟨(hA.1.setCell (p := ⟨p9, 0, none⟩) le_p9 _).setCell (p := ⟨p9, 1, none⟩) le_p9 _, (hA.2.1.set 0 _).set 1 _, (hA.2.2.1.far (p := ⟨p9, 0, none⟩) (Ne.symm ne_p9_p10) _).far (p := ⟨p9, 1, none⟩) (Ne.symm ne_p9_p10) _, (hA.2.2.2.far (p := ⟨p9, 0, none⟩) (Ne.symm ne_p9_p11) _).far (p := ⟨p9, 1, none⟩) (Ne.symm ne_p9_p11) _⟩ ?_
        clear z0 z1 f0 f1 hK K hA wA hCalm
        have hCalm : Calm (fun w' => w'.cell? ⟨w.heap.size, 0, none⟩ = some (.int .i64 ax) ∧ w'.cell? ⟨w.heap.size, 1, none⟩ = some (.int .i64 ay) ∧ w'.cell? ⟨(w.heap.size + 1), 0, none⟩ = some (.int .i64 bx) ∧ w'.cell? ⟨(w.heap.size + 1), 1, none⟩ = some (.int .i64 by_) ∧ w'.cell? ⟨(w.heap.size + 2), 0, none⟩ = some (.int .i64 px) ∧ w'.cell? ⟨(w.heap.size + 2), 1, none⟩ = some (.int .i64 py)) (fun w' => Below (((w.alloc (.cells #[.int .i64 ax, .int .i64 ay] 29)).alloc (.cells #[.int .i64 bx, .int .i64 by_] 29)).alloc (.cells #[.int .i64 px, .int .i64 py] 29)).heap.size (((w.alloc (.cells #[.int .i64 ax, .int .i64 ay] 29)).alloc (.cells #[.int .i64 bx, .int .i64 by_] 29)).alloc (.cells #[.int .i64 px, .int .i64 py] 29)) w' ∧ Blk w' p9 29 #[.int .i64 u1, .int .i64 u2] ∧ Blk w' p10 29 #[.int .i64 0, .int .i64 0] ∧ Blk w' p11 29 #[.int .i64 0, .int .i64 0]) := ⟨fun w2 h2 => HK.out w2 h2.1, fun w2 w3 h2 hb => ⟨h2.1.trans (hb.mono h2.1.size), h2.2.1.below hb h2.2.1.lt, h2.2.2.1.below hb h2.2.2.1.lt, h2.2.2.2.below hb h2.2.2.2.lt⟩⟩
        try simp only [Act.put]
        refine grow_each [13] (by kernel_rfl) (by decide) ?_
        refine grow_cons 13 rfl (by kernel_rfl) (fun wA hA K hK => ?_) grow_nil
        have z0 := hA.2.2.1.cell (i := 0) rfl; have z1 := hA.2.2.1.cell (i := 1) rfl; have f0 := hA.2.2.1.frozen 0; have f1 := hA.2.2.1.frozen 1
        go_simp
        refine hK.out _ _ (fun w' => Below (((w.alloc (.cells #[.int .i64 ax, .int .i64 ay] 29)).alloc (.cells #[.int .i64 bx, .int .i64 by_] 29)).alloc (.cells #[.int .i64 px, .int .i64 py] 29)).heap.size (((w.alloc (.cells #[.int .i64 ax, .int .i64 ay] 29)).alloc (.cells #[.int .i64 bx, .int .i64 by_] 29)).alloc (.cells #[.int .i64 px, .int .i64 py] 29)) w' ∧ Blk w' p9 29 #[.int .i64 u1, .int .i64 u2] ∧ Blk w' p10 29 #[.int .i64 s1, .int .i64 s2] ∧ Blk w' p11 29 #[.int .i64 0, .int .i64 0]) ⟨fun w2 h2 => HK.out w2 h2.1, fun w2 w3 h2 hb => ⟨h2.1.trans (hb.mono h2.1.size), h2.2.1.below hb h2.2.1.lt, h2.2.2.1.below hb h2.2.2.1.lt, h2.2.2.2.below hb h2.2.2.2.lt⟩⟩ ⟨(hA.1.setCell (p := ⟨p10, 0, none⟩) le_p10 _).setCell (p := ⟨p10, 1, none⟩) le_p10 _, (hA.2.1.far (p := ⟨p10, 0, none⟩) ne_p9_p10 _).far (p := ⟨p10, 1, none⟩) ne_p9_p10 _, (hA.2.2.1.set 0 _).set 1 _, (hA.2.2.2.far (p := ⟨p10, 0, none⟩) (Ne.symm ne_p10_p11) _).far (p := ⟨p10, 1, none⟩) (Ne.symm ne_p10_p11) _⟩ ?_
        clear z0 z1 f0 f1 hK K hA wA hCalm
        have hCalm : Calm (fun w' => w'.cell? ⟨w.heap.size, 0, none⟩ = some (.int .i64 ax) ∧ w'.cell? ⟨w.heap.size, 1, none⟩ = some (.int .i64 ay) ∧ w'.cell? ⟨(w.heap.size + 1), 0, none⟩ = some (.int .i64 bx) ∧ w'.cell? ⟨(w.heap.size + 1), 1, none⟩ = some (.int .i64 by_) ∧ w'.cell? ⟨(w.heap.size + 2), 0, none⟩ = some (.int .i64 px) ∧ w'.cell? ⟨(w.heap.size + 2), 1, none⟩ = some (.int .i64 py)) (fun w' => Below (((w.alloc (.cells #[.int .i64 ax, .int .i64 ay] 29)).alloc (.cells #[.int .i64 bx, .int .i64 by_] 29)).alloc (.cells #[.int .i64 px, .int .i64 py] 29)).heap.size (((w.alloc (.cells #[.int .i64 ax, .int .i64 ay] 29)).alloc (.cells #[.int .i64 bx, .int .i64 by_] 29)).alloc (.cells #[.int .i64 px, .int .i64 py] 29)) w' ∧ Blk w' p9 29 #[.int .i64 u1, .int .i64 u2] ∧ Blk w' p10 29 #[.int .i64 s1, .int .i64 s2] ∧ Blk w' p11 29 #[.int .i64 0, .int .i64 0]) := ⟨fun w2 h2 => HK.out w2 h2.1, fun w2 w3 h2 hb => ⟨h2.1.trans (hb.mono h2.1.size), h2.2.1.below hb h2.2.1.lt, h2.2.2.1.below hb h2.2.2.1.lt, h2.2.2.2.below hb h2.2.2.2.lt⟩⟩
        try simp only [Act.put]
        refine grow_each [14] (by kernel_rfl) (by decide) ?_
        refine grow_cons 14 rfl (by kernel_rfl) (fun wA hA K hK => ?_) grow_nil
        have z0 := hA.2.2.2.cell (i := 0) rfl; have z1 := hA.2.2.2.cell (i := 1) rfl; have f0 := hA.2.2.2.frozen 0; have f1 := hA.2.2.2.frozen 1
        go_simp
        refine hK.out _ _ (fun w' => Below (((w.alloc (.cells #[.int .i64 ax, .int .i64 ay] 29)).alloc (.cells #[.int .i64 bx, .int .i64 by_] 29)).alloc (.cells #[.int .i64 px, .int .i64 py] 29)).heap.size (((w.alloc (.cells #[.int .i64 ax, .int .i64 ay] 29)).alloc (.cells #[.int .i64 bx, .int .i64 by_] 29)).alloc (.cells #[.int .i64 px, .int .i64 py] 29)) w' ∧ Blk w' p9 29 #[.int .i64 u1, .int .i64 u2] ∧ Blk w' p10 29 #[.int .i64 s1, .int .i64 s2] ∧ Blk w' p11 29 #[.int .i64 t1, .int .i64 t2]) ⟨fun w2 h2 => HK.out w2 h2.1, fun w2 w3 h2 hb => ⟨h2.1.trans (hb.mono h2.1.size), h2.2.1.below hb h2.2.1.lt, h2.2.2.1.below hb h2.2.2.1.lt, h2.2.2.2.below hb h2.2.2.2.lt⟩⟩ ⟨(hA.1.setCell (p := ⟨p11, 0, none⟩) le_p11 _).setCell (p := ⟨p11, 1, none⟩) le_p11 _, (hA.2.1.far (p := ⟨p11, 0, none⟩) ne_p9_p11 _).far (p := ⟨p11, 1, none⟩) ne_p9_p11 _, (hA.2.2.1.far (p := ⟨p11, 0, none⟩) ne_p10_p11 _).far (p := ⟨p11, 1, none⟩) ne_p10_p11 _, (hA.2.2.2.set 0 _).set 1 _⟩ ?_
        clear z0 z1 f0 f1 hK K hA wA hCalm
        have hCalm : Calm (fun w' => w'.cell? ⟨w.heap.size, 0, none⟩ = some (.int .i64 ax) ∧ w'.cell? ⟨w.heap.size, 1, none⟩ = some (.int .i64 ay) ∧ w'.cell? ⟨(w.heap.size + 1), 0, none⟩ = some (.int .i64 bx) ∧ w'.cell? ⟨(w.heap.size + 1), 1, none⟩ = some (.int .i64 by_) ∧ w'.cell? ⟨(w.heap.size + 2), 0, none⟩ = some (.int .i64 px) ∧ w'.cell? ⟨(w.heap.size + 2), 1, none⟩ = some (.int .i64 py)) (fun w' => Below (((w.alloc (.cells #[.int .i64 ax, .int .i64 ay] 29)).alloc (.cells #[.int .i64 bx, .int .i64 by_] 29)).alloc (.cells #[.int .i64 px, .int .i64 py] 29)).heap.size (((w.alloc (.cells #[.int .i64 ax, .int .i64 ay] 29)).alloc (.cells #[.int .i64 bx, .int .i64 by_] 29)).alloc (.cells #[.int .i64 px, .int .i64 py] 29)) w' ∧ Blk w' p9 29 #[.int .i64 u1, .int .i64 u2] ∧ Blk w' p10 29 #[.int .i64 s1, .int .i64 s2] ∧ Blk w' p11 29 #[.int .i64 t1, .int .i64 t2]) := ⟨fun w2 h2 => HK.out w2 h2.1, fun w2 w3 h2 hb => ⟨h2.1.trans (hb.mono h2.1.size), h2.2.1.below hb h2.2.1.lt, h2.2.2.1.below hb h2.2.2.1.lt, h2.2.2.2.below hb h2.2.2.2.lt⟩⟩
        try simp only [Act.put]
        refine grow_done (by kernel_rfl) (fun wA hA => ?_) _
        go_wp2_with fail
        go_meet
        exact ⟨p9, p10, p11, rfl, rfl, rfl, hA.2.1, hA.2.2.1, hA.2.2.2, hA.1⟩
      refine grow_cons 11 rfl (by kernel_rfl) (fun wA hA K hK => ?_) ?_
      case _ =>
        obtain ⟨p11, hp11⟩ : ∃ b, b = wA.heap.size := ⟨_, rfl⟩
        have ne_p9_p11 : p9 ≠ p11 := by have := hA.2.lt; omega
        have le_p11 : (((w.alloc (.cells #[.int .i64 ax, .int .i64 ay] 29)).alloc (.cells #[.int .i64 bx, .int .i64 by_] 29)).alloc (.cells #[.int .i64 px, .int .i64 py] 29)).heap.size ≤ p11 := by rw [hp11]; exact hA.1.size
        have hnew : Blk (wA.alloc (.cells #[.int .i64 0, .int .i64 0] 29)) p11 29 #[.int .i64 0, .int .i64 0] := by rw [hp11]; exact Blk.new wA _ _
        go_simp
        rw [← hp11]
        refine hK.out _ _ (fun w' => Below (((w.alloc (.cells #[.int .i64 ax, .int .i64 ay] 29)).alloc (.cells #[.int .i64 bx, .int .i64 by_] 29)).alloc (.cells #[.int .i64 px, .int .i64 py] 29)).heap.size (((w.alloc (.cells #[.int .i64 ax, .int .i64 ay] 29)).alloc (.cells #[.int .i64 bx, .int .i64 by_] 29)).alloc (.cells #[.int .i64 px, .int .i64 py] 29)) w' ∧ Blk w' p9 29 #[.int .i64 0, .int .i64 0] ∧ Blk w' p11 29 #[.int .i64 0, .int .i64 0]) ⟨fun w2 h2 => HK.out w2 h2.1, fun w2 w3 h2 hb => ⟨h2.1.trans (hb.mono h2.1.size), h2.2.1.below hb h2.2.1.lt, h2.2.2.below hb h2.2.2.lt⟩⟩ ⟨hA.1.alloc (Nat.le_trans hA.1.size (Nat.le_refl _)) _, hA.2.alloc _, hnew⟩ ?_
        clear hnew hp11 hK K hA wA hCalm
        have hCalm : Calm (fun w' => w'.cell? ⟨w.heap.size, 0, none⟩ = some (.int .i64 ax) ∧ w'.cell? ⟨w.heap.size, 1, none⟩ = some (.int .i64 ay) ∧ w'.cell? ⟨(w.heap.size + 1), 0, none⟩ = some (.int .i64 bx) ∧ w'.cell? ⟨(w.heap.size + 1), 1, none⟩ = some (.int .i64 by_) ∧ w'.cell? ⟨(w.heap.size + 2), 0, none⟩ = some (.int .i64 px) ∧ w'.cell? ⟨(w.heap.size + 2), 1, none⟩ = some (.int .i64 py)) (fun w' => Below (((w.alloc (.cells #[.int .i64 ax, .int .i64 ay] 29)).alloc (.cells #[.int .i64 bx, .int .i64 by_] 29)).alloc (.cells #[.int .i64 px, .int .i64 py] 29)).heap.size (((w.alloc (.cells #[.int .i64 ax, .int .i64 ay] 29)).alloc (.cells #[.int .i64 bx, .int .i64 by_] 29)).alloc (.cells #[.int .i64 px, .int .i64 py] 29)) w' ∧ Blk w' p9 29 #[.int .i64 0, .int .i64 0] ∧ Blk w' p11 29 #[.int .i64 0, .int .i64 0]) := ⟨fun w2 h2 => HK.out w2 h2.1, fun w2 w3 h2 hb => ⟨h2.1.trans (hb.mono h2.1.size), h2.2.1.below hb h2.2.1.lt, h2.2.2.below hb h2.2.2.lt⟩⟩
        try simp only [Act.put, List.setIfInBounds_toArray, List.set_cons_zero, List.set_cons_succ]
        refine grow_each [10] (by kernel_rfl) (by decide) ?_
        refine grow_cons 10 rfl (by kernel_rfl) (fun wA hA K hK => ?_) grow_nil
        obtain ⟨p10, hp10⟩ : ∃ b, b = wA.heap.size := ⟨_, rfl⟩
        have ne_p9_p10 : p9 ≠ p10 := by have := hA.2.1.lt; omega
        have ne_p11_p10 : p11 ≠ p10 := by have := hA.2.2.lt; omega
        have le_p10 : (((w.alloc (.cells #[.int .i64 ax, .int .i64 ay] 29)).alloc (.cells #[.int .i64 bx, .int .i64 by_] 29)).alloc (.cells #[.int .i64 px, .int .i64 py] 29)).heap.size ≤ p10 := by rw [hp10]; exact hA.1.size
        have hnew : Blk (wA.alloc (.cells #[.int .i64 0, .int .i64 0] 29)) p10 29 #[.int .i64 0, .int .i64 0] := by rw [hp10]; exact Blk.new wA _ _
        go_simp
        rw [← hp10]
        refine hK.out _ _ (fun w' => Below (((w.alloc (.cells #[.int .i64 ax, .int .i64 ay] 29)).alloc (.cells #[.int .i64 bx, .int .i64 by_] 29)).alloc (.cells #[.int .i64 px, .int .i64 py] 29)).heap.size (((w.alloc (.cells #[.int .i64 ax, .int .i64 ay] 29)).alloc (.cells #[.int .i64 bx, .int .i64 by_] 29)).alloc (.cells #[.int .i64 px, .int .i64 py] 29)) w' ∧ Blk w' p9 29 #[.int .i64 0, .int .i64 0] ∧ Blk w' p11 29 #[.int .i64 0, .int .i64 0] ∧ Blk w' p10 29 #[.int .i64 0, .int .i64 0]) ⟨fun w2 h2 => HK.out w2 h2.1, fun w2 w3 h2 hb => ⟨h2.1.trans (hb.mono h2.1.size), h2.2.1.below hb h2.2.1.lt, h2.2.2.1.below hb h2.2.2.1.lt, h2.2.2.2.below hb h2.2.2.2.lt⟩⟩ ⟨hA.1.alloc (Nat.le_trans hA.1.size (Nat.le_refl _)) _, hA.2.1.alloc _, hA.2.2.alloc _, hnew⟩ ?_
        clear hnew hp10 hK K hA wA hCalm
        have hCalm : Calm (fun w' => w'.cell? ⟨w.heap.size, 0, none⟩ = some (.int .i64 ax) ∧ w'.cell? ⟨w.heap.size, 1, none⟩ = some (.int .i64 ay) ∧ w'.cell? ⟨(w.heap.size + 1), 0, none⟩ = some (.int .i64 bx) ∧ w'.cell? ⟨(w.heap.size + 1), 1, none⟩ = some (.int .i64 by_) ∧ w'.cell? ⟨(w.heap.size + 2), 0, none⟩ = some (.int .i64 px) ∧ w'.cell? ⟨(w.heap.size + 2), 1, none⟩ = some (.int .i64 py)) (fun w' => Below (((w.alloc (.cells #[.int .i64 ax, .int .i64 ay] 29)).alloc (.cells #[.int .i64 bx, .int .i64 by_] 29)).alloc (.cells #[.int .i64 px, .int .i64 py] 29)).heap.size (((w.alloc (.cells #[.int .i64 ax, .int .i64 ay] 29)).alloc (.cells #[.int .i64 bx, .int .i64 by_] 29)).alloc (.cells #[.int .i64 px, .int .i64 py] 29)) w' ∧ Blk w' p9 29 #[.int .i64 0, .int .i64 0] ∧ Blk w' p11 29 #[.int .i64 0, .int .i64 0] ∧ Blk w' p10 29 #[.int .i64 0, .int .i64 0]) := ⟨fun w2 h2 => HK.out w2 h2.1, fun w2 w3 h2 hb => ⟨h2.1.trans (hb.mono h2.1.size), h2.2.1.below hb h2.2.1.lt, h2.2.2.1.below hb h2.2.2.1.lt, h2.2.2.2.below hb h2.2.2.2.lt⟩⟩
        try simp only [Act.put, List.setIfInBounds_toArray, List.set_cons_zero, List.set_cons_succ]
        refine grow_each [12] (by kernel_rfl) (by decide) ?_
        refine grow_cons 12 rfl (by kernel_rfl) (fun wA hA K hK => ?_) grow_nil
        have z0 := hA.2.1.cell (i := 0) rfl; have z1 := hA.2.1.cell (i := 1) rfl; have f0 := hA.2.1.frozen 0; have f1 := hA.2.1.frozen 1
        go_simp
        refine hK.out _ _ (fun w' => Below (((w.alloc (.cells #[.int .i64 ax, .int .i64 ay] 29)).alloc (.cells #[.int .i64 bx, .int .i64 by_] 29)).alloc (.cells #[.int .i64 px, .int .i64 py] 29)).heap.size (((w.alloc (.cells #[.int .i64 ax, .int .i64 ay] 29)).alloc (.cells #[.int .i64 bx, .int .i64 by_] 29)).alloc (.cells #[.int .i64 px, .int .i64 py] 29)) w' ∧ Blk w' p9 29 #[.int .i64 u1, .int .i64 u2] ∧ Blk w' p11 29 #[.int .i64 0, .int .i64 0] ∧ Blk w' p10 29 #[.int .i64 0, .int .i64 0]) ⟨fun w2 h2 => HK.out w2 h2.1, fun w2 w3 h2 hb => ⟨h2.1.trans (hb.mono h2.1.size), h2.2.1.below hb h2.2.1.lt, h2.2.2.1.below hb h2.2.2.1.lt, h2.2.2.2.below hb h2.2.2.2.lt⟩⟩ ⟨(hA.1.setCell (p := ⟨p9, 0, none⟩) le_p9 _).setCell (p := ⟨p9, 1, none⟩) le_p9 _, (hA.2.1.set 0 _).set 1 _, (hA.2.2.1.far (p := ⟨p9, 0, none⟩) (Ne.symm ne_p9_p11) _).far (p := ⟨p9, 1, none⟩) (Ne.symm ne_p9_p11) _, (hA.2.2.2.far (p := ⟨p9, 0, none⟩) (Ne.symm ne_p9_p10) _).far (p := ⟨p9, 1, none⟩) (Ne.symm ne_p9_p10) _⟩ ?_
        clear z0 z1 f0 f1 hK K hA wA hCalm
        have hCalm : Calm (fun w' => w'.cell? ⟨w.heap.size, 0, none⟩ = some (.int .i64 ax) ∧ w'.cell? ⟨w.heap.size, 1, none⟩ = some (.int .i64 ay) ∧ w'.cell? ⟨(w.heap.size + 1), 0, none⟩ = some (.int .i64 bx) ∧ w'.cell? ⟨(w.heap.size + 1), 1, none⟩ = some (.int .i64 by_) ∧ w'.cell? ⟨(w.heap.size + 2), 0, none⟩ = some (.int .i64 px) ∧ w'.cell? ⟨(w.heap.size + 2), 1, none⟩ = some (.int .i64 py)) (fun w' => Below (((w.alloc (.cells #[.int .i64 ax, .int .i64 ay] 29)).alloc (.cells #[.int .i64 bx, .int .i64 by_] 29)).alloc (.cells #[.int .i64 px, .int .i64 py] 29)).heap.size (((w.alloc (.cells #[.int .i64 ax, .int .i64 ay] 29)).alloc (.cells #[.int .i64 bx, .int .i64 by_] 29)).alloc (.cells #[.int .i64 px, .int .i64 py] 29)) w' ∧ Blk w' p9 29 #[.int .i64 u1, .int .i64 u2] ∧ Blk w' p11 29 #[.int .i64 0, .int .i64 0] ∧ Blk w' p10 29 #[.int .i64 0, .int .i64 0]) := ⟨fun w2 h2 => HK.out w2 h2.1, fun w2 w3 h2 hb => ⟨h2.1.trans (hb.mono h2.1.size), h2.2.1.below hb h2.2.1.lt, h2.2.2.1.below hb h2.2.2.1.lt, h2.2.2.2.below hb h2.2.2.2.lt⟩⟩
        try simp only [Act.put]
        refine grow_each [13] (by kernel_rfl) (by decide) ?_
        refine grow_cons 13 rfl (by kernel_rfl) (fun wA hA K hK => ?_) grow_nil
        have z0 := hA.2.2.2.cell (i := 0) rfl; have z1 := hA.2.2.2.cell (i := 1) rfl; have f0 := hA.2.2.2.frozen 0; have f1 := hA.2.2.2.frozen 1
        go_simp
        refine hK.out _ _ (fun w' => Below (((w.alloc (.cells #[.int .i64 ax, .int .i64 ay] 29)).alloc (.cells #[.int .i64 bx, .int .i64 by_] 29)).alloc (.cells #[.int .i64 px, .int .i64 py] 29)).heap.size (((w.alloc (.cells #[.int .i64 ax, .int .i64 ay] 29)).alloc (.cells #[.int .i64 bx, .int .i64 by_] 29)).alloc (.cells #[.int .i64 px, .int .i64 py] 29)) w' ∧ Blk w' p9 29 #[.int .i64 u1, .int .i64 u2] ∧ Blk w' p11 29 #[.int .i64 0, .int .i64 0] ∧ Blk w' p10 29 #[.int .i64 s1, .int .i64 s2]) ⟨fun w2 h2 => HK.out w2 h2.1, fun w2 w3 h2 hb => ⟨h2.1.trans (hb.mono h2.1.size), h2.2.1.below hb h2.2.1.lt, h2.2.2.1.below hb h2.2.2.1.lt, h2.2.2.2.below hb h2.2.2.2.lt⟩⟩ ⟨(hA.1.setCell (p := ⟨p10, 0, none⟩) le_p10 _).setCell (p := ⟨p10, 1, none⟩) le_p10 _, (hA.2.1.far (p := ⟨p10, 0, none⟩) ne_p9_p10 _).far (p := ⟨p10, 1, none⟩) ne_p9_p10 _, (hA.2.2.1.far (p := ⟨p10, 0, none⟩) ne_p11_p10 _).far (p := ⟨p10, 1, none⟩) ne_p11_p10 _, (hA.2.2.2.set 0 _).set 1 _⟩ ?_
        clear z0 z1 f0 f1 hK K hA wA hCalm
        have hCalm : Calm (fun w' => w'.cell? ⟨w.heap.size, 0, none⟩ = some (.int .i64 ax) ∧ w'.cell? ⟨w.heap.size, 1, none⟩ = some (.int .i64 ay) ∧ w'.cell? ⟨(w.heap.size + 1), 0, none⟩ = some (.int .i64 bx) ∧ w'.cell? ⟨(w.heap.size + 1), 1, none⟩ = some (.int .i64 by_) ∧ w'.cell? ⟨(w.heap.size + 2), 0, none⟩ = some (.int .i64 px) ∧ w'.cell? ⟨(w.heap.size + 2), 1, none⟩ = some (.int .i64 py)) (fun w' => Below (((w.alloc (.cells #[.int .i64 ax, .int .i64 ay] 29)).alloc (.cells #[.int .i64 bx, .int .i64 by_] 29)).alloc (.cells #[.int .i64 px, .int .i64 py] 29)).heap.size (((w.alloc (.cells #[.int .i64 ax, .int .i64 ay] 29)).alloc (.cells #[.int .i64 bx, .int .i64 by_] 29)).alloc (.cells #[.int .i64 px, .int .i64 py] 29)) w' ∧ Blk w' p9 29 #[.int .i64 u1, .int .i64 u2] ∧ Blk w' p11 29 #[.int .i64 0, .int .i64 0] ∧ Blk w' p10 29 #[.int .i64 s1, .int .i64 s2]) := ⟨fun w2 h2 => HK.out w2 h2.1, fun w2 w3 h2 hb => ⟨h2.1.trans (hb.mono h2.1.size), h2.2.1.below hb h2.2.1.lt, h2.2.2.1.below hb h2.2.2.1.lt, h2.2.2.2.below hb h2.2.2.2.lt⟩⟩
        try simp only [Act.put]
        refine grow_each [14] (by kernel_rfl) (by decide) ?_
        refine grow_cons 14 rfl (by kernel_rfl) (fun wA hA K hK => ?_) grow_nil
        have z0 := hA.2.2.1.cell (i := 0) rfl; have z1 := hA.2.2.1.cell (i := 1) rfl; have f0 := hA.2.2.1.frozen 0; have f1 := hA.2.2.1.frozen 1
        go_simp
        refine hK.out _ _ (fun w' => Below (((w.alloc (.cells #[.int .i64 ax, .int .i64 ay] 29)).alloc (.cells #[.int .i64 bx, .int .i64 by_] 29)).alloc (.cells #[.int .i64 px, .int .i64 py] 29)).heap.size (((w.alloc (.cells #[.int .i64 ax, .int .i64 ay] 29)).alloc (.cells #[.int .i64 bx, .int .i64 by_] 29)).alloc (.cells #[.int .i64 px, .int .i64 py] 29)) w' ∧ Blk w' p9 29 #[.int .i64 u1, .int .i64 u2] ∧ Blk w' p11 29 #[.int .i64 t1, .int .i64 t2] ∧ Blk w' p10 29 #[.int .i64 s1, .int .i64 s2]) ⟨fun w2 h2 => HK.out w2 h2.1, fun w2 w3 h2 hb => ⟨h2.1.trans (hb.mono h2.1.size), h2.2.1.below hb h2.2.1.lt, h2.2.2.1.below hb h2.2.2.1.lt, h2.2.2.2.below hb h2.2.2.2.lt⟩⟩ ⟨(hA.1.setCell (p := ⟨p11, 0, none⟩) le_p11 _).setCell (p := ⟨p11, 1, none⟩) le_p11 _, (hA.2.1.far (p := ⟨p11, 0, none⟩) ne_p9_p11 _).far (p := ⟨p11, 1, none⟩) ne_p9_p11 _, (hA.2.2.1.set 0 _).set 1 _, (hA.2.2.2.far (p := ⟨p11, 0, none⟩) (Ne.symm ne_p11_p10) _).far (p := ⟨p11, 1, none⟩) (Ne.symm ne_p11_p10) _⟩ ?_
        clear z0 z1 f0 f1 hK K hA wA hCalm
        have hCalm : Calm (fun w' => w'.cell? ⟨w.heap.size, 0, none⟩ = some (.int .i64 ax) ∧ w'.cell? ⟨w.heap.size, 1, none⟩ = some (.int .i64 ay) ∧ w'.cell? ⟨(w.heap.size + 1), 0, none⟩ = some (.int .i64 bx) ∧ w'.cell? ⟨(w.heap.size + 1), 1, none⟩ = some (.int .i64 by_) ∧ w'.cell? ⟨(w.heap.size + 2), 0, none⟩ = some (.int .i64 px) ∧ w'.cell? ⟨(w.heap.size + 2), 1, none⟩ = some (.int .i64 py)) (fun w' => Below (((w.alloc (.cells #[.int .i64 ax, .int .i64 ay] 29)).alloc (.cells #[.int .i64 bx, .int .i64 by_] 29)).alloc (.cells #[.int .i64 px, .int .i64 py] 29)).heap.size (((w.alloc (.cells #[.int .i64 ax, .int .i64 ay] 29)).alloc (.cells #[.int .i64 bx, .int .i64 by_] 29)).alloc (.cells #[.int .i64 px, .int .i64 py] 29)) w' ∧ Blk w' p9 29 #[.int .i64 u1, .int .i64 u2] ∧ Blk w' p11 29 #[.int .i64 t1, .int .i64 t2] ∧ Blk w' p10 29 #[.int .i64 s1, .int .i64 s2]) := ⟨fun w2 h2 => HK.out w2 h2.1, fun w2 w3 h2 hb => ⟨h2.1.trans (hb.mono h2.1.size), h2.2.1.below hb h2.2.1.lt, h2.2.2.1.below hb h2.2.2.1.lt, h2.2.2.2.below hb h2.2.2.2.lt⟩⟩
        try simp only [Act.put]
        refine grow_done (by kernel_rfl) (fun wA hA => ?_) _
        go_wp2_with fail
        go_meet
        exact ⟨p9, p10, p11, rfl, rfl, rfl, hA.2.1, hA.2.2.2, hA.2.2.1, hA.1⟩
      exact grow_nil
    refine grow_cons 10 rfl (by kernel_rfl) (fun wA hA K hK => ?_) ?_
    case _ =>
      obtain ⟨p10, hp10⟩ : ∃ b, b = wA.heap.size := ⟨_, rfl⟩
      have le_p10 : (((w.alloc (.cells #[.int .i64 ax, .int .i64 ay] 29)).alloc (.cells #[.int .i64 bx, .int .i64 by_] 29)).alloc (.cells #[.int .i64 px, .int .i64 py] 29)).heap.size ≤ p10 := by rw [hp10]; exact hA.size
      have hnew : Blk (wA.alloc (.cells #[.int .i64 0, .int .i64 0] 29)) p10 29 #[.int .i64 0, .int .i64 0] := by rw [hp10]; exact Blk.new wA _ _
      go_simp
      rw [← hp10]
      refine hK.out _ _ (fun w' => Below (((w.alloc (.cells #[.int .i64 ax, .int .i64 ay] 29)).alloc (.cells #[.int .i64 bx, .int .i64 by_] 29)).alloc (.cells #[.int .i64 px, .int .i64 py] 29)).heap.size (((w.alloc (.cells #[.int .i64 ax, .int .i64 ay] 29)).alloc (.cells #[.int .i64 bx, .int .i64 by_] 29)).alloc (.cells #[.int .i64 px, .int .i64 py] 29)) w' ∧ Blk w' p10 29 #[.int .i64 0, .int .i64 0]) ⟨fun w2 h2 => HK.out w2 h2.1, fun w2 w3 h2 hb => ⟨h2.1.trans (hb.mono h2.1.size), h2.2.below hb h2.2.lt⟩⟩ ⟨hA.alloc (Nat.le_trans hA.size (Nat.le_refl _)) _, hnew⟩ ?_
      clear hnew hp10 hK K hA wA hCalm
      have hCalm : Calm (fun w' => w'.cell? ⟨w.heap.size, 0, none⟩ = some (.int .i64 ax) ∧ w'.cell? ⟨w.heap.size, 1, none⟩ = some (.int .i64 ay) ∧ w'.cell? ⟨(w.heap.size + 1), 0, none⟩ = some (.int .i64 bx) ∧ w'.cell? ⟨(w.heap.size + 1), 1, none⟩ = some (.int .i64 by_) ∧ w'.cell? ⟨(w.heap.size + 2), 0, none⟩ = some (.int .i64 px) ∧ w'.cell? ⟨(w.heap.size + 2), 1, none⟩ = some (.int .i64 py)) (fun w' => Below (((w.alloc (.cells #[.int .i64 ax, .int .i64 ay] 29)).alloc (.cells #[.int .i64 bx, .int .i64 by_] 29)).alloc (.cells #[.int .i64 px, .int .i64 py] 29)).heap.size (((w.alloc (.cells #[.int .i64 ax, .int .i64 ay] 29)).alloc (.cells #[.int .i64 bx, .int .i64 by_] 29)).alloc (.cells #[.int .i64 px, .int .i64 py] 29)) w' ∧ Blk w' p10 29 #[.int .i64 0, .int .i64 0]) := ⟨fun w2 h2 => HK.out w2 h2.1, fun w2 w3 h2 hb => ⟨h2.1.trans (hb.mono h2.1.size), h2.2.below hb h2.2.lt⟩⟩
      try simp only [Act.put, List.setIfInBounds_toArray, List.set_cons_zero, List.set_cons_succ]
      refine grow_each [9, 11] (by kernel_rfl) (by decide) ?_
      refine grow_cons 9 rfl (by kernel_rfl) (fun wA hA K hK => ?_) ?_
      case _ =>
        obtain ⟨p9, hp9⟩ : ∃ b, b = wA.heap.size := ⟨_, rfl⟩
        have ne_p10_p9 : p10 ≠ p9 := by have := hA.2.lt; omega
        have le_p9 : (((w.alloc (.cells #[.int .i64 ax, .int .i64 ay] 29)).alloc (.cells #[.int .i64 bx, .int .i64 by_] 29)).alloc (.cells #[.int .i64 px, .int .i64 py] 29)).heap.size ≤ p9 := by rw [hp9]; exact hA.1.size
        have hnew : Blk (wA.alloc (.cells #[.int .i64 0, .int .i64 0] 29)) p9 29 #[.int .i64 0, .int .i64 0] := by rw [hp9]; exact Blk.new wA _ _
        go_simp
        rw [← hp9]
        refine hK.out _ _ (fun w' => Below (((w.alloc (.cells #[.int .i64 ax, .int .i64 ay] 29)).alloc (.cells #[.int .i64 bx, .int .i64 by_] 29)).alloc (.cells #[.int .i64 px, .int .i64 py] 29)).heap.size (((w.alloc (.cells #[.int .i64 ax, .int .i64 ay] 29)).alloc (.cells #[.int .i64 bx, .int .i64 by_] 29)).alloc (.cells #[.int .i64 px, .int .i64 py] 29)) w' ∧ Blk w' p10 29 #[.int .i64 0, .int .i64 0] ∧ Blk w' p9 29 #[.int .i64 0, .int .i64 0]) ⟨fun w2 h2 => HK.out w2 h2.1, fun w2 w3 h2 hb => ⟨h2.1.trans (hb.mono h2.1.size), h2.2.1.below hb h2.2.1.lt, h2.2.2.below hb h2.2.2.lt⟩⟩ ⟨hA.1.alloc (Nat.le_trans hA.1.size (Nat.le_refl _)) _, hA.2.alloc _, hnew⟩ ?_
        clear hnew hp9 hK K hA wA hCalm
        have hCalm : Calm (fun w' => w'.cell? ⟨w.heap.size, 0, none⟩ = some (.int .i64 ax) ∧ w'.cell? ⟨w.heap.size, 1, none⟩ = some (.int .i64 ay) ∧ w'.cell? ⟨(w.heap.size + 1), 0, none⟩ = some (.int .i64 bx) ∧ w'.cell? ⟨(w.heap.size + 1), 1, none⟩ = some (.int .i64 by_) ∧ w'.cell? ⟨(w.heap.size + 2), 0, none⟩ = some (.int .i64 px) ∧ w'.cell? ⟨(w.heap.size + 2), 1, none⟩ = some (.int .i64 py)) (fun w' => Below (((w.alloc (.cells #[.int .i64 ax, .int .i64 ay] 29)).alloc (.cells #[.int .i64 bx, .int .i64 by_] 29)).alloc (.cells #[.int .i64 px, .int .i64 py] 29)).heap.size (((w.alloc (.cells #[.int .i64 ax, .int .i64 ay] 29)).alloc (.cells #[.int .i64 bx, .int .i64 by_] 29)).alloc (.cells #[.int .i64 px, .int .i64 py] 29)) w' ∧ Blk w' p10 29 #[.int .i64 0, .int .i64 0] ∧ Blk w' p9 29 #[.int .i64 0, .int .i64 0]) := ⟨fun w2 h2 => HK.out w2 h2.1, fun w2 w3 h2 hb => ⟨h2.1.trans (hb.mono h2.1.size), h2.2.1.below hb h2.2.1.lt, h2.2.2.below hb h2.2.2.lt⟩⟩
        try simp only [Act.put, List.setIfInBounds_toArray, List.set_cons_zero, List.set_cons_succ]
        refine grow_each [11] (by kernel_rfl) (by decide) ?_
        refine grow_cons 11 rfl (by kernel_rfl) (fun wA hA K hK => ?_) grow_nil
        obtain ⟨p11, hp11⟩ : ∃ b, b = wA.heap.size := ⟨_, rfl⟩
        have ne_p10_p11 : p10 ≠ p11 := by have := hA.2.1.lt; omega
        have ne_p9_p11 : p9 ≠ p11 := by have := hA.2.2.lt; omega
        have le_p11 : (((w.alloc (.cells #[.int .i64 ax, .int .i64 ay] 29)).alloc (.cells #[.int .i64 bx, .int .i64 by_] 29)).alloc (.cells #[.int .i64 px, .int .i64 py] 29)).heap.size ≤ p11 := by rw [hp11]; exact hA.1.size
        have hnew : Blk (wA.alloc (.cells #[.int .i64 0, .int .i64 0] 29)) p11 29 #[.int .i64 0, .int .i64 0] := by rw [hp11]; exact Blk.new wA _ _
        go_simp
        rw [← hp11]
        refine hK.out _ _ (fun w' => Below (((w.alloc (.cells #[.int .i64 ax, .int .i64 ay] 29)).alloc (.cells #[.int .i64 bx, .int .i64 by_] 29)).alloc (.cells #[.int .i64 px, .int .i64 py] 29)).heap.size (((w.alloc (.cells #[.int .i64 ax, .int .i64 ay] 29)).alloc (.cells #[.int .i64 bx, .int .i64 by_] 29)).alloc (.cells #[.int .i64 px, .int .i64 py] 29)) w' ∧ Blk w' p10 29 #[.int .i64 0, .int .i64 0] ∧ Blk w' p9 29 #[.int .i64 0, .int .i64 0] ∧ Blk w' p11 29 #[.int .i64 0, .int .i64 0]) ⟨fun w2 h2 => HK.out w2 h2.1, fun w2 w3 h2 hb => ⟨h2.1.trans (hb.mono h2.1.size), h2.2.1.below hb h2.2.1.lt, h2.2.2.1.below hb h2.2.2.1.lt, h2.2.2.2.below hb h2.2.2.2.lt⟩⟩ ⟨hA.1.alloc (Nat.le_trans hA.1.size (Nat.le_refl _)) _, hA.2.1.alloc _, hA.2.2.alloc _, hnew⟩ ?_
        clear hnew hp11 hK K hA wA hCalm
        have hCalm : Calm (fun w' => w'.cell? ⟨w.heap.size, 0, none⟩ = some (.int .i64 ax) ∧ w'.cell? ⟨w.heap.size, 1, none⟩ = some (.int .i64 ay) ∧ w'.cell? ⟨(w.heap.size + 1), 0, none⟩ = some (.int .i64 bx) ∧ w'.cell? ⟨(w.heap.size + 1), 1, none⟩ = some (.int .i64 by_) ∧ w'.cell? ⟨(w.heap.size + 2), 0, none⟩ = some (.int .i64 px) ∧ w'.cell? ⟨(w.heap.size + 2), 1, none⟩ = some (.int .i64 py)) (fun w' => Below (((w.alloc (.cells #[.int .i64 ax, .int .i64 ay] 29)).alloc (.cells #[.int .i64 bx, .int .i64 by_] 29)).alloc (.cells #[.int .i64 px, .int .i64 py] 29)).heap.size (((w.alloc (.cells #[.int .i64 ax, .int .i64 ay] 29)).alloc (.cells #[.int .i64 bx, .int .i64 by_] 29)).alloc (.cells #[.int .i64 px, .int .i64 py] 29)) w' ∧ Blk w' p10 29 #[.int .i64 0, .int .i64 0] ∧ Blk w' p9 29 #[.int .i64 0, .int .i64 0] ∧ Blk w' p11 29 #[.int .i64 0, .int .i64 0]) := ⟨fun w2 h2 => HK.out w2 h2.1, fun w2 w3 h2 hb => ⟨h2.1.trans (hb.mono h2.1.size), h2.2.1.below hb h2.2.1.lt, h2.2.2.1.below hb h2.2.2.1.lt, h2.2.2.2.below hb h2.2.2.2.lt⟩⟩
        try simp only [Act.put, List.setIfInBounds_toArray, List.set_cons_zero, List.set_cons_succ]
        refine grow_each [12] (by kernel_rfl) (by decide) ?_
        refine grow_cons 12 rfl (by kernel_rfl) (fun wA hA K hK => ?_) grow_nil
        have z0 := hA.2.2.1.cell (i := 0) rfl; have z1 := hA.2.2.1.cell (i := 1) rfl; have f0 := hA.2.2.1.frozen 0; have f1 := hA.2.2.1.frozen 1
        go_simp
        refine hK.out _ _ (fun w' => Below (((w.alloc (.cells #[.int .i64 ax, .int .i64 ay] 29)).alloc (.cells #[.int .i64 bx, .int .i64 by_] 29)).alloc (.cells #[.int .i64 px, .int .i64 py] 29)).heap.size (((w.alloc (.cells #[.int .i64 ax, .int .i64 ay] 29)).alloc (.cells #[.int .i64 bx, .int .i64 by_] 29)).alloc (.cells #[.int .i64 px, .int .i64 py] 29)) w' ∧ Blk w' p10 29 #[.int .i64 0, .int .i64 0] ∧ Blk w' p9 29 #[.int .i64 u1, .int .i64 u2] ∧ Blk w' p11 29 #[.int .i64 0, .int .i64 0]) ⟨fun w2 h2 => HK.out w2 h2.1, fun w2 w3 h2 hb => ⟨h2.1.trans (hb.mono h2.1.size), h2.2.1.below hb h2.2.1.lt, h2.2.2.1.below hb h2.2.2.1.lt, h2.2.2.2.below hb h2.2.2.2.lt⟩⟩ ⟨(hA.1.setCell (p := ⟨p9, 0, none⟩) le_p9 _).setCell (p := ⟨p9, 1, none⟩) le_p9 _, (hA.2.1.far (p := ⟨p9, 0, none⟩) ne_p10_p9 _).far (p := ⟨p9, 1, none⟩) ne_p10_p9 _, (hA.2.2.1.set 0 _).set 1 _, (hA.2.2.2.far (p := ⟨p9, 0, none⟩) (Ne.symm ne_p9_p11) _).far (p := ⟨p9, 1, none⟩) (Ne.symm ne_p9_p11) _⟩ ?_
        clear z0 z1 f0 f1 hK K hA wA hCalm
        have hCalm : Calm (fun w' => w'.cell? ⟨w.heap.size, 0, none⟩ = some (.int .i64 ax) ∧ w'.cell? ⟨w.heap.size, 1, none⟩ = some (.int .i64 ay) ∧ w'.cell? ⟨(w.heap.size + 1), 0, none⟩ = some (.int .i64 bx) ∧ w'.cell? ⟨(w.heap.size + 1), 1, none⟩ = some (.int .i64 by_) ∧ w'.cell? ⟨(w.heap.size + 2), 0, none⟩ = some (.int .i64 px) ∧ w'.cell? ⟨(w.heap.size + 2), 1, none⟩ = some (.int .i64 py)) (fun w' => Below (((w.alloc (.cells #[.int .i64 ax, .int .i64 ay] 29)).alloc (.cells #[.int .i64 bx, .int .i64 by_] 29)).alloc (.cells #[.int .i64 px, .int .i64 py] 29)).heap.size (((w.alloc (.cells #[.int .i64 ax, .int .i64 ay] 29)).alloc (.cells #[.int .i64 bx, .int .i64 by_] 29)).alloc (.cells #[.int .i64 px, .int .i64 py] 29)) w' ∧ Blk w' p10 29 #[.int .i64 0, .int .i64 0] ∧ Blk w' p9 29 #[.int .i64 u1, .int .i64 u2] ∧ Blk w' p11 29 #[.int .i64 0, .int .i64 0]) := ⟨fun w2 h2 => HK.out w2 h2.1, fun w2 w3 h2 hb => ⟨h2.1.trans (hb.mono h2.1.size), h2.2.1.below hb h2.2.1.lt, h2.2.2.1.below hb h2.2.2.1.lt, h2.2.2.2.below hb h2.2.2.2.lt⟩⟩
        try simp only [Act.put]
        refine grow_each [13] (by kernel_rfl) (by decide) ?_
        refine grow_cons 13 rfl (by kernel_rfl) (fun wA hA K hK => ?_) grow_nil
        have z0 := hA.2.1.cell (i := 0) rfl; have z1 := hA.2.1.cell (i := 1) rfl; have f0 := hA.2.1.frozen 0; have f1 := hA.2.1.frozen 1
        go_simp
        refine hK.out _ _ (fun w' => Below (((w.alloc (.cells #[.int .i64 ax, .int .i64 ay] 29)).alloc (.cells #[.int .i64 bx, .int .i64 by_] 29)).alloc (.cells #[.int .i64 px, .int .i64 py] 29)).heap.size (((w.alloc (.cells #[.int .i64 ax, .int .i64 ay] 29)).alloc (.cells #[.int .i64 bx, .int .i64 by_] 29)).alloc (.cells #[.int .i64 px, .int .i64 py] 29)) w' ∧ Blk w' p10 29 #[.int .i64 s1, .int .i64 s2] ∧ Blk w' p9 29 #[.int .i64 u1, .int .i64 u2] ∧ Blk w' p11 29 #[.int .i64 0, .int .i64 0]) ⟨fun w2 h2 => HK.out w2 h2.1, fun w2 w3 h2 hb => ⟨h2.1.trans (hb.mono h2.1.size), h2.2.1.below hb h2.2.1.lt, h2.2.2.1.below hb h2.2.2.1.lt, h2.2.2.2.below hb h2.2.2.2.lt⟩⟩ ⟨(hA.1.setCell (p := ⟨p10, 0, none⟩) le_p10 _).setCell (p := ⟨p10, 1, none⟩) le_p10 _, (hA.2.1.set 0 _).set 1 _, (hA.2.2.1.far (p := ⟨p10, 0, none⟩) (Ne.symm ne_p10_p9) _).far (p := ⟨p10, 1, none⟩) (Ne.symm ne_p10_p9) _, (hA.2.2.2.far (p := ⟨p10, 0, none⟩) (Ne.symm ne_p10_p11) _).far (p := ⟨p10, 1, none⟩) (Ne.symm ne_p10_p11) _⟩ ?_
        clear z0 z1 f0 f1 hK K hA wA hCalm
        have hCalm : Calm (fun w' => w'.cell? ⟨w.heap.size, 0, none⟩ = some (.int .i64 ax) ∧ w'.cell? ⟨w.heap.size, 1, none⟩ = some (.int .i64 ay) ∧ w'.cell? ⟨(w.heap.size + 1), 0, none⟩ = some (.int .i64 bx) ∧ w'.cell? ⟨(w.heap.size + 1), 1, none⟩ = some (.int .i64 by_) ∧ w'.cell? ⟨(w.heap.size + 2), 0, none⟩ = some (.int .i64 px) ∧ w'.cell? ⟨(w.heap.size + 2), 1, none⟩ = some (.int .i64 py)) (fun w' => Below (((w.alloc (.cells #[.int .i64 ax, .int .i64 ay] 29)).alloc (.cells #[.int .i64 bx, .int .i64 by_] 29)).alloc (.cells #[.int .i64 px, .int .i64 py] 29)).heap.size (((w.alloc (.cells #[.int .i64 ax, .int .i64 ay] 29)).alloc (.cells #[.int .i64 bx, .int .i64 by_] 29)).alloc (.cells #[.int .i64 px, .int .i64 py] 29)) w' ∧ Blk w' p10 29 #[.int .i64 s1, .int .i64 s2] ∧ Blk w' p9 29 #[.int .i64 u1, .int .i64 u2] ∧ Blk w' p11 29 #[.int .i64 0, .int .i64 0]) := ⟨fun w2 h2 => HK.out w2 h2.1, fun w2 w3 h2 hb => ⟨h2.1.trans (hb.mono h2.1.size), h2.2.1.below hb h2.2.1.lt, h2.2.2.1.below hb h2.2.2.1.lt, h2.2.2.2.below hb h2.2.2.2.lt⟩⟩
        try simp only [Act.put]
        refine grow_each [14] (by kernel_rfl) (by decide) ?_
        refine grow_cons 14 rfl (by kernel_rfl) (fun wA hA K hK => ?_) grow_nil
        have z0 := hA.2.2.2.cell (i := 0) rfl; have z1 := hA.2.2.2.cell (i := 1) rfl; have f0 := hA.2.2.2.frozen 0; have f1 := hA.2.2.2.frozen 1
        go_simp
        refine hK.out _ _ (fun w' => Below (((w.alloc (.cells #[.int .i64 ax, .int .i64 ay] 29)).alloc (.cells #[.int .i64 bx, .int .i64 by_] 29)).alloc (.cells #[.int .i64 px, .int .i64 py] 29)).heap.size (((w.alloc (.cells #[.int .i64 ax, .int .i64 ay] 29)).alloc (.cells #[.int .i64 bx, .int .i64 by_] 29)).alloc (.cells #[.int .i64 px, .int .i64 py] 29)) w' ∧ Blk w' p10 29 #[.int .i64 s1, .int .i64 s2] ∧ Blk w' p9 29 #[.int .i64 u1, .int .i64 u2] ∧ Blk w' p11 29 #[.int .i64 t1, .int .i64 t2]) ⟨fun w2 h2 => HK.out w2 h2.1, fun w2 w3 h2 hb => ⟨h2.1.trans (hb.mono h2.1.size), h2.2.1.below hb h2.2.1.lt, h2.2.2.1.below hb h2.2.2.1.lt, h2.2.2.2.below hb h2.2.2.2.lt⟩⟩ ⟨(hA.1.setCell (p := ⟨p11, 0, none⟩) le_p11 _).setCell (p := ⟨p11, 1, none⟩) le_p11 _, (hA.2.1.far (p := ⟨p11, 0, none⟩) ne_p10_p11 _).far (p := ⟨p11, 1, none⟩) ne_p10_p11 _, (hA.2.2.1.far (p := ⟨p11, 0, none⟩) ne_p9_p11 _).far (p := ⟨p11, 1, none⟩) ne_p9_p11 _, (hA.2.2.2.set 0 _).set 1 _⟩ ?_
        clear z0 z1 f0 f1 hK K hA wA hCalm
        have hCalm : Calm (fun w' => w'.cell? ⟨w.heap.size, 0, none⟩ = some (.int .i64 ax) ∧ w'.cell? ⟨w.heap.size, 1, none⟩ = some (.int .i64 ay) ∧ w'.cell? ⟨(w.heap.size + 1), 0, none⟩ = some (.int .i64 bx) ∧ w'.cell? ⟨(w.heap.size + 1), 1, none⟩ = some (.int .i64 by_) ∧ w'.cell? ⟨(w.heap.size + 2), 0, none⟩ = some (.int .i64 px) ∧ w'.cell? ⟨(w.heap.size + 2), 1, none⟩ = some (.int .i64 py)) (fun w' => Below (((w.alloc (.cells #[.int .i64 ax, .int .i64 ay] 29)).alloc (.cells #[.int .i64 bx, .int .i64 by_] 29)).alloc (.cells #[.int .i64 px, .int .i64 py] 29)).heap.size (((w.alloc (.cells #[.int .i64 ax, .int .i64 ay] 29)).alloc (.cells #[.int .i64 bx, .int .i64 by_] 29)).alloc (.cells #[.int .i64 px, .int .i64 py] 29)) w' ∧ Blk w' p10 29 #[.int .i64 s1, .int .i64 s2] ∧ Blk w' p9 29 #[.int .i64 u1, .int .i64 u2] ∧ Blk w' p11 29 #[.int .i64 t1, .int .i64 t2]) := ⟨fun w2 h2 => HK.out w2 h2.1, fun w2 w3 h2 hb => ⟨h2.1.trans (hb.mono h2.1.size), h2.2.1.below hb h2.2.1.lt, h2.2.2.1.below hb h2.2.2.1.lt, h2.2.2.2.below hb h2.2.2.2.lt⟩⟩
        try simp only [Act.put]
        refine grow_done (by kernel_rfl) (fun wA hA => ?_) _
        go_wp2_with fail
        go_meet
        exact ⟨p9, p10, p11, rfl, rfl, rfl, hA.2.2.1, hA.2.1, hA.2.2.2, hA.1⟩
      refine grow_cons 11 rfl (by kernel_rfl) (fun wA hA K hK => ?_) ?_
      case _ =>
        obtain ⟨p11, hp11⟩ : ∃ b, b = wA.heap.size := ⟨_, rfl⟩
        have ne_p10_p11 : p10 ≠ p11 := by have := hA.2.lt; omega
        have le_p11 : (((w.alloc (.cells #[.int .i64 ax, .int .i64 ay] 29)).alloc (.cells #[.int .i64 bx, .int .i64 by_] 29)).alloc (.cells #[.int .i64 px, .int .i64 py] 29)).heap.size ≤ p11 := by rw [hp11]; exact hA.1.size
        have hnew : Blk (wA.alloc (.cells #[.int .i64 0, .int .i64 0] 29)) p11 29 #[.int .i64 0, .int .i64 0] := by rw [hp11]; exact Blk.new wA _ _
        go_simp
        rw [← hp11]
        refine hK.out _ _ (fun w' => Below (((w.alloc (.cells #[.int .i64 ax, .int .i64 ay] 29)).alloc (.cells #[.int .i64 bx, .int .i64 by_] 29)).alloc (.cells #[.int .i64 px, .int .i64 py] 29)).heap.size (((w.alloc (.cells #[.int .i64 ax, .int .i64 ay] 29)).alloc (.cells #[.int .i64 bx, .int .i64 by_] 29)).alloc (.cells #[.int .i64 px, .int .i64 py] 29)) w' ∧ Blk w' p10 29 #[.int .i64 0, .int .i64 0] ∧ Blk w' p11 29 #[.int .i64 0, .int .i64 0]) ⟨fun w2 h2 => HK.out w2 h2.1, fun w2 w3 h2 hb => ⟨h2.1.trans (hb.mono h2.1.size), h2.2.1.below hb h2.2.1.lt, h2.2.2.below hb h2.2.2.lt⟩⟩ ⟨hA.1.alloc (Nat.le_trans hA.1.size (Nat.le_refl _)) _, hA.2.alloc _, hnew⟩ ?_
        clear hnew hp11 hK K hA wA hCalm
        have hCalm : Calm (fun w' => w'.cell? ⟨w.heap.size, 0, none⟩ = some (.int .i64 ax) ∧ w'.cell? ⟨w.heap.size, 1, none⟩ = some (.int .i64 ay) ∧ w'.cell? ⟨(w.heap.size + 1), 0, none⟩ = some (.int .i64 bx) ∧ w'.cell? ⟨(w.heap.size + 1), 1, none⟩ = some (.int .i64 by_) ∧ w'.cell? ⟨(w.heap.size + 2), 0, none⟩ = some (.int .i64 px) ∧ w'.cell? ⟨(w.heap.size + 2), 1, none⟩ = some (.int .i64 py)) (fun w' => Below (((w.alloc (.cells #[.int .i64 ax, .int .i64 ay] 29)).alloc (.cells #[.int .i64 bx, .int .i64 by_] 29)).alloc (.cells #[.int .i64 px, .int .i64 py] 29)).heap.size (((w.alloc (.cells #[.int .i64 ax, .int .i64 ay] 29)).alloc (.cells #[.int .i64 bx, .int .i64 by_] 29)).alloc (.cells #[.int .i64 px, .int .i64 py] 29)) w' ∧ Blk w' p10 29 #[.int .i64 0, .int .i64 0] ∧ Blk w' p11 29 #[.int .i64 0, .int .i64 0]) := ⟨fun w2 h2 => HK.out w2 h2.1, fun w2 w3 h2 hb => ⟨h2.1.trans (hb.mono h2.1.size), h2.2.1.below hb h2.2.1.lt, h2.2.2.below hb h2.2.2.lt⟩⟩
        try simp only [Act.put, List.setIfInBounds_toArray, List.set_cons_zero, List.set_cons_succ]
        refine grow_each [9] (by kernel_rfl) (by decide) ?_
        refine grow_cons 9 rfl (by kernel_rfl) (fun wA hA K hK => ?_) grow_nil
        obtain ⟨p9, hp9⟩ : ∃ b, b = wA.heap.size := ⟨_, rfl⟩
        have ne_p10_p9 : p10 ≠ p9 := by have := hA.2.1.lt; omega
        have ne_p11_p9 : p11 ≠ p9 := by have := hA.2.2.lt; omega
        have le_p9 : (((w.alloc (.cells #[.int .i64 ax, .int .i64 ay] 29)).alloc (.cells #[.int .i64 bx, .int .i64 by_] 29)).alloc (.cells #[.int .i64 px, .int .i64 py] 29)).heap.size ≤ p9 := by rw [hp9]; exact hA.1.size
        have hnew : Blk (wA.alloc (.cells #[.int .i64 0, .int .i64 0] 29)) p9 29 #[.int .i64 0, .int .i64 0] := by rw [hp9]; exact Blk.new wA _ _
        go_simp
        rw [← hp9]
        refine hK.out _ _ (fun w' => Below (((w.alloc (.cells #[.int .i64 ax, .int .i64 ay] 29)).alloc (.cells #[.int .i64 bx, .int .i64 by_] 29)).alloc (.cells #[.int .i64 px, .int .i64 py] 29)).heap.size (((w.alloc (.cells #[.int .i64 ax, .int .i64 ay] 29)).alloc (.cells #[.int .i64 bx, .int .i64 by_] 29)).alloc (.cells #[.int .i64 px, .int .i64 py] 29)) w' ∧ Blk w' p10 29 #[.int .i64 0, .int .i64 0] ∧ Blk w' p11 29 #[.int .i64 0, .int .i64 0] ∧ Blk w' p9 29 #[.int .i64 0, .int .i64 0]) ⟨fun w2 h2 => HK.out w2 h2.1, fun w2 w3 h2 hb => ⟨h2.1.trans (hb.mono h2.1.size), h2.2.1.below hb h2.2.1.lt, h2.2.2.1.below hb h2.2.2.1.lt, h2.2.2.2.below hb h2.2.2.2.lt⟩⟩ ⟨hA.1.alloc (Nat.le_trans hA.1.size (Nat.le_refl _)) _, hA.2.1.alloc _, hA.2.2.alloc _, hnew⟩ ?_
        clear hnew hp9 hK K hA wA hCalm
        have hCalm : Calm (fun w' => w'.cell? ⟨w.heap.size, 0, none⟩ = some (.int .i64 ax) ∧ w'.cell? ⟨w.heap.size, 1, none⟩ = some (.int .i64 ay) ∧ w'.cell? ⟨(w.heap.size + 1), 0, none⟩ = some (.int .i64 bx) ∧ w'.cell? ⟨(w.heap.size + 1), 1, none⟩ = some (.int .i64 by_) ∧ w'.cell? ⟨(w.heap.size + 2), 0, none⟩ = some (.int .i64 px) ∧ w'.cell? ⟨(w.heap.size + 2), 1, none⟩ = some (.int .i64 py)) (fun w' => Below (((w.alloc (.cells #[.int .i64 ax, .int .i64 ay] 29)).alloc (.cells #[.int .i64 bx, .int .i64 by_] 29)).alloc (.cells #[.int .i64 px, .int .i64 py] 29)).heap.size (((w.alloc (.cells #[.int .i64 ax, .int .i64 ay] 29)).alloc (.cells #[.int .i64 bx, .int .i64 by_] 29)).alloc (.cells #[.int .i64 px, .int .i64 py] 29)) w' ∧ Blk w' p10 29 #[.int .i64 0, .int .i64 0] ∧ Blk w' p11 29 #[.int .i64 0, .int .i64 0] ∧ Blk w' p9 29 #[.int .i64 0, .int .i64 0]) := ⟨fun w2 h2 => HK.out w2 h2.1, fun w2 w3 h2 hb => ⟨h2.1.trans (hb.mono h2.1.size), h2.2.1.below hb h2.2.1.lt, h2.2.2.1.below hb h2.2.2.1.lt, h2.2.2.2.below hb h2.2.2.2.lt⟩⟩
        try simp only [Act.put, List.setIfInBounds_toArray, List.set_cons_zero, List.set_cons_succ]
        refine grow_each [12] (by kernel_rfl) (by decide) ?_
        refine grow_cons 12 rfl (by kernel_rfl) (fun wA hA K hK => ?_) grow_nil
        have z0 := hA.2.2.2.cell (i := 0) rfl; have z1 := hA.2.2.2.cell (i := 1) rfl; have f0 := hA.2.2.2.frozen 0; have f1 := hA.2.2.2.frozen 1
        go_simp
        refine hK.out _ _ (fun w' => Below (((w.alloc (.cells #[.int .i64 ax, .int .i64 ay] 29)).alloc (.cells #[.int .i64 bx, .int .i64 by_] 29)).alloc (.cells #[.int .i64 px, .int .i64 py] 29)).heap.size (((w.alloc (.cells #[.int .i64 ax, .int .i64 ay] 29)).alloc (.cells #[.int .i64 bx, .int .i64 by_] 29)).alloc (.cells #[.int .i64 px, .int .i64 py] 29)) w' ∧ Blk w' p10 29 #[.int .i64 0, .int .i64 0] ∧ Blk w' p11 29 #[.int .i64 0, .int .i64 0] ∧ Blk w' p9 29 #[.int .i64 u1, .int .i64 u2]) ⟨fun w2 h2 => HK.out w2 h2.1, fun w2 w3 h2 hb => ⟨h2.1.trans (hb.mono h2.1.size), h2.2.1.below hb h2.2.1.lt, h2.2.2.1.below hb h2.2.2.1.lt, h2.2.2.2.below hb h2.2.2.2.lt⟩⟩ ⟨(hA.1.setCell (p := ⟨p9, 0, none⟩) le_p9 _).setCell (p := ⟨p9, 1, none⟩) le_p9 _, (hA.2.1.far (p := ⟨p9, 0, none⟩) ne_p10_p9 _).far (p := ⟨p9, 1, none⟩) ne_p10_p9 _, (hA.2.2.1.far (p := ⟨p9, 0, none⟩) ne_p11_p9 _).far (p := ⟨p9, 1, none⟩) ne_p11_p9 _, (hA.2.2.2.set 0 _).set 1 _⟩ ?_
        clear z0 z1 f0 f1 hK K hA wA hCalm
        have hCalm : Calm (fun w' => w'.cell? ⟨w.heap.size, 0, none⟩ = some (.int .i64 ax) ∧ w'.cell? ⟨w.heap.size, 1, none⟩ = some (.int .i64 ay) ∧ w'.cell? ⟨(w.heap.size + 1), 0, none⟩ = some (.int .i64 bx) ∧ w'.cell? ⟨(w.heap.size + 1), 1, none⟩ = some (.int .i64 by_) ∧ w'.cell? ⟨(w.heap.size + 2), 0, none⟩ = some (.int .i64 px) ∧ w'.cell? ⟨(w.heap.size + 2), 1, none⟩ = some (.int .i64 py)) (fun w' => Below (((w.alloc (.cells #[.int .i64 ax, .int .i64 ay] 29)).alloc (.cells #[.int .i64 bx, .int .i64 by_] 29)).alloc (.cells #[.int .i64 px, .int .i64 py] 29)).heap.size (((w.alloc (.cells #[.int .i64 ax, .int .i64 ay] 29)).alloc (.cells #[.int .i64 bx, .int .i64 by_] 29)).alloc (.cells #[.int .i64 px, .int .i64 py] 29)) w' ∧ Blk w' p10 29 #[.int .i64 0, .int .i64 0] ∧ Blk w' p11 29 #[.int .i64 0, .int .i64 0] ∧ Blk w' p9 29 #[.int .i64 u1, .int .i64 u2]) := ⟨fun w2 h2 => HK.out w2 h2.1, fun w2 w3 h2 hb => ⟨h2.1.trans (hb.mono h2.1.size), h2.2.1.below hb h2.2.1.lt, h2.2.2.1.below hb h2.2.2.1.lt, h2.2.2.2.below hb h2.2.2.2.lt⟩⟩
        try simp only [Act.put]
        refine grow_each [13] (by kernel_rfl) (by decide) ?_
        refine grow_cons 13 rfl (by kernel_rfl) (fun wA hA K hK => ?_) grow_nil
        have z0 := hA.2.1.cell (i := 0) rfl; have z1 := hA.2.1.cell (i := 1) rfl; have f0 := hA.2.1.frozen 0; have f1 := hA.2.1.frozen 1
        go_simp
        refine hK.out _ _ (fun w' => Below (((w.alloc (.cells #[.int .i64 ax, .int .i64 ay] 29)).alloc (.cells #[.int .i64 bx, .int .i64 by_] 29)).alloc (.cells #[.int .i64 px, .int .i64 py] 29)).heap.size (((w.alloc (.cells #[.int .i64 ax, .int .i64 ay] 29)).alloc (.cells #[.int .i64 bx, .int .i64 by_] 29)).alloc (.cells #[.int .i64 px, .int .i64 py] 29)) w' ∧ Blk w' p10 29 #[.int .i64 s1, .int .i64 s2] ∧ Blk w' p11 29 #[.int .i64 0, .int .i64 0] ∧ Blk w' p9 29 #[.int .i64 u1, .int .i64 u2]) ⟨fun w2 h2 => HK.out w2 h2.1, fun w2 w3 h2 hb => ⟨h2.1.trans (hb.mono h2.1.size), h2.2.1.below hb h2.2.1.lt, h2.2.2.1.below hb h2.2.2.1.lt, h2.2.2.2.below hb h2.2.2.2.lt⟩⟩ ⟨(hA.1.setCell (p := ⟨p10, 0, none⟩) le_p10 _).setCell (p := ⟨p10, 1, none⟩) le_p10 _, (hA.2.1.set 0 _).set 1 _, (hA.2.2.1.far (p := ⟨p10, 0, none⟩) (Ne.symm ne_p10_p11) _).far (p := ⟨p10, 1, none⟩) (Ne.symm ne_p10_p11) _, (hA.2.2.2.far (p := ⟨p10, 0, none⟩) (Ne.symm ne_p10_p9) _).far (p := ⟨p10, 1, none⟩) (Ne.symm ne_p10_p9) _⟩ ?_
        clear z0 z1 f0 f1 hK K hA wA hCalm
        have hCalm : Calm (fun w' => w'.cell? ⟨w.heap.size, 0, none⟩ = some (.int .i64 ax) ∧ w'.cell? ⟨w.heap.size, 1, none⟩ = some (.int .i64 ay) ∧ w'.cell? ⟨(w.heap.size + 1), 0, none⟩ = some (.int .i64 bx) ∧ w'.cell? ⟨(w.heap.size + 1), 1, none⟩ = some (.int .i64 by_) ∧ w'.cell? ⟨(w.heap.size + 2), 0, none⟩ = some (.int .i64 px) ∧ w'.cell? ⟨(w.heap.size + 2), 1, none⟩ = some (.int .i64 py)) (fun w' => Below (((w.alloc (.cells #[.int .i64 ax, .int .i64 ay] 29)).alloc (.cells #[.int .i64 bx, .int .i64 by_] 29)).alloc (.cells #[.int .i64 px, .int .i64 py] 29)).heap.size (((w.alloc (.cells #[.int .i64 ax, .int .i64 ay] 29)).alloc (.cells #[.int .i64 bx, .int .i64 by_] 29)).alloc (.cells #[.int .i64 px, .int .i64 py] 29)) w' ∧ Blk w' p10 29 #[.int .i64 s1, .int .i64 s2] ∧ Blk w' p11 29 #[.int .i64 0, .int .i64 0] ∧ Blk w' p9 29 #[.int .i64 u1, .int .i64 u2]) := ⟨fun w2 h2 => HK.out w2 h2.1, fun w2 w3 h2 hb => ⟨h2.1.trans (hb.mono h2.1.size), h2.2.1.below hb h2.2.1.lt, h2.2.2.1.below hb h2.2.2.1.lt, h2.2.2.2.below hb h2.2.2.2.lt⟩⟩
        try simp only [Act.put]
        refine grow_each [14] (by kernel_rfl) (by decide) ?_
        refine grow_cons 14 rfl (by kernel_rfl) (fun wA hA K hK => ?_) grow_nil
        have z0 := hA.2.2.1.cell (i := 0) rfl; have z1 := hA.2.2.1.cell (i := 1) rfl; have f0 := hA.2.2.1.frozen 0; have f1 := hA.2.2.1.frozen 1
        go_simp
        refine hK.out _ _ (fun w' => Below (((w.alloc (.cells #[.int .i64 ax, .int .i64 ay] 29)).alloc (.cells #[.int .i64 bx, .int .i64 by_] 29)).alloc (.cells #[.int .i64 px, .int .i64 py] 29)).heap.size (((w.alloc (.cells #[.int .i64 ax, .int .i64 ay] 29)).alloc (.cells #[.int .i64 bx, .int .i64 by_] 29)).alloc (.cells #[.int .i64 px, .int .i64 py] 29)) w' ∧ Blk w' p10 29 #[.int .i64 s1, .int .i64 s2] ∧ Blk w' p11 29 #[.int .i64 t1, .int .i64 t2] ∧ Blk w' p9 29 #[.int .i64 u1, .int .i64 u2]) ⟨fun w2 h2 => HK.out w2 h2.1, fun w2 w3 h2 hb => ⟨h2.1.trans (hb.mono h2.1.size), h2.2.1.below hb h2.2.1.lt, h2.2.2.1.below hb h2.2.2.1.lt, h2.2.2.2.below hb h2.2.2.2.lt⟩⟩ ⟨(hA.1.setCell (p := ⟨p11, 0, none⟩) le_p11 _).setCell (p := ⟨p11, 1, none⟩) le_p11 _, (hA.2.1.far (p := ⟨p11, 0, none⟩) ne_p10_p11 _).far (p := ⟨p11, 1, none⟩) ne_p10_p11 _, (hA.2.2.1.set 0 _).set 1 _, (hA.2.2.2.far (p := ⟨p11, 0, none⟩) (Ne.symm ne_p11_p9) _).far (p := ⟨p11, 1, none⟩) (Ne.symm ne_p11_p9) _⟩ ?_
        clear z0 z1 f0 f1 hK K hA wA hCalm
        have hCalm : Calm (fun w' => w'.cell? ⟨w.heap.size, 0, none⟩ = some (.int .i64 ax) ∧ w'.cell? ⟨w.heap.size, 1, none⟩ = some (.int .i64 ay) ∧ w'.cell? ⟨(w.heap.size + 1), 0, none⟩ = some (.int .i64 bx) ∧ w'.cell? ⟨(w.heap.size + 1), 1, none⟩ = some (.int .i64 by_) ∧ w'.cell? ⟨(w.heap.size + 2), 0, none⟩ = some (.int .i64 px) ∧ w'.cell? ⟨(w.heap.size + 2), 1, none⟩ = some (.int .i64 py)) (fun w' => Below (((w.alloc (.cells #[.int .i64 ax, .int .i64 ay] 29)).alloc (.cells #[.int .i64 bx, .int .i64 by_] 29)).alloc (.cells #[.int .i64 px, .int .i64 py] 29)).heap.size (((w.alloc (.cells #[.int .i64 ax, .int .i64 ay] 29)).alloc (.cells #[.int .i64 bx, .int .i64 by_] 29)).alloc (.cells #[.int .i64 px, .int .i64 py] 29)) w' ∧ Blk w' p10 29 #[.int .i64 s1, .int .i64 s2] ∧ Blk w' p11 29 #[.int .i64 t1, .int .i64 t2] ∧ Blk w' p9 29 #[.int .i64 u1, .int .i64 u2]) := ⟨fun w2 h2 => HK.out w2 h2.1, fun w2 w3 h2 hb => ⟨h2.1.trans (hb.mono h2.1.size), h2.2.1.below hb h2.2.1.lt, h2.2.2.1.below hb h2.2.2.1.lt, h2.2.2.2.below hb h2.2.2.2.lt⟩⟩
        try simp only [Act.put]
        refine grow_done (by kernel_rfl) (fun wA hA => ?_) _
        go_wp2_with fail
        go_meet
        exact ⟨p9, p10, p11, rfl, rfl, rfl, hA.2.2.2, hA.2.1, hA.2.2.1, hA.1⟩
      exact grow_nil
    refine grow_cons 11 rfl (by kernel_rfl) (fun wA hA K hK => ?_) ?_
    case _ =>
      obtain ⟨p11, hp11⟩ : ∃ b, b = wA.heap.size := ⟨_, rfl⟩
      have le_p11 : (((w.alloc (.cells #[.int .i64 ax, .int .i64 ay] 29)).alloc (.cells #[.int .i64 bx, .int .i64 by_] 29)).alloc (.cells #[.int .i64 px, .int .i64 py] 29)).heap.size ≤ p11 := by rw [hp11]; exact hA.size
      have hnew : Blk (wA.alloc (.cells #[.int .i64 0, .int .i64 0] 29)) p11 29 #[.int .i64 0, .int .i64 0] := by rw [hp11]; exact Blk.new wA _ _
      go_simp
      rw [← hp11]
      refine hK.out _ _ (fun w' => Below (((w.alloc (.cells #[.int .i64 ax, .int .i64 ay] 29)).alloc (.cells #[.int .i64 bx, .int .i64 by_] 29)).alloc (.cells #[.int .i64 px, .int .i64 py] 29)).heap.size (((w.alloc (.cells #[.int .i64 ax, .int .i64 ay] 29)).alloc (.cells #[.int .i64 bx, .int .i64 by_] 29)).alloc (.cells #[.int .i64 px, .int .i64 py] 29)) w' ∧ Blk w' p11 29 #[.int .i64 0, .int .i64 0]) ⟨fun w2 h2 => HK.out w2 h2.1, fun w2 w3 h2 hb => ⟨h2.1.trans (hb.mono h2.1.size), h2.2.below hb h2.2.lt⟩⟩ ⟨hA.alloc (Nat.le_trans hA.size (Nat.le_refl _)) _, hnew⟩ ?_
      clear hnew hp11 hK K hA wA hCalm
      have hCalm : Calm (fun w' => w'.cell? ⟨w.heap.size, 0, none⟩ = some (.int .i64 ax) ∧ w'.cell? ⟨w.heap.size, 1, none⟩ = some (.int .i64 ay) ∧ w'.cell? ⟨(w.heap.size + 1), 0, none⟩ = some (.int .i64 bx) ∧ w'.cell? ⟨(w.heap.size + 1), 1, none⟩ = some (.int .i64 by_) ∧ w'.cell? ⟨(w.heap.size + 2), 0, none⟩ = some (.int .i64 px) ∧ w'.cell? ⟨(w.heap.size + 2), 1, none⟩ = some (.int .i64 py)) (fun w' => Below (((w.alloc (.cells #[.int .i64 ax, .int .i64 ay] 29)).alloc (.cells #[.int .i64 bx, .int .i64 by_] 29)).alloc (.cells #[.int .i64 px, .int .i64 py] 29)).heap.size (((w.alloc (.cells #[.int .i64 ax, .int .i64 ay] 29)).alloc (.cells #[.int .i64 bx, .int .i64 by_] 29)).alloc (.cells #[.int .i64 px, .int .i64 py] 29)) w' ∧ Blk w' p11 29 #[.int .i64 0, .int .i64 0]) := ⟨fun w2 h2 => HK.out w2 h2.1, fun w2 w3 h2 hb => ⟨h2.1.trans (hb.mono h2.1.size), h2.2.below hb h2.2.lt⟩⟩
      try simp only [Act.put, List.setIfInBounds_toArray, List.set_cons_zero, List.set_cons_succ]
      refine grow_each [9, 10] (by kernel_rfl) (by decide) ?_
      refine grow_cons 9 rfl (by kernel_rfl) (fun wA hA K hK => ?_) ?_
      case _ =>
        obtain ⟨p9, hp9⟩ : ∃ b, b = wA.heap.size := ⟨_, rfl⟩
        have ne_p11_p9 : p11 ≠ p9 := by have := hA.2.lt; omega
        have le_p9 : (((w.alloc (.cells #[.int .i64 ax, .int .i64 ay] 29)).alloc (.cells #[.int .i64 bx, .int .i64 by_] 29)).alloc (.cells #[.int .i64 px, .int .i64 py] 29)).heap.size ≤ p9 := by rw [hp9]; exact hA.1.size
        have hnew : Blk (wA.alloc (.cells #[.int .i64 0, .int .i64 0] 29)) p9 29 #[.int .i64 0, .int .i64 0] := by rw [hp9]; exact Blk.new wA _ _
        go_simp
        rw [← hp9]
        refine hK.out _ _ (fun w' => Below (((w.alloc (.cells #[.int .i64 ax, .int .i64 ay] 29)).alloc (.cells #[.int .i64 bx, .int .i64 by_] 29)).alloc (.cells #[.int .i64 px, .int .i64 py] 29)).heap.size (((w.alloc (.cells #[.int .i64 ax, .int .i64 ay] 29)).alloc (.cells #[.int .i64 bx, .int .i64 by_] 29)).alloc (.cells #[.int .i64 px, .int .i64 py] 29)) w' ∧ Blk w' p11 29 #[.int .i64 0, .int .i64 0] ∧ Blk w' p9 29 #[.int .i64 0, .int .i64 0]) ⟨fun w2 h2 => HK.out w2 h2.1, fun w2 w3 h2 hb => ⟨h2.1.trans (hb.mono h2.1.size), h2.2.1.below hb h2.2.1.lt, h2.2.2.below hb h2.2.2.lt⟩⟩ ⟨hA.1.alloc (Nat.le_trans hA.1.size (Nat.le_refl _)) _, hA.2.alloc _, hnew⟩ ?_
        clear hnew hp9 hK K hA wA hCalm
        have hCalm : Calm (fun w' => w'.cell? ⟨w.heap.size, 0, none⟩ = some (.int .i64 ax) ∧ w'.cell? ⟨w.heap.size, 1, none⟩ = some (.int .i64 ay) ∧ w'.cell? ⟨(w.heap.size + 1), 0, none⟩ = some (.int .i64 bx) ∧ w'.cell? ⟨(w.heap.size + 1), 1, none⟩ = some (.int .i64 by_) ∧ w'.cell? ⟨(w.heap.size + 2), 0, none⟩ = some (.int .i64 px) ∧ w'.cell? ⟨(w.heap.size + 2), 1, none⟩ = some (.int .i64 py)) (fun w' => Below (((w.alloc (.cells #[.int .i64 ax, .int .i64 ay] 29)).alloc (.cells #[.int .i64 bx, .int .i64 by_] 29)).alloc (.cells #[.int .i64 px, .int .i64 py] 29)).heap.size (((w.alloc (.cells #[.int .i64 ax, .int .i64 ay] 29)).alloc (.cells #[.int .i64 bx, .int .i64 by_] 29)).alloc (.cells #[.int .i64 px, .int .i64 py] 29)) w' ∧ Blk w' p11 29 #[.int .i64 0, .int .i64 0] ∧ Blk w' p9 29 #[.int .i64 0, .int .i64 0]) := ⟨fun w2 h2 => HK.out w2 h2.1, fun w2 w3 h2 hb => ⟨h2.1.trans (hb.mono h2.1.size), h2.2.1.below hb h2.2.1.lt, h2.2.2.below hb h2.2.2.lt⟩⟩
        try simp only [Act.put, List.setIfInBounds_toArray, List.set_cons_zero, List.set_cons_succ]
        refine grow_each [10] (by kernel_rfl) (by decide) ?_
        refine grow_cons 10 rfl (by kernel_rfl) (fun wA hA K hK => ?_) grow_nil
        obtain ⟨p10, hp10⟩ : ∃ b, b = wA.heap.size := ⟨_, rfl⟩
        have ne_p11_p10 : p11 ≠ p10 := by have := hA.2.1.lt; omega
        have ne_p9_p10 : p9 ≠ p10 := by have := hA.2.2.lt; omega
        have le_p10 : (((w.alloc (.cells #[.int .i64 ax, .int .i64 ay] 29)).alloc (.cells #[.int .i64 bx, .int .i64 by_] 29)).alloc (.cells #[.int .i64 px, .int .i64 py] 29)).heap.size ≤ p10 := by rw [hp10]; exact hA.1.size
        have hnew : Blk (wA.alloc (.cells #[.int .i64 0, .int .i64 0] 29)) p10 29 #[.int .i64 0, .int .i64 0] := by rw [hp10]; exact Blk.new wA _ _
        go_simp
        rw [← hp10]
        refine hK.out _ _ (fun w' => Below (((w.alloc (.cells #[.int .i64 ax, .int .i64 ay] 29)).alloc (.cells #[.int .i64 bx, .int .i64 by_] 29)).alloc (.cells #[.int .i64 px, .int .i64 py] 29)).heap.size (((w.alloc (.cells #[.int .i64 ax, .int .i64 ay] 29)).alloc (.cells #[.int .i64 bx, .int .i64 by_] 29)).alloc (.cells #[.int .i64 px, .int .i64 py] 29)) w' ∧ Blk w' p11 29 #[.int .i64 0, .int .i64 0] ∧ Blk w' p9 29 #[.int .i64 0, .int .i64 0] ∧ Blk w' p10 29 #[.int .i64 0, .int .i64 0]) ⟨fun w2 h2 => HK.out w2 h2.1, fun w2 w3 h2 hb => ⟨h2.1.trans (hb.mono h2.1.size), h2.2.1.below hb h2.2.1.lt, h2.2.2.1.below hb h2.2.2.1.lt, h2.2.2.2.below hb h2.2.2.2.lt⟩⟩ ⟨hA.1.alloc (Nat.le_trans hA.1.size (Nat.le_refl _)) _, hA.2.1.alloc _, hA.2.2.alloc _, hnew⟩ ?_
        clear hnew hp10 hK K hA wA hCalm
        have hCalm : Calm (fun w' => w'.cell? ⟨w.heap.size, 0, none⟩ = some (.int .i64 ax) ∧ w'.cell? ⟨w.heap.size, 1, none⟩ = some (.int .i64 ay) ∧ w'.cell? ⟨(w.heap.size + 1), 0, none⟩ = some (.int .i64 bx) ∧ w'.cell? ⟨(w.heap.size + 1), 1, none⟩ = some (.int .i64 by_) ∧ w'.cell? ⟨(w.heap.size + 2), 0, none⟩ = some (.int .i64 px) ∧ w'.cell? ⟨(w.heap.size + 2), 1, none⟩ = some (.int .i64 py)) (fun w' => Below (((w.alloc (.cells #[.int .i64 ax, .int .i64 ay] 29)).alloc (.cells #[.int .i64 bx, .int .i64 by_] 29)).alloc (.cells #[.int .i64 px, .int .i64 py] 29)).heap.size (((w.alloc (.cells #[.int .i64 ax, .int .i64 ay] 29)).alloc (.cells #[.int .i64 bx, .int .i64 by_] 29)).alloc (.cells #[.int .i64 px, .int .i64 py] 29)) w' ∧ Blk w' p11 29 #[.int .i64 0, .int .i64 0] ∧ Blk w' p9 29 #[.int .i64 0, .int .i64 0] ∧ Blk w' p10 29 #[.int .i64 0, .int .i64 0]) := ⟨fun w2 h2 => HK.out w2 h2.1, fun w2 w3 h2 hb => ⟨h2.1.trans (hb.mono h2.1.size), h2.2.1.below hb h2.2.1.lt, h2.2.2.1.below hb h2.2.2.1.lt, h2.2.2.2.below hb h2.2.2.2.lt⟩⟩
        try simp only [Act.put, List.setIfInBounds_toArray, List.set_cons_zero, List.set_cons_succ]
        refine grow_each [12] (by kernel_rfl) (by decide) ?_
        refine grow_cons 12 rfl (by kernel_rfl) (fun wA hA K hK => ?_) grow_nil
        have z0 := hA.2.2.1.cell (i := 0) rfl; have z1 := hA.2.2.1.cell (i := 1) rfl; have f0 := hA.2.2.1.frozen 0; have f1 := hA.2.2.1.frozen 1
        go_simp
        refine hK.out _ _ (fun w' => Below (((w.alloc (.cells #[.int .i64 ax, .int .i64 ay] 29)).alloc (.cells #[.int .i64 bx, .int .i64 by_] 29)).alloc (.cells #[.int .i64 px, .int .i64 py] 29)).heap.size (((w.alloc (.cells #[.int .i64 ax, .int .i64 ay] 29)).alloc (.cells #[.int .i64 bx, .int .i64 by_] 29)).alloc (.cells #[.int .i64 px, .int .i64 py] 29)) w' ∧ Blk w' p11 29 #[.int .i64 0, .int .i64 0] ∧ Blk w' p9 29 #[.int .i64 u1, .int .i64 u2] ∧ Blk w' p10 29 #[.int .i64 0, .int .i64 0]) ⟨fun w2 h2 => HK.out w2 h2.1, fun w2 w3 h2 hb => ⟨h2.1.trans (hb.mono h2.1.size), h2.2.1.below hb h2.2.1.lt, h2.2.2.1.below hb h2.2.2.1.lt, h2.2.2.2.below hb h2.2.2.2.lt⟩⟩ ⟨(hA.1.setCell (p := ⟨p9, 0, none⟩) le_p9 _).setCell (p := ⟨p9, 1, none⟩) le_p9 _, (hA.2.1.far (p := ⟨p9, 0, none⟩) ne_p11_p9 _).far (p := ⟨p9, 1, none⟩) ne_p11_p9 _, (hA.2.2.1.set 0 _).set 1 _, (hA.2.2.2.far (p := ⟨p9, 0, none⟩) (Ne.symm ne_p9_p10) _).far (p := ⟨p9, 1, none⟩) (Ne.symm ne_p9_p10) _⟩ ?_
        clear z0 z1 f0 f1 hK K hA wA hCalm
        have hCalm : Calm (fun w' => w'.cell? ⟨w.heap.size, 0, none⟩ = some (.int .i64 ax) ∧ w'.cell? ⟨w.heap.size, 1, none⟩ = some (.int .i64 ay) ∧ w'.cell? ⟨(w.heap.size + 1), 0, none⟩ = some (.int .i64 bx) ∧ w'.cell? ⟨(w.heap.size + 1), 1, none⟩ = some (.int .i64 by_) ∧ w'.cell? ⟨(w.heap.size + 2), 0, none⟩ = some (.int .i64 px) ∧ w'.cell? ⟨(w.heap.size + 2), 1, none⟩ = some (.int .i64 py)) (fun w' => Below (((w.alloc (.cells #[.int .i64 ax, .int .i64 ay] 29)).alloc (.cells #[.int .i64 bx, .int .i64 by_] 29)).alloc (.cells #[.int .i64 px, .int .i64 py] 29)).heap.size (((w.alloc (.cells #[.int .i64 ax, .int .i64 ay] 29)).alloc (.cells #[.int .i64 bx, .int .i64 by_] 29)).alloc (.cells #[.int .i64 px, .int .i64 py] 29)) w' ∧ Blk w' p11 29 #[.int .i64 0, .int .i64 0] ∧ Blk w' p9 29 #[.int .i64 u1, .int .i64 u2] ∧ Blk w' p10 29 #[.int .i64 0, .int .i64 0]) := ⟨fun w2 h2 => HK.out w2 h2.1, fun w2 w3 h2 hb => ⟨h2.1.trans (hb.mono h2.1.size), h2.2.1.below hb h2.2.1.lt, h2.2.2.1.below hb h2.2.2.1.lt, h2.2.2.2.below hb h2.2.2.2.lt⟩⟩
        try simp only [Act.put]
        refine grow_each [13] (by kernel_rfl) (by decide) ?_
        refine grow_cons 13 rfl (by kernel_rfl) (fun wA hA K hK => ?_) grow_nil
        have z0 := hA.2.2.2.cell (i := 0) rfl; have z1 := hA.2.2.2.cell (i := 1) rfl; have f0 := hA.2.2.2.frozen 0; have f1 := hA.2.2.2.frozen 1
        go_simp
        refine hK.out _ _ (fun w' => Below (((w.alloc (.cells #[.int .i64 ax, .int .i64 ay] 29)).alloc (.cells #[.int .i64 bx, .int .i64 by_] 29)).alloc (.cells #[.int .i64 px, .int .i64 py] 29)).heap.size (((w.alloc (.cells #[.int .i64 ax, .int .i64 ay] 29)).alloc (.cells #[.int .i64 bx, .int .i64 by_] 29)).alloc (.cells #[.int .i64 px, .int .i64 py] 29)) w' ∧ Blk w' p11 29 #[.int .i64 0, .int .i64 0] ∧ Blk w' p9 29 #[.int .i64 u1, .int .i64 u2] ∧ Blk w' p10 29 #[.int .i64 s1, .int .i64 s2]) ⟨fun w2 h2 => HK.out w2 h2.1, fun w2 w3 h2 hb => ⟨h2.1.trans (hb.mono h2.1.size), h2.2.1.below hb h2.2.1.lt, h2.2.2.1.below hb h2.2.2.1.lt, h2.2.2.2.below hb h2.2.2.2.lt⟩⟩ ⟨(hA.1.setCell (p := ⟨p10, 0, none⟩) le_p10 _).setCell (p := ⟨p10, 1, none⟩) le_p10 _, (hA.2.1.far (p := ⟨p10, 0, none⟩) ne_p11_p10 _).far (p := ⟨p10, 1, none⟩) ne_p11_p10 _, (hA.2.2.1.far (p := ⟨p10, 0, none⟩) ne_p9_p10 _).far (p := ⟨p10, 1, none⟩) ne_p9_p10 _, (hA.2.2.2.set 0 _).set 1 _⟩ ?_
        clear z0 z1 f0 f1 hK K hA wA hCalm
        have hCalm : Calm (fun w' => w'.cell? ⟨w.heap.size, 0, none⟩ = some (.int .i64 ax) ∧ w'.cell? ⟨w.heap.size, 1, none⟩ = some (.int .i64 ay) ∧ w'.cell? ⟨(w.heap.size + 1), 0, none⟩ = some (.int .i64 bx) ∧ w'.cell? ⟨(w.heap.size + 1), 1, none⟩ = some (.int .i64 by_) ∧ w'.cell? ⟨(w.heap.size + 2), 0, none⟩ = some (.int .i64 px) ∧ w'.cell? ⟨(w.heap.size + 2), 1, none⟩ = some (.int .i64 py)) (fun w' => Below (((w.alloc (.cells #[.int .i64 ax, .int .i64 ay] 29)).alloc (.cells #[.int .i64 bx, .int .i64 by_] 29)).alloc (.cells #[.int .i64 px, .int .i64 py] 29)).heap.size (((w.alloc (.cells #[.int .i64 ax, .int .i64 ay] 29)).alloc (.cells #[.int .i64 bx, .int .i64 by_] 29)).alloc (.cells #[.int .i64 px, .int .i64 py] 29)) w' ∧ Blk w' p11 29 #[.int .i64 0, .int .i64 0] ∧ Blk w' p9 29 #[.int .i64 u1, .int .i64 u2] ∧ Blk w' p10 29 #[.int .i64 s1, .int .i64 s2]) := ⟨fun w2 h2 => HK.out w2 h2.1, fun w2 w3 h2 hb => ⟨h2.1.trans (hb.mono h2.1.size), h2.2.1.below hb h2.2.1.lt, h2.2.2.1.below hb h2.2.2.1.lt, h2.2.2.2.below hb h2.2.2.2.lt⟩⟩
        try simp only [Act.put]
        refine grow_each [14] (by kernel_rfl) (by decide) ?_
        refine grow_cons 14 rfl (by kernel_rfl) (fun wA hA K hK => ?_) grow_nil
        have z0 := hA.2.1.cell (i := 0) rfl; have z1 := hA.2.1.cell (i := 1) rfl; have f0 := hA.2.1.frozen 0; have f1 := hA.2.1.frozen 1
        go_simp
        refine hK.out _ _ (fun w' => Below (((w.alloc (.cells #[.int .i64 ax, .int .i64 ay] 29)).alloc (.cells #[.int .i64 bx, .int .i64 by_] 29)).alloc (.cells #[.int .i64 px, .int .i64 py] 29)).heap.size (((w.alloc (.cells #[.int .i64 ax, .int .i64 ay] 29)).alloc (.cells #[.int .i64 bx, .int .i64 by_] 29)).alloc (.cells #[.int .i64 px, .int .i64 py] 29)) w' ∧ Blk w' p11 29 #[.int .i64 t1, .int .i64 t2] ∧ Blk w' p9 29 #[.int .i64 u1, .int .i64 u2] ∧ Blk w' p10 29 #[.int .i64 s1, .int .i64 s2]) ⟨fun w2 h2 => HK.out w2 h2.1, fun w2 w3 h2 hb => ⟨h2.1.trans (hb.mono h2.1.size), h2.2.1.below hb h2.2.1.lt, h2.2.2.1.below hb h2.2.2.1.lt, h2.2.2.2.below hb h2.2.2.2.lt⟩⟩ ⟨(hA.1.setCell (p := ⟨p11, 0, none⟩) le_p11 _).setCell (p := ⟨p11, 1, none⟩) le_p11 _, (hA.2.1.set 0 _).set 1 _, (hA.2.2.1.far (p := ⟨p11, 0, none⟩) (Ne.symm ne_p11_p9) _).far (p := ⟨p11, 1, none⟩) (Ne.symm ne_p11_p9) _, (hA.2.2.2.far (p := ⟨p11, 0, none⟩) (Ne.symm ne_p11_p10) _).far (p := ⟨p11, 1, none⟩) (Ne.symm ne_p11_p10) _⟩ ?_
        clear z0 z1 f0 f1 hK K hA wA hCalm
        have hCalm : Calm (fun w' => w'.cell? ⟨w.heap.size, 0, none⟩ = some (.int .i64 ax) ∧ w'.cell? ⟨w.heap.size, 1, none⟩ = some (.int .i64 ay) ∧ w'.cell? ⟨(w.heap.size + 1), 0, none⟩ = some (.int .i64 bx) ∧ w'.cell? ⟨(w.heap.size + 1), 1, none⟩ = some (.int .i64 by_) ∧ w'.cell? ⟨(w.heap.size + 2), 0, none⟩ = some (.int .i64 px) ∧ w'.cell? ⟨(w.heap.size + 2), 1, none⟩ = some (.int .i64 py)) (fun w' => Below (((w.alloc (.cells #[.int .i64 ax, .int .i64 ay] 29)).alloc (.cells #[.int .i64 bx, .int .i64 by_] 29)).alloc (.cells #[.int .i64 px, .int .i64 py] 29)).heap.size (((w.alloc (.cells #[.int .i64 ax, .int .i64 ay] 29)).alloc (.cells #[.int .i64 bx, .int .i64 by_] 29)).alloc (.cells #[.int .i64 px, .int .i64 py] 29)) w' ∧ Blk w' p11 29 #[.int .i64 t1, .int .i64 t2] ∧ Blk w' p9 29 #[.int .i64 u1, .int .i64 u2] ∧ Blk w' p10 29 #[.int .i64 s1, .int .i64 s2]) := ⟨fun w2 h2 => HK.out w2 h2.1, fun w2 w3 h2 hb => ⟨h2.1.trans (hb.mono h2.1.size), h2.2.1.below hb h2.2.1.lt, h2.2.2.1.below hb h2.2.2.1.lt, h2.2.2.2.below hb h2.2.2.2.lt⟩⟩
        try simp only [Act.put]
        refine grow_done (by kernel_rfl) (fun wA hA => ?_) _
        go_wp2_with fail
        go_meet
        exact ⟨p9, p10, p11, rfl, rfl, rfl, hA.2.2.1, hA.2.2.2, hA.2.1, hA.1⟩
      refine grow_cons 10 rfl (by kernel_rfl) (fun wA hA K hK => ?_) ?_
      case _ =>
        obtain ⟨p10, hp10⟩ : ∃ b, b = wA.heap.size := ⟨_, rfl⟩
        have ne_p11_p10 : p11 ≠ p10 := by have := hA.2.lt; omega
        have le_p10 : (((w.alloc (.cells #[.int .i64 ax, .int .i64 ay] 29)).alloc (.cells #[.int .i64 bx, .int .i64 by_] 29)).alloc (.cells #[.int .i64 px, .int .i64 py] 29)).heap.size ≤ p10 := by rw [hp10]; exact hA.1.size
        have hnew : Blk (wA.alloc (.cells #[.int .i64 0, .int .i64 0] 29)) p10 29 #[.int .i64 0, .int .i64 0] := by rw [hp10]; exact Blk.new wA _ _
        go_simp
        rw [← hp10]
        refine hK.out _ _ (fun w' => Below (((w.alloc (.cells #[.int .i64 ax, .int .i64 ay] 29)).alloc (.cells #[.int .i64 bx, .int .i64 by_] 29)).alloc (.cells #[.int .i64 px, .int .i64 py] 29)).heap.size (((w.alloc (.cells #[.int .i64 ax, .int .i64 ay] 29)).alloc (.cells #[.int .i64 bx, .int .i64 by_] 29)).alloc (.cells #[.int .i64 px, .int .i64 py] 29)) w' ∧ Blk w' p11 29 #[.int .i64 0, .int .i64 0] ∧ Blk w' p10 29 #[.int .i64 0, .int .i64 0]) ⟨fun w2 h2 => HK.out w2 h2.1, fun w2 w3 h2 hb => ⟨h2.1.trans (hb.mono h2.1.size), h2.2.1.below hb h2.2.1.lt, h2.2.2.below hb h2.2.2.lt⟩⟩ ⟨hA.1.alloc (Nat.le_trans hA.1.size (Nat.le_refl _)) _, hA.2.alloc _, hnew⟩ ?_
        clear hnew hp10 hK K hA wA hCalm
        have hCalm : Calm (fun w' => w'.cell? ⟨w.heap.size, 0, none⟩ = some (.int .i64 ax) ∧ w'.cell? ⟨w.heap.size, 1, none⟩ = some (.int .i64 ay) ∧ w'.cell? ⟨(w.heap.size + 1), 0, none⟩ = some (.int .i64 bx) ∧ w'.cell? ⟨(w.heap.size + 1), 1, none⟩ = some (.int .i64 by_) ∧ w'.cell? ⟨(w.heap.size + 2), 0, none⟩ = some (.int .i64 px) ∧ w'.cell? ⟨(w.heap.size + 2), 1, none⟩ = some (.int .i64 py)) (fun w' => Below (((w.alloc (.cells #[.int .i64 ax, .int .i64 ay] 29)).alloc (.cells #[.int .i64 bx, .int .i64 by_] 29)).alloc (.cells #[.int .i64 px, .int .i64 py] 29)).heap.size (((w.alloc (.cells #[.int .i64 ax, .int .i64 ay] 29)).alloc (.cells #[.int .i64 bx, .int .i64 by_] 29)).alloc (.cells #[.int .i64 px, .int .i64 py] 29)) w' ∧ Blk w' p11 29 #[.int .i64 0, .int .i64 0] ∧ Blk w' p10 29 #[.int .i64 0, .int .i64 0]) := ⟨fun w2 h2 => HK.out w2 h2.1, fun w2 w3 h2 hb => ⟨h2.1.trans (hb.mono h2.1.size), h2.2.1.below hb h2.2.1.lt, h2.2.2.below hb h2.2.2.lt⟩⟩
        try simp only [Act.put, List.setIfInBounds_toArray, List.set_cons_zero, List.set_cons_succ]
        refine grow_each [9] (by kernel_rfl) (by decide) ?_
        refine grow_cons 9 rfl (by kernel_rfl) (fun wA hA K hK => ?_) grow_nil
        obtain ⟨p9, hp9⟩ : ∃ b, b = wA.heap.size := ⟨_, rfl⟩
        have ne_p11_p9 : p11 ≠ p9 := by have := hA.2.1.lt; omega
        have ne_p10_p9 : p10 ≠ p9 := by have := hA.2.2.lt; omega
        have le_p9 : (((w.alloc (.cells #[.int .i64 ax, .int .i64 ay] 29)).alloc (.cells #[.int .i64 bx, .int .i64 by_] 29)).alloc (.cells #[.int .i64 px, .int .i64 py] 29)).heap.size ≤ p9 := by rw [hp9]; exact hA.1.size
        have hnew : Blk (wA.alloc (.cells #[.int .i64 0, .int .i64 0] 29)) p9 29 #[.int .i64 0, .int .i64 0] := by rw [hp9]; exact Blk.new wA _ _
        go_simp
        rw [← hp9]
        refine hK.out _ _ (fun w' => Below (((w.alloc (.cells #[.int .i64 ax, .int .i64 ay] 29)).alloc (.cells #[.int .i64 bx, .int .i64 by_] 29)).alloc (.cells #[.int .i64 px, .int .i64 py] 29)).heap.size (((w.alloc (.cells #[.int .i64 ax, .int .i64 ay] 29)).alloc (.cells #[.int .i64 bx, .int .i64 by_] 29)).alloc (.cells #[.int .i64 px, .int .i64 py] 29)) w' ∧ Blk w' p11 29 #[.int .i64 0, .int .i64 0] ∧ Blk w' p10 29 #[.int .i64 0, .int .i64 0] ∧ Blk w' p9 29 #[.int .i64 0, .int .i64 0]) ⟨fun w2 h2 => HK.out w2 h2.1, fun w2 w3 h2 hb => ⟨h2.1.trans (hb.mono h2.1.size), h2.2.1.below hb h2.2.1.lt, h2.2.2.1.below hb h2.2.2.1.lt, h2.2.2.2.below hb h2.2.2.2.lt⟩⟩ ⟨hA.1.alloc (Nat.le_trans hA.1.size (Nat.le_refl _)) _, hA.2.1.alloc _, hA.2.2.alloc _, hnew⟩ ?_
        clear hnew hp9 hK K hA wA hCalm
        have hCalm : Calm (fun w' => w'.cell? ⟨w.heap.size, 0, none⟩ = some (.int .i64 ax) ∧ w'.cell? ⟨w.heap.size, 1, none⟩ = some (.int .i64 ay) ∧ w'.cell? ⟨(w.heap.size + 1), 0, none⟩ = some (.int .i64 bx) ∧ w'.cell? ⟨(w.heap.size + 1), 1, none⟩ = some (.int .i64 by_) ∧ w'.cell? ⟨(w.heap.size + 2), 0, none⟩ = some (.int .i64 px) ∧ w'.cell? ⟨(w.heap.size + 2), 1, none⟩ = some (.int .i64 py)) (fun w' => Below (((w.alloc (.cells #[.int .i64 ax, .int .i64 ay] 29)).alloc (.cells #[.int .i64 bx, .int .i64 by_] 29)).alloc (.cells #[.int .i64 px, .int .i64 py] 29)).heap.size (((w.alloc (.cells #[.int .i64 ax, .int .i64 ay] 29)).alloc (.cells #[.int .i64 bx, .int .i64 by_] 29)).alloc (.cells #[.int .i64 px, .int .i64 py] 29)) w' ∧ Blk w' p11 29 #[.int .i64 0, .int .i64 0] ∧ Blk w' p10 29 #[.int .i64 0, .int .i64 0] ∧ Blk w' p9 29 #[.int .i64 0, .int .i64 0]) := ⟨fun w2 h2 => HK.out w2 h2.1, fun w2 w3 h2 hb => ⟨h2.1.trans (hb.mono h2.1.size), h2.2.1.below hb h2.2.1.lt, h2.2.2.1.below hb h2.2.2.1.lt, h2.2.2.2.below hb h2.2.2.2.lt⟩⟩
        try simp only [Act.put, List.setIfInBounds_toArray, List.set_cons_zero, List.set_cons_succ]
        refine grow_each [12] (by kernel_rfl) (by decide) ?_
        refine grow_cons 12 rfl (by kernel_rfl) (fun wA hA K hK => ?_) grow_nil
        have z0 := hA.2.2.2.cell (i := 0) rfl; have z1 := hA.2.2.2.cell (i := 1) rfl; have f0 := hA.2.2.2.frozen 0; have f1 := hA.2.2.2.frozen 1
        go_simp
        refine hK.out _ _ (fun w' => Below (((w.alloc (.cells #[.int .i64 ax, .int .i64 ay] 29)).alloc (.cells #[.int .i64 bx, .int .i64 by_] 29)).alloc (.cells #[.int .i64 px, .int .i64 py] 29)).heap.size (((w.alloc (.cells #[.int .i64 ax, .int .i64 ay] 29)).alloc (.cells #[.int .i64 bx, .int .i64 by_] 29)).alloc (.cells #[.int .i64 px, .int .i64 py] 29)) w' ∧ Blk w' p11 29 #[.int .i64 0, .int .i64 0] ∧ Blk w' p10 29 #[.int .i64 0, .int .i64 0] ∧ Blk w' p9 29 #[.int .i64 u1, .int .i64 u2]) ⟨fun w2 h2 => HK.out w2 h2.1, fun w2 w3 h2 hb => ⟨h2.1.trans (hb.mono h2.1.size), h2.2.1.below hb h2.2.1.lt, h2.2.2.1.below hb h2.2.2.1.lt, h2.2.2.2.below hb h2.2.2.2.lt⟩⟩ ⟨(hA.1.setCell (p := ⟨p9, 0, none⟩) le_p9 _).setCell (p := ⟨p9, 1, none⟩) le_p9 _, (hA.2.1.far (p := ⟨p9, 0, none⟩) ne_p11_p9 _).far (p := ⟨p9, 1, none⟩) ne_p11_p9 _, (hA.2.2.1.far (p := ⟨p9, 0, none⟩) ne_p10_p9 _).far (p := ⟨p9, 1, none⟩) ne_p10_p9 _, (hA.2.2.2.set 0 _).set 1 _⟩ ?_
        clear z0 z1 f0 f1 hK K hA wA hCalm
        have hCalm : Calm (fun w' => w'.cell? ⟨w.heap.size, 0, none⟩ = some (.int .i64 ax) ∧ w'.cell? ⟨w.heap.size, 1, none⟩ = some (.int .i64 ay) ∧ w'.cell? ⟨(w.heap.size + 1), 0, none⟩ = some (.int .i64 bx) ∧ w'.cell? ⟨(w.heap.size + 1), 1, none⟩ = some (.int .i64 by_) ∧ w'.cell? ⟨(w.heap.size + 2), 0, none⟩ = some (.int .i64 px) ∧ w'.cell? ⟨(w.heap.size + 2), 1, none⟩ = some (.int .i64 py)) (fun w' => Below (((w.alloc (.cells #[.int .i64 ax, .int .i64 ay] 29)).alloc (.cells #[.int .i64 bx, .int .i64 by_] 29)).alloc (.cells #[.int .i64 px, .int .i64 py] 29)).heap.size (((w.alloc (.cells #[.int .i64 ax, .int .i64 ay] 29)).alloc (.cells #[.int .i64 bx, .int .i64 by_] 29)).alloc (.cells #[.int .i64 px, .int .i64 py] 29)) w' ∧ Blk w' p11 29 #[.int .i64 0, .int .i64 0] ∧ Blk w' p10 29 #[.int .i64 0, .int .i64 0] ∧ Blk w' p9 29 #[.int .i64 u1, .int .i64 u2]) := ⟨fun w2 h2 => HK.out w2 h2.1, fun w2 w3 h2 hb => ⟨h2.1.trans (hb.mono h2.1.size), h2.2.1.below hb h2.2.1.lt, h2.2.2.1.below hb h2.2.2.1.lt, h2.2.2.2.below hb h2.2.2.2.lt⟩⟩
        try simp only [Act.put]
        refine grow_each [13] (by kernel_rfl) (by decide) ?_
        refine grow_cons 13 rfl (by kernel_rfl) (fun wA hA K hK => ?_) grow_nil
        have z0 := hA.2.2.1.cell (i := 0) rfl; have z1 := hA.2.2.1.cell (i := 1) rfl; have f0 := hA.2.2.1.frozen 0; have f1 := hA.2.2.1.frozen 1
        go_simp
        refine hK.out _ _ (fun w' => Below (((w.alloc (.cells #[.int .i64 ax, .int .i64 ay] 29)).alloc (.cells #[.int .i64 bx, .int .i64 by_] 29)).alloc (.cells #[.int .i64 px, .int .i64 py] 29)).heap.size (((w.alloc (.cells #[.int .i64 ax, .int .i64 ay] 29)).alloc (.cells #[.int .i64 bx, .int .i64 by_] 29)).alloc (.cells #[.int .i64 px, .int .i64 py] 29)) w' ∧ Blk w' p11 29 #[.int .i64 0, .int .i64 0] ∧ Blk w' p10 29 #[.int .i64 s1, .int .i64 s2] ∧ Blk w' p9 29 #[.int .i64 u1, .int .i64 u2]) ⟨fun w2 h2 => HK.out w2 h2.1, fun w2 w3 h2 hb => ⟨h2.1.trans (hb.mono h2.1.size), h2.2.1.below hb h2.2.1.lt, h2.2.2.1.below hb h2.2.2.1.lt, h2.2.2.2.below hb h2.2.2.2.lt⟩⟩ ⟨(hA.1.setCell (p := ⟨p10, 0, none⟩) le_p10 _).setCell (p := ⟨p10, 1, none⟩) le_p10 _, (hA.2.1.far (p := ⟨p10, 0, none⟩) ne_p11_p10 _).far (p := ⟨p10, 1, none⟩) ne_p11_p10 _, (hA.2.2.1.set 0 _).set 1 _, (hA.2.2.2.far (p := ⟨p10, 0, none⟩) (Ne.symm ne_p10_p9) _).far (p := ⟨p10, 1, none⟩) (Ne.symm ne_p10_p9) _⟩ ?_
        clear z0 z1 f0 f1 hK K hA wA hCalm
        have hCalm : Calm (fun w' => w'.cell? ⟨w.heap.size, 0, none⟩ = some (.int .i64 ax) ∧ w'.cell? ⟨w.heap.size, 1, none⟩ = some (.int .i64 ay) ∧ w'.cell? ⟨(w.heap.size + 1), 0, none⟩ = some (.int .i64 bx) ∧ w'.cell? ⟨(w.heap.size + 1), 1, none⟩ = some (.int .i64 by_) ∧ w'.cell? ⟨(w.heap.size + 2), 0, none⟩ = some (.int .i64 px) ∧ w'.cell? ⟨(w.heap.size + 2), 1, none⟩ = some (.int .i64 py)) (fun w' => Below (((w.alloc (.cells #[.int .i64 ax, .int .i64 ay] 29)).alloc (.cells #[.int .i64 bx, .int .i64 by_] 29)).alloc (.cells #[.int .i64 px, .int .i64 py] 29)).heap.size (((w.alloc (.cells #[.int .i64 ax, .int .i64 ay] 29)).alloc (.cells #[.int .i64 bx, .int .i64 by_] 29)).alloc (.cells #[.int .i64 px, .int .i64 py] 29)) w' ∧ Blk w' p11 29 #[.int .i64 0, .int .i64 0] ∧ Blk w' p10 29 #[.int .i64 s1, .int .i64 s2] ∧ Blk w' p9 29 #[.int .i64 u1, .int .i64 u2]) := ⟨fun w2 h2 => HK.out w2 h2.1, fun w2 w3 h2 hb => ⟨h2.1.trans (hb.mono h2.1.size), h2.2.1.below hb h2.2.1.lt, h2.2.2.1.below hb h2.2.2.1.lt, h2.2.2.2.below hb h2.2.2.2.lt⟩⟩
        try simp only [Act.put]
        refine grow_each [14] (by kernel_rfl) (by decide) ?_
        refine grow_cons 14 rfl (by kernel_rfl) (fun wA hA K hK => ?_) grow_nil
        have z0 := hA.2.1.cell (i := 0) rfl; have z1 := hA.2.1.cell (i := 1) rfl; have f0 := hA.2.1.frozen 0; have f1 := hA.2.1.frozen 1
        go_simp
        refine hK.out _ _ (fun w' => Below (((w.alloc (.cells #[.int .i64 ax, .int .i64 ay] 29)).alloc (.cells #[.int .i64 bx, .int .i64 by_] 29)).alloc (.cells #[.int .i64 px, .int .i64 py] 29)).heap.size (((w.alloc (.cells #[.int .i64 ax, .int .i64 ay] 29)).alloc (.cells #[.int .i64 bx, .int .i64 by_] 29)).alloc (.cells #[.int .i64 px, .int .i64 py] 29)) w' ∧ Blk w' p11 29 #[.int .i64 t1, .int .i64 t2] ∧ Blk w' p10 29 #[.int .i64 s1, .int .i64 s2] ∧ Blk w' p9 29 #[.int .i64 u1, .int .i64 u2]) ⟨fun w2 h2 => HK.out w2 h2.1, fun w2 w3 h2 hb => ⟨h2.1.trans (hb.mono h2.1.size), h2.2.1.below hb h2.2.1.lt, h2.2.2.1.below hb h2.2.2.1.lt, h2.2.2.2.below hb h2.2.2.2.lt⟩⟩ ⟨(hA.1.setCell (p := ⟨p11, 0, none⟩) le_p11 _).setCell (p := ⟨p11, 1, none⟩) le_p11 _, (hA.2.1.set 0 _).set 1 _, (hA.2.2.1.far (p := ⟨p11, 0, none⟩) (Ne.symm ne_p11_p10) _).far (p := ⟨p11, 1, none⟩) (Ne.symm ne_p11_p10) _, (hA.2.2.2.far (p := ⟨p11, 0, none⟩) (Ne.symm ne_p11_p9) _).far (p := ⟨p11, 1, none⟩) (Ne.symm ne_p11_p9) _⟩ ?_
        clear z0 z1 f0 f1 hK K hA wA hCalm
        have hCalm : Calm (fun w' => w'.cell? ⟨w.heap.size, 0, none⟩ = some (.int .i64 ax) ∧ w'.cell? ⟨w.heap.size, 1, none⟩ = some (.int .i64 ay) ∧ w'.cell? ⟨(w.heap.size + 1), 0, none⟩ = some (.int .i64 bx) ∧ w'.cell? ⟨(w.heap.size + 1), 1, none⟩ = some (.int .i64 by_) ∧ w'.cell? ⟨(w.heap.size + 2), 0, none⟩ = some (.int .i64 px) ∧ w'.cell? ⟨(w.heap.size + 2), 1, none⟩ = some (.int .i64 py)) (fun w' => Below (((w.alloc (.cells #[.int .i64 ax, .int .i64 ay] 29)).alloc (.cells #[.int .i64 bx, .int .i64 by_] 29)).alloc (.cells #[.int .i64 px, .int .i64 py] 29)).heap.size (((w.alloc (.cells #[.int .i64 ax, .int .i64 ay] 29)).alloc (.cells #[.int .i64 bx, .int .i64 by_] 29)).alloc (.cells #[.int .i64 px, .int .i64 py] 29)) w' ∧ Blk w' p11 29 #[.int .i64 t1, .int .i64 t2] ∧ Blk w' p10 29 #[.int .i64 s1, .int .i64 s2] ∧ Blk w' p9 29 #[.int .i64 u1, .int .i64 u2]) := ⟨fun w2 h2 => HK.out w2 h2.1, fun w2 w3 h2 hb => ⟨h2.1.trans (hb.mono h2.1.size), h2.2.1.below hb h2.2.1.lt, h2.2.2.1.below hb h2.2.2.1.lt, h2.2.2.2.below hb h2.2.2.2.lt⟩⟩
        try simp only [Act.put]
        refine grow_done (by kernel_rfl) (fun wA hA => ?_) _
        go_wp2_with fail
        go_meet
        exact ⟨p9, p10, p11, rfl, rfl, rfl, hA.2.2.2, hA.2.2.1, hA.2.1, hA.1⟩
      exact grow_nil
    exact grow_nil
  case rest =>
    obtain ⟨p9, p10, p11, rfl, rfl, rfl, k9, k10, k11, hb⟩ := hcut
    rename World => wc
    have K9_0 := Lib.hid k9; have K10_0 := Lib.hid k10; have K11_0 := Lib.hid k11; clear k9 k10 k11
    have HB1_0 := Lib.hid (HB_0.out.trans (hb.mono HB_0.out.size)); clear hb HB_0 A_0 B_0 P_0; have HB_0 := HB1_0; clear HB1_0
    have em2 := HEM.out
    by_cases h1 : D ≤ 0
    case pos =>
      have HR := Lib.hid (HNF.out.1 h1)
      have yy0 := K9_0.out.cell (i := 0) (v := .int .i64 u1) rfl; have yy1 := K9_0.out.cell (i := 1) (v := .int .i64 u2) rfl
      have yy2 := K10_0.out.cell (i := 0) (v := .int .i64 s1) rfl; have yy3 := K10_0.out.cell (i := 1) (v := .int .i64 s2) rfl
      go_wp2_with fail
      refine (HA1.out _).mono ?_
      rintro e v0 ⟨rfl, hb⟩
      clear yy0 yy1 yy2 yy3
      have K9_1 : Hid (Blk v0 p9 29 #[.int .i64 u1, .int .i64 u2]) := Lib.hid (K9_0.out.below hb K9_0.out.lt)
      have K10_1 : Hid (Blk v0 p10 29 #[.int .i64 s1, .int .i64 s2]) := Lib.hid (K10_0.out.below hb K10_0.out.lt)
      have K11_1 : Hid (Blk v0 p11 29 #[.int .i64 t1, .int .i64 t2]) := Lib.hid (K11_0.out.below hb K11_0.out.lt)
      have HB_1 : Hid (Below w.heap.size w v0) := Lib.hid (HB_0.out.trans (hb.mono HB_0.out.size))
      clear hb K9_0 K10_0 K11_0 HB_0
      have yy0 := K10_1.out.cell (i := 0) (v := .int .i64 s1) rfl; have yy1 := K10_1.out.cell (i := 1) (v := .int .i64 s2) rfl
      go_wp2_with fail
      refine (HA2.out _).mono ?_
      rintro e v1 ⟨rfl, hb⟩
      clear yy0 yy1
      have K9_2 : Hid (Blk v1 p9 29 #[.int .i64 u1, .int .i64 u2]) := Lib.hid (K9_1.out.below hb K9_1.out.lt)
      have K10_2 : Hid (Blk v1 p10 29 #[.int .i64 s1, .int .i64 s2]) := Lib.hid (K10_1.out.below hb K10_1.out.lt)
      have K11_2 : Hid (Blk v1 p11 29 #[.int .i64 t1, .int .i64 t2]) := Lib.hid (K11_1.out.below hb K11_1.out.lt)
      have HB_2 : Hid (Below w.heap.size w v1) := Lib.hid (HB_1.out.trans (hb.mono HB_1.out.size))
      clear hb K9_1 K10_1 K11_1 HB_1
      go_wp2_with fail
      go_ret
      exact ⟨by rw [decide_eq_decide.2 HR.out]; rfl, HB_2.out⟩
    case neg =>
      by_cases h2 : 0 ≤ E
      case pos =>
        have HR := Lib.hid (HNF.out.2.1 h2)
        have yy0 := K9_0.out.cell (i := 0) (v := .int .i64 u1) rfl; have yy1 := K9_0.out.cell (i := 1) (v := .int .i64 u2) rfl
        have yy2 := K10_0.out.cell (i := 0) (v := .int .i64 s1) rfl; have yy3 := K10_0.out.cell (i := 1) (v := .int .i64 s2) rfl
        go_wp2_with fail
        refine (HA1.out _).mono ?_
        rintro e v0 ⟨rfl, hb⟩
        clear yy0 yy1 yy2 yy3
        have K9_1 : Hid (Blk v0 p9 29 #[.int .i64 u1, .int .i64 u2]) := Lib.hid (K9_0.out.below hb K9_0.out.lt)
        have K10_1 : Hid (Blk v0 p10 29 #[.int .i64 s1, .int .i64 s2]) := Lib.hid (K10_0.out.below hb K10_0.out.lt)
        have K11_1 : Hid (Blk v0 p11 29 #[.int .i64 t1, .int .i64 t2]) := Lib.hid (K11_0.out.below hb K11_0.out.lt)
        have HB_1 : Hid (Below w.heap.size w v0) := Lib.hid (HB_0.out.trans (hb.mono HB_0.out.size))
        clear hb K9_0 K10_0 K11_0 HB_0
        have yy0 := K9_1.out.cell (i := 0) (v := .int .i64 u1) rfl; have yy1 := K9_1.out.cell (i := 1) (v := .int .i64 u2) rfl
        have yy2 := K11_1.out.cell (i := 0) (v := .int .i64 t1) rfl; have yy3 := K11_1.out.cell (i := 1) (v := .int .i64 t2) rfl
        go_wp2_with fail
        refine (HA3.out _).mono ?_
        rintro e v1 ⟨rfl, hb⟩
        clear yy0 yy1 yy2 yy3
        have K9_2 : Hid (Blk v1 p9 29 #[.int .i64 u1, .int .i64 u2]) := Lib.hid (K9_1.out.below hb K9_1.out.lt)
        have K10_2 : Hid (Blk v1 p10 29 #[.int .i64 s1, .int .i64 s2]) := Lib.hid (K10_1.out.below hb K10_1.out.lt)
        have K11_2 : Hid (Blk v1 p11 29 #[.int .i64 t1, .int .i64 t2]) := Lib.hid (K11_1.out.below hb K11_1.out.lt)
        have HB_2 : Hid (Below w.heap.size w v1) := Lib.hid (HB_1.out.trans (hb.mono HB_1.out.size))
        clear hb K9_1 K10_1 K11_1 HB_1
        have yy0 := K11_2.out.cell (i := 0) (v := .int .i64 t1) rfl; have yy1 := K11_2.out.cell (i := 1) (v := .int .i64 t2) rfl
        go_wp2_with fail
        refine (HA4.out _).mono ?_
        rintro e v2 ⟨rfl, hb⟩
        clear yy0 yy1
        have K9_3 : Hid (Blk v2 p9 29 #[.int .i64 u1, .int .i64 u2]) := Lib.hid (K9_2.out.below hb K9_2.out.lt)
        have K10_3 : Hid (Blk v2 p10 29 #[.int .i64 s1, .int .i64 s2]) := Lib.hid (K10_2.out.below hb K10_2.out.lt)
        have K11_3 : Hid (Blk v2 p11 29 #[.int .i64 t1, .int .i64 t2]) := Lib.hid (K11_2.out.below hb K11_2.out.lt)
        have HB_3 : Hid (Below w.heap.size w v2) := Lib.hid (HB_2.out.trans (hb.mono HB_2.out.size))
        clear hb K9_2 K10_2 K11_2 HB_2
        go_wp2_with fail
        go_ret
        exact ⟨by rw [decide_eq_decide.2 HR.out]; rfl, HB_3.out⟩
      case neg =>
        have HR := Lib.hid (HNF.out.2.2 (by omega) (by omega)); obtain ⟨e8, e9⟩ := HE.out
        have yy0 := K9_0.out.cell (i := 0) (v := .int .i64 u1) rfl; have yy1 := K9_0.out.cell (i := 1) (v := .int .i64 u2) rfl
        have yy2 := K10_0.out.cell (i := 0) (v := .int .i64 s1) rfl; have yy3 := K10_0.out.cell (i := 1) (v := .int .i64 s2) rfl
        go_wp2_with fail
        refine (HA1.out _).mono ?_
        rintro e v0 ⟨rfl, hb⟩
        clear yy0 yy1 yy2 yy3
        have K9_1 : Hid (Blk v0 p9 29 #[.int .i64 u1, .int .i64 u2]) := Lib.hid (K9_0.out.below hb K9_0.out.lt)
        have K10_1 : Hid (Blk v0 p10 29 #[.int .i64 s1, .int .i64 s2]) := Lib.hid (K10_0.out.below hb K10_0.out.lt)
        have K11_1 : Hid (Blk v0 p11 29 #[.int .i64 t1, .int .i64 t2]) := Lib.hid (K11_0.out.below hb K11_0.out.lt)
        have HB_1 : Hid (Below w.heap.size w v0) := Lib.hid (HB_0.out.trans (hb.mono HB_0.out.size))
        clear hb K9_0 K10_0 K11_0 HB_0
        have yy0 := K9_1.out.cell (i := 0) (v := .int .i64 u1) rfl; have yy1 := K9_1.out.cell (i := 1) (v := .int .i64 u2) rfl
        have yy2 := K11_1.out.cell (i := 0) (v := .int .i64 t1) rfl; have yy3 := K11_1.out.cell (i := 1) (v := .int .i64 t2) rfl
        go_wp2_with fail
        refine (HA3.out _).mono ?_
        rintro e v1 ⟨rfl, hb⟩
        clear yy0 yy1 yy2 yy3
        have K9_2 : Hid (Blk v1 p9 29 #[.int .i64 u1, .int .i64 u2]) := Lib.hid (K9_1.out.below hb K9_1.out.lt)
        have K10_2 : Hid (Blk v1 p10 29 #[.int .i64 s1, .int .i64 s2]) := Lib.hid (K10_1.out.below hb K10_1.out.lt)
        have K11_2 : Hid (Blk v1 p11 29 #[.int .i64 t1, .int .i64 t2]) := Lib.hid (K11_1.out.below hb K11_1.out.lt)
        have HB_2 : Hid (Below w.heap.size w v1) := Lib.hid (HB_1.out.trans (hb.mono HB_1.out.size))
        clear hb K9_1 K10_1 K11_1 HB_1
        have yy0 := K9_2.out.cell (i := 0) (v := .int .i64 u1) rfl; have yy1 := K9_2.out.cell (i := 1) (v := .int .i64 u2) rfl
        have yy2 := K10_2.out.cell (i := 0) (v := .int .i64 s1) rfl; have yy3 := K10_2.out.cell (i := 1) (v := .int .i64 s2) rfl
        go_wp2_with fail
        refine (HA5.out _).mono ?_
        rintro e v2 ⟨rfl, hb⟩
        clear yy0 yy1 yy2 yy3
        have K9_3 : Hid (Blk v2 p9 29 #[.int .i64 u1, .int .i64 u2]) := Lib.hid (K9_2.out.below hb K9_2.out.lt)
        have K10_3 : Hid (Blk v2 p10 29 #[.int .i64 s1, .int .i64 s2]) := Lib.hid (K10_2.out.below hb K10_2.out.lt)
        have K11_3 : Hid (Blk v2 p11 29 #[.int .i64 t1, .int .i64 t2]) := Lib.hid (K11_2.out.below hb K11_2.out.lt)
        have HB_3 : Hid (Below w.heap.size w v2) := Lib.hid (HB_2.out.trans (hb.mono HB_2.out.size))
        clear hb K9_2 K10_2 K11_2 HB_2
        have yy0 := K9_3.out.cell (i := 0) (v := .int .i64 u1) rfl; have yy1 := K9_3.out.cell (i := 1) (v := .int .i64 u2) rfl
        go_wp2_with fail
        refine (HA6.out _).mono ?_
        rintro e v3 ⟨rfl, hb⟩
        clear yy0 yy1
        have K9_4 : Hid (Blk v3 p9 29 #[.int .i64 u1, .int .i64 u2]) := Lib.hid (K9_3.out.below hb K9_3.out.lt)
        have K10_4 : Hid (Blk v3 p10 29 #[.int .i64 s1, .int .i64 s2]) := Lib.hid (K10_3.out.below hb K10_3.out.lt)
        have K11_4 : Hid (Blk v3 p11 29 #[.int .i64 t1, .int .i64 t2]) := Lib.hid (K11_3.out.below hb K11_3.out.lt)
        have HB_4 : Hid (Below w.heap.size w v3) := Lib.hid (HB_3.out.trans (hb.mono HB_3.out.size))
        clear hb K9_3 K10_3 K11_3 HB_3
        go_wp2_with fail
        go_ret
        exact ⟨by rw [decide_eq_decide.2 HR.out]; rfl, HB_4.out⟩
end Go.Proofs.Ytamogfcedkjmcaa
