/- What is near: the direction of the line, a greater tolerance, the ends, the box, level lines, moving and turning. No conditions. | The contract of isNear. Conditions: places on the board, a tolerance. | The contract of saysEnough. Conditions: at least two dots, on the board; a tolerance. -/
import Derived.Deep.CutRange
import Derived.Test.YtmjcjaecaigahaaDoorLE
import Derived.Test.YtmjcjaecaigahaaDoorLF
import Derived.Test.YtmjcjaecaigahaaDoorLC
import Derived.Test.YtmjcjaecaigahaaDoorLG
namespace Go.Proofs.YtmjcjaecaigahaaDoor
open Go.RowKit Go.Lib

theorem sqd_comm (ax ay bx by_ : Int) : sqd ax ay bx by_ = sqd bx by_ ax ay := by unfold sqd; grind
theorem area_swap (ax ay bx by_ px py : Int) : ((ax - bx) * (py - by_) - (ay - by_) * (px - bx)) * ((ax - bx) * (py - by_) - (ay - by_) * (px - bx)) = ((bx - ax) * (py - ay) - (by_ - ay) * (px - ax)) * ((bx - ax) * (py - ay) - (by_ - ay) * (px - ax)) := by grind
theorem NearP.symm {ax ay bx by_ px py z : Int} (h : NearP ax ay bx by_ px py z) : NearP bx by_ ax ay px py z := by
  unfold NearP at h ⊢
  obtain ⟨ha, hb, hp, hz, h⟩ := h
  refine ⟨hb, ha, hp, hz, ?_⟩
  rw [sqd_comm bx by_ ax ay, area_swap]
  rcases h with h | h | ⟨h1, h2⟩
  · exact .inr (.inl h)
  · exact .inl h
  · exact .inr (.inr ⟨by omega, h2⟩)
theorem sq_mono {z y : Int} (h0 : 0 ≤ z) (h : z ≤ y) : z * z ≤ y * y := Int.mul_le_mul h h h0 (by omega)
theorem NearP.mono {ax ay bx by_ px py z y : Int} (h : NearP ax ay bx by_ px py z) (hy : z ≤ y) (hy2 : y ≤ 1000) : NearP ax ay bx by_ px py y := by
  unfold NearP at h ⊢
  obtain ⟨ha, hb, hp, hz, h⟩ := h
  have hq := sq_mono hz.1 hy
  refine ⟨ha, hb, hp, ⟨by omega, hy2⟩, ?_⟩
  rcases h with h | h | ⟨h1, h2⟩
  · exact .inl (by omega)
  · exact .inr (.inl (by omega))
  · exact .inr (.inr ⟨h1, Int.le_trans h2 (Int.mul_le_mul_of_nonneg_right hq (sqd_le ha hb).1)⟩)
theorem abs_of_sq {u z : Int} (hz : 0 ≤ z) (h : u * u ≤ z * z) : -z ≤ u ∧ u ≤ z := by
  constructor
  · rcases Int.lt_or_le u (-z) with h1 | h1
    · have h2 : (z + 1) * (z + 1) ≤ (-u) * (-u) := sq_mono (by omega) (by omega)
      have e : (-u) * (-u) = u * u := by grind
      have e2 : (z + 1) * (z + 1) = z * z + 2 * z + 1 := by grind
      omega
    · exact h1
  · rcases Int.lt_or_le z u with h1 | h1
    · have h2 : (z + 1) * (z + 1) ≤ u * u := sq_mono (by omega) (by omega)
      have e2 : (z + 1) * (z + 1) = z * z + 2 * z + 1 := by grind
      omega
    · exact h1
/-- How far the foot is: by how much a place is beyond the box of both ends. -/
theorem foot {u1 u2 v1 v2 z L C : Int} (hz : 0 ≤ z) (hL : L = u1 * u1 + u2 * u2) (hC : C = u1 * v2 - u2 * v1) (hpos : 0 < L) (hcc : C * C ≤ z * z * L) (hd : 0 ≤ u1 * v1 + u2 * v2) (hd2 : u1 * v1 + u2 * v2 ≤ L) :
    (if u1 < 0 then u1 else 0) - z ≤ v1 ∧ v1 ≤ (if u1 < 0 then 0 else u1) + z := by
  obtain ⟨D, hD⟩ : ∃ D, D = u1 * v1 + u2 * v2 := ⟨_, rfl⟩
  rw [← hD] at hd hd2
  have key : L * v1 = D * u1 - C * u2 := by rw [hL, hD, hC]; grind
  have hc2 : (C * u2) * (C * u2) ≤ (z * L) * (z * L) := by
    have h1 : (C * u2) * (C * u2) = (C * C) * (u2 * u2) := by grind
    have h2 : (z * L) * (z * L) = (z * z * L) * L := by grind
    have h3 : u2 * u2 ≤ L := by have := self_mul u1; omega
    rw [h1, h2]
    exact Int.mul_le_mul hcc h3 (self_mul u2) (Int.le_trans (self_mul C) hcc)
  have hzL : 0 ≤ z * L := Int.mul_nonneg hz (by omega)
  have hcb := abs_of_sq hzL hc2
  have hzc : z * L = L * z := Int.mul_comm _ _
  constructor
  · refine Int.le_of_mul_le_mul_left (a := L) ?_ hpos
    by_cases hu : u1 < 0
    · rw [if_pos hu]
      have h1 : L * u1 ≤ D * u1 := Int.mul_le_mul_of_nonpos_right hd2 (by omega)
      have h2 : L * (u1 - z) = L * u1 - L * z := by grind
      omega
    · rw [if_neg hu]
      have h1 : 0 ≤ D * u1 := Int.mul_nonneg hd (by omega)
      have h2 : L * (0 - z) = -(L * z) := by grind
      omega
  · refine Int.le_of_mul_le_mul_left (a := L) ?_ hpos
    by_cases hu : u1 < 0
    · rw [if_pos hu]
      have h1 : D * u1 ≤ 0 := by have := Int.mul_nonneg hd (show 0 ≤ -u1 by omega); have e : D * -u1 = -(D * u1) := by grind
                                 omega
      have h2 : L * (0 + z) = L * z := by grind
      omega
    · rw [if_neg hu]
      have h1 : D * u1 ≤ L * u1 := Int.mul_le_mul_of_nonneg_right hd2 (by omega)
      have h2 : L * (u1 + z) = L * u1 + L * z := by grind
      omega
theorem sqd_x {ax ay px py z : Int} (hz : 0 ≤ z) (h : sqd ax ay px py ≤ z * z) : (-z ≤ ax - px ∧ ax - px ≤ z) ∧ (-z ≤ ay - py ∧ ay - py ≤ z) := by
  unfold sqd at h
  have h1 := self_mul (ax - px); have h2 := self_mul (ay - py)
  exact ⟨abs_of_sq hz (by omega), abs_of_sq hz (by omega)⟩
/-- A place that is near is not farther beyond the box of both ends than the tolerance. -/
theorem NearP.box {ax ay bx by_ px py z : Int} (h : NearP ax ay bx by_ px py z) :
    ((if bx < ax then bx else ax) - z ≤ px ∧ px ≤ (if bx < ax then ax else bx) + z) ∧ ((if by_ < ay then by_ else ay) - z ≤ py ∧ py ≤ (if by_ < ay then ay else by_) + z) := by
  unfold NearP at h
  obtain ⟨ha, hb, hp, hz, h⟩ := h
  rcases h with h | h | ⟨h1, h2⟩
  · have := sqd_x hz.1 h
    split <;> split <;> omega
  · have := sqd_x hz.1 h
    split <;> split <;> omega
  · have h0 := sqd_le ha hb
    have eL : sqd ax ay bx by_ = (bx - ax) * (bx - ax) + (by_ - ay) * (by_ - ay) := by unfold sqd; grind
    have eL2 : sqd ax ay bx by_ = (by_ - ay) * (by_ - ay) + (bx - ax) * (bx - ax) := by unfold sqd; grind
    have e1 : sqd ax ay bx by_ + sqd ax ay px py - sqd bx by_ px py = 2 * ((bx - ax) * (px - ax) + (by_ - ay) * (py - ay)) := by unfold sqd; grind
    have e2 : sqd ax ay bx by_ + sqd bx by_ px py - sqd ax ay px py = 2 * (sqd ax ay bx by_ - ((bx - ax) * (px - ax) + (by_ - ay) * (py - ay))) := by unfold sqd; grind
    have f1 := foot (u1 := bx - ax) (u2 := by_ - ay) (v1 := px - ax) (v2 := py - ay) hz.1 eL rfl (by omega) h2 (by omega) (by omega)
    have e3 : ((by_ - ay) * (px - ax) - (bx - ax) * (py - ay)) * ((by_ - ay) * (px - ax) - (bx - ax) * (py - ay)) = ((bx - ax) * (py - ay) - (by_ - ay) * (px - ax)) * ((bx - ax) * (py - ay) - (by_ - ay) * (px - ax)) := by grind
    have f2 := foot (u1 := by_ - ay) (u2 := bx - ax) (v1 := py - ay) (v2 := px - ax) hz.1 eL2 rfl (by omega) (by rw [e3]; exact h2) (by omega) (by omega)
    constructor
    · by_cases hc : bx < ax
      · rw [if_pos hc, if_pos hc]; rw [if_pos (by omega), if_pos (by omega)] at f1; omega
      · rw [if_neg hc, if_neg hc]; rw [if_neg (by omega), if_neg (by omega)] at f1; omega
    · by_cases hc : by_ < ay
      · rw [if_pos hc, if_pos hc]; rw [if_pos (by omega), if_pos (by omega)] at f2; omega
      · rw [if_neg hc, if_neg hc]; rw [if_neg (by omega), if_neg (by omega)] at f2; omega
/-- .. and where the board is turned by a quarter. -/
theorem OnP.turn {x y : Int} (h : OnP x y) : OnP (4095 - y) x := by unfold OnP at h ⊢; omega
theorem NearP.turn {ax ay bx by_ px py z : Int} (h : NearP ax ay bx by_ px py z) : NearP (4095 - ay) ax (4095 - by_) bx (4095 - py) px z := by
  have e : ∀ a b c d : Int, sqd (4095 - b) a (4095 - d) c = sqd a b c d := fun a b c d => by unfold sqd; grind
  have e2 : ((4095 - by_ - (4095 - ay)) * (px - ax) - (bx - ax) * (4095 - py - (4095 - ay))) = ((bx - ax) * (py - ay) - (by_ - ay) * (px - ax)) := by grind
  unfold NearP at h ⊢
  rw [e, e, e, e2]
  exact ⟨h.1.turn, h.2.1.turn, h.2.2.1.turn, h.2.2.2⟩
end Go.Proofs.YtmjcjaecaigahaaDoor
namespace Go.Proofs.YtmjcjaecaigahaaDoor
open Go.RowKit Go.Lib

theorem near_parts {A B L D C M : Int} (hL : 0 ≤ L) (hB : B = A - 2 * D + L) (hC : C * C = L * A - D * D) (h : A ≤ M ∨ B ≤ M ∨ (¬ (L + A < B ∨ L + B < A ∨ L = 0) ∧ C * C ≤ M * L)) :
    (D ≤ 0 → A ≤ M) ∧ (L ≤ D → B ≤ M) ∧ (0 < D → D < L → C * C ≤ M * L) := by
  have hc : M * L = L * M := Int.mul_comm _ _
  refine ⟨fun hD => ?_, fun hD => ?_, fun h0 h1 => ?_⟩
  · rcases h with h | h | ⟨h, h2⟩
    · exact h
    · omega
    · have hD0 : D = 0 := by omega
      have hLp : 0 < L := by omega
      rw [hC, hD0, hc] at h2
      have : L * A ≤ L * M := by omega
      exact Int.le_of_mul_le_mul_left this hLp
  · rcases h with h | h | ⟨h, h2⟩
    · omega
    · exact h
    · have hD0 : D = L := by omega
      have hLp : 0 < L := by omega
      rw [hC, hD0, hc] at h2
      have h4 : L * B = L * A - L * L := by rw [hB, hD0]; grind
      have : L * B ≤ L * M := by omega
      exact Int.le_of_mul_le_mul_left this hLp
  · have hDD := self_mul D
    rcases h with h | h | h
    · have := Int.mul_le_mul_of_nonneg_left h hL
      omega
    · have h3 := Int.mul_le_mul_of_nonneg_left h hL
      have h4 : C * C = L * B - (D - L) * (D - L) := by rw [hC, hB]; grind
      have h5 := self_mul (D - L)
      omega
    · exact h.2
theorem near_form {ax ay bx by_ px py z : Int} (ha : OnP ax ay) (hb : OnP bx by_) (hp : OnP px py) (hz : 0 ≤ z ∧ z ≤ 1000) :
    ((bx - ax) * (px - ax) + (by_ - ay) * (py - ay) ≤ 0 → (NearP ax ay bx by_ px py z ↔ (px - ax) * (px - ax) + (py - ay) * (py - ay) ≤ z * z)) ∧
    (0 ≤ (bx - ax) * (px - bx) + (by_ - ay) * (py - by_) → (NearP ax ay bx by_ px py z ↔ (px - bx) * (px - bx) + (py - by_) * (py - by_) ≤ z * z)) ∧
    (0 < (bx - ax) * (px - ax) + (by_ - ay) * (py - ay) → (bx - ax) * (px - bx) + (by_ - ay) * (py - by_) < 0 →
      (NearP ax ay bx by_ px py z ↔ ((bx - ax) * (py - ay) - (by_ - ay) * (px - ax)) * ((bx - ax) * (py - ay) - (by_ - ay) * (px - ax)) ≤ z * z * ((bx - ax) * (bx - ax) + (by_ - ay) * (by_ - ay)))) := by
  have e1 : sqd ax ay px py = (px - ax) * (px - ax) + (py - ay) * (py - ay) := by unfold sqd; grind
  have e2 : sqd bx by_ px py = (px - bx) * (px - bx) + (py - by_) * (py - by_) := by unfold sqd; grind
  have e3 : sqd ax ay bx by_ = (bx - ax) * (bx - ax) + (by_ - ay) * (by_ - ay) := by unfold sqd; grind
  have hL := (sqd_le ha hb).1
  have hB : (px - bx) * (px - bx) + (py - by_) * (py - by_) = (px - ax) * (px - ax) + (py - ay) * (py - ay) - 2 * ((bx - ax) * (px - ax) + (by_ - ay) * (py - ay)) + ((bx - ax) * (bx - ax) + (by_ - ay) * (by_ - ay)) := by grind
  have hC : ((bx - ax) * (py - ay) - (by_ - ay) * (px - ax)) * ((bx - ax) * (py - ay) - (by_ - ay) * (px - ax)) = ((bx - ax) * (bx - ax) + (by_ - ay) * (by_ - ay)) * ((px - ax) * (px - ax) + (py - ay) * (py - ay)) - ((bx - ax) * (px - ax) + (by_ - ay) * (py - ay)) * ((bx - ax) * (px - ax) + (by_ - ay) * (py - ay)) := by grind
  have hE : (bx - ax) * (px - bx) + (by_ - ay) * (py - by_) = (bx - ax) * (px - ax) + (by_ - ay) * (py - ay) - ((bx - ax) * (bx - ax) + (by_ - ay) * (by_ - ay)) := by grind
  have hsp : NearP ax ay bx by_ px py z ↔ _ := ⟨fun h => h.2.2.2.2, fun h => ⟨ha, hb, hp, hz, h⟩⟩
  rw [hsp, e1, e2, e3]
  rw [e3] at hL
  rw [hE]
  clear hsp e1 e2 e3 hE
  generalize (bx - ax) * (bx - ax) + (by_ - ay) * (by_ - ay) = L at *
  generalize (px - ax) * (px - ax) + (py - ay) * (py - ay) = A at *
  generalize (px - bx) * (px - bx) + (py - by_) * (py - by_) = B at *
  generalize (bx - ax) * (px - ax) + (by_ - ay) * (py - ay) = D at *
  generalize (bx - ax) * (py - ay) - (by_ - ay) * (px - ax) = C at *
  refine ⟨fun hD => ⟨fun h => (near_parts hL hB hC h).1 hD, fun h => .inl h⟩, fun hD => ⟨fun h => (near_parts hL hB hC h).2.1 (by omega), fun h => .inr (.inl h)⟩, fun h0 h1 => ⟨fun h => (near_parts hL hB hC h).2.2 h0 (by omega), fun h => .inr (.inr ⟨by omega, h⟩)⟩⟩
set_option maxRecDepth 100000 in
set_option maxHeartbeats 4000000 in
theorem pisnear_any (ax ay bx by_ px py z : Int) (w : World) (ha : OnP ax ay) (hb : OnP bx by_) (hp : OnP px py) (hz : 0 ≤ z ∧ z ≤ 1000) :
    Calls Tryd.prog 101 #[.agg #[.int .i64 ax, .int .i64 ay], .agg #[.int .i64 bx, .int .i64 by_], .agg #[.int .i64 px, .int .i64 py], .int .i64 z] w fun e w' => e = .returned (.bool (decide (NearP ax ay bx by_ px py z))) ∧ Below w.heap.size w w' := by
  have HNF := Lib.hid (near_form ha hb hp hz)
  have HF1 := Lib.hid (fun W => pdiff_any ax ay bx by_ W ha hb); have HF2 := Lib.hid (fun W => pdiff_any ax ay px py W ha hp); have HF3 := Lib.hid (fun W => pdiff_any bx by_ px py W hb hp)
  unfold OnP at ha hb hp
  obtain ⟨u1, hu1⟩ : ∃ u, u = bx - ax := ⟨_, rfl⟩
  obtain ⟨u2, hu2⟩ : ∃ u, u = by_ - ay := ⟨_, rfl⟩
  obtain ⟨s1, hs1⟩ : ∃ u, u = px - ax := ⟨_, rfl⟩
  obtain ⟨s2, hs2⟩ : ∃ u, u = py - ay := ⟨_, rfl⟩
  obtain ⟨t1, ht1⟩ : ∃ u, u = px - bx := ⟨_, rfl⟩
  obtain ⟨t2, ht2⟩ : ∃ u, u = py - by_ := ⟨_, rfl⟩
  rw [← hu1, ← hu2, ← hs1, ← hs2, ← ht1, ← ht2] at HNF
  rw [← hu1, ← hu2] at HF1; rw [← hs1, ← hs2] at HF2; rw [← ht1, ← ht2] at HF3
  have b1 : (-4095 ≤ u1 ∧ u1 ≤ 4095) ∧ (-4095 ≤ u2 ∧ u2 ≤ 4095) := by omega
  have b2 : (-4095 ≤ s1 ∧ s1 ≤ 4095) ∧ (-4095 ≤ s2 ∧ s2 ≤ 4095) := by omega
  have b3 : (-4095 ≤ t1 ∧ t1 ≤ 4095) ∧ (-4095 ≤ t2 ∧ t2 ≤ 4095) := by omega
  clear hu1 hu2 hs1 hs2 ht1 ht2 ha hb hp
  have HA1 := Lib.hid (fun W => palong_any u1 u2 s1 s2 W b1 b2); have HA2 := Lib.hid (fun W => palong_any s1 s2 s1 s2 W b2 b2); have HA3 := Lib.hid (fun W => palong_any u1 u2 t1 t2 W b1 b3)
  have HA4 := Lib.hid (fun W => palong_any t1 t2 t1 t2 W b3 b3); have HA5 := Lib.hid (fun W => pacross_any u1 u2 s1 s2 W b1 b2); have HA6 := Lib.hid (fun W => palong_any u1 u2 u1 u2 W b1 b1)
  have m0 := mul_le_of (a := z) (b := z) (n := 1000) (m := 1000) (by omega) (by omega) (by omega) (by omega)
  have em : IntKind.i64.wrap (z * z) = z * z := IntWalk.i64_in _ (by omega)
  have m1 := mul_le_of (a := u1) (b := s2) (n := 4095) (m := 4095) (by omega) (by omega) (by omega) (by omega)
  have m2 := mul_le_of (a := u2) (b := s1) (n := 4095) (m := 4095) (by omega) (by omega) (by omega) (by omega)
  have m3 := mul_le_of (a := u1) (b := u1) (n := 4095) (m := 4095) (by omega) (by omega) (by omega) (by omega)
  have m4 := mul_le_of (a := u2) (b := u2) (n := 4095) (m := 4095) (by omega) (by omega) (by omega) (by omega)
  obtain ⟨D, hD⟩ : ∃ d, d = u1 * s1 + u2 * s2 := ⟨_, rfl⟩
  obtain ⟨E, hE⟩ : ∃ d, d = u1 * t1 + u2 * t2 := ⟨_, rfl⟩
  obtain ⟨C, hC⟩ : ∃ d, d = u1 * s2 - u2 * s1 := ⟨_, rfl⟩
  obtain ⟨L, hL⟩ : ∃ d, d = u1 * u1 + u2 * u2 := ⟨_, rfl⟩
  obtain ⟨A2, hA2⟩ : ∃ d, d = s1 * s1 + s2 * s2 := ⟨_, rfl⟩
  obtain ⟨B2, hB2⟩ : ∃ d, d = t1 * t1 + t2 * t2 := ⟨_, rfl⟩
  obtain ⟨most, hmo⟩ : ∃ d, d = z * z := ⟨_, rfl⟩
  rw [← hD, ← hE, ← hC, ← hL, ← hA2, ← hB2, ← hmo] at HNF
  rw [← hD] at HA1; rw [← hA2] at HA2; rw [← hE] at HA3; rw [← hB2] at HA4; rw [← hC] at HA5; rw [← hL] at HA6
  rw [← hmo] at m0
  have em2 : IntKind.i64.wrap (z * z) = most := em.trans hmo.symm
  have m5 := mul_le_of (a := C) (b := C) (n := 33538050) (m := 33538050) (by omega) (by omega) (by omega) (by omega)
  have m6 := mul_le_of (a := most) (b := L) (n := 1000000) (m := 33538050) (by omega) (by omega) (by omega) (by omega)
  have e8 : IntKind.i64.wrap (C * C) = C * C := IntWalk.i64_in _ (by omega)
  have e9 : IntKind.i64.wrap (most * L) = most * L := IntWalk.i64_in _ (by omega)
  have HE := Lib.hid (And.intro e8 e9)
  clear em hz b1 b2 b3 m0 m1 m2 m3 m4 m5 m6 hD hE hC hL hA2 hB2 hmo e8 e9
  have A_0 : Hid (Blk (((w.alloc (.cells #[.int .i64 ax, .int .i64 ay] 28)).alloc (.cells #[.int .i64 bx, .int .i64 by_] 28)).alloc (.cells #[.int .i64 px, .int .i64 py] 28)) w.heap.size 28 #[.int .i64 ax, .int .i64 ay]) := allocs_blk [(#[.int .i64 ax, .int .i64 ay], 28), (#[.int .i64 bx, .int .i64 by_], 28), (#[.int .i64 px, .int .i64 py], 28)] w 0 _ rfl
  have B_0 : Hid (Blk (((w.alloc (.cells #[.int .i64 ax, .int .i64 ay] 28)).alloc (.cells #[.int .i64 bx, .int .i64 by_] 28)).alloc (.cells #[.int .i64 px, .int .i64 py] 28)) (w.heap.size + 1) 28 #[.int .i64 bx, .int .i64 by_]) := allocs_blk [(#[.int .i64 ax, .int .i64 ay], 28), (#[.int .i64 bx, .int .i64 by_], 28), (#[.int .i64 px, .int .i64 py], 28)] w 1 _ rfl
  have P_0 : Hid (Blk (((w.alloc (.cells #[.int .i64 ax, .int .i64 ay] 28)).alloc (.cells #[.int .i64 bx, .int .i64 by_] 28)).alloc (.cells #[.int .i64 px, .int .i64 py] 28)) (w.heap.size + 2) 28 #[.int .i64 px, .int .i64 py]) := allocs_blk [(#[.int .i64 ax, .int .i64 ay], 28), (#[.int .i64 bx, .int .i64 by_], 28), (#[.int .i64 px, .int .i64 py], 28)] w 2 _ rfl
  have HB_0 : Hid (Below w.heap.size w (((w.alloc (.cells #[.int .i64 ax, .int .i64 ay] 28)).alloc (.cells #[.int .i64 bx, .int .i64 by_] 28)).alloc (.cells #[.int .i64 px, .int .i64 py] 28))) := allocs_below [(#[.int .i64 ax, .int .i64 ay], 28), (#[.int .i64 bx, .int .i64 by_], 28), (#[.int .i64 px, .int .i64 py], 28)] w (Below.refl w.heap.size w) (Nat.le_refl _)
  have HEM := Lib.hid em2; clear em2
  go_enter Tryd.func101, Tryd.ntmps101
  go_upto_region 1 with fail
  go_cut [9, 10, 11] from 14 to 22 (fun x9 x10 x11 wx => ∃ p9 p10 p11 : Nat, x9 = .pointer (some ⟨p9, 0, none⟩) ∧ x10 = .pointer (some ⟨p10, 0, none⟩) ∧ x11 = .pointer (some ⟨p11, 0, none⟩) ∧ Blk wx p9 28 #[.int .i64 u1, .int .i64 u2] ∧ Blk wx p10 28 #[.int .i64 s1, .int .i64 s2] ∧ Blk wx p11 28 #[.int .i64 t1, .int .i64 t2] ∧ Below (((w.alloc (.cells #[.int .i64 ax, .int .i64 ay] 28)).alloc (.cells #[.int .i64 bx, .int .i64 by_] 28)).alloc (.cells #[.int .i64 px, .int .i64 py] 28)).heap.size (((w.alloc (.cells #[.int .i64 ax, .int .i64 ay] 28)).alloc (.cells #[.int .i64 bx, .int .i64 by_] 28)).alloc (.cells #[.int .i64 px, .int .i64 py] 28)) wx)
  case first =>
    have HK : Hid (∀ w', Below (((w.alloc (.cells #[.int .i64 ax, .int .i64 ay] 28)).alloc (.cells #[.int .i64 bx, .int .i64 by_] 28)).alloc (.cells #[.int .i64 px, .int .i64 py] 28)).heap.size (((w.alloc (.cells #[.int .i64 ax, .int .i64 ay] 28)).alloc (.cells #[.int .i64 bx, .int .i64 by_] 28)).alloc (.cells #[.int .i64 px, .int .i64 py] 28)) w' → w'.cell? ⟨w.heap.size, 0, none⟩ = some (.int .i64 ax) ∧ w'.cell? ⟨w.heap.size, 1, none⟩ = some (.int .i64 ay) ∧ w'.cell? ⟨(w.heap.size + 1), 0, none⟩ = some (.int .i64 bx) ∧ w'.cell? ⟨(w.heap.size + 1), 1, none⟩ = some (.int .i64 by_) ∧ w'.cell? ⟨(w.heap.size + 2), 0, none⟩ = some (.int .i64 px) ∧ w'.cell? ⟨(w.heap.size + 2), 1, none⟩ = some (.int .i64 py)) := Lib.hid (fun w' hW => ⟨((A_0.out.below hW A_0.out.lt).cell (i := 0) rfl), ((A_0.out.below hW A_0.out.lt).cell (i := 1) rfl), ((B_0.out.below hW B_0.out.lt).cell (i := 0) rfl), ((B_0.out.below hW B_0.out.lt).cell (i := 1) rfl), ((P_0.out.below hW P_0.out.lt).cell (i := 0) rfl), ((P_0.out.below hW P_0.out.lt).cell (i := 1) rfl)⟩)
    refine wp_region_grow (S := (fun w' => w'.cell? ⟨w.heap.size, 0, none⟩ = some (.int .i64 ax) ∧ w'.cell? ⟨w.heap.size, 1, none⟩ = some (.int .i64 ay) ∧ w'.cell? ⟨(w.heap.size + 1), 0, none⟩ = some (.int .i64 bx) ∧ w'.cell? ⟨(w.heap.size + 1), 1, none⟩ = some (.int .i64 by_) ∧ w'.cell? ⟨(w.heap.size + 2), 0, none⟩ = some (.int .i64 px) ∧ w'.cell? ⟨(w.heap.size + 2), 1, none⟩ = some (.int .i64 py))) ((fun w' => Below (((w.alloc (.cells #[.int .i64 ax, .int .i64 ay] 28)).alloc (.cells #[.int .i64 bx, .int .i64 by_] 28)).alloc (.cells #[.int .i64 px, .int .i64 py] 28)).heap.size (((w.alloc (.cells #[.int .i64 ax, .int .i64 ay] 28)).alloc (.cells #[.int .i64 bx, .int .i64 by_] 28)).alloc (.cells #[.int .i64 px, .int .i64 py] 28)) w')) (by kernel_rfl) (⟨fun w2 h2 => HK.out w2 h2, fun w2 w3 h2 hb => h2.trans (hb.mono h2.size)⟩) ((Below.refl _ _).drew) (fun hCalm => ?_)
    refine grow_take 0 (some 14) ?_ rfl rfl (by kernel_rfl) (fun _ _ _ h => h) (by kernel_rfl) hCalm ?_ ?_
    rotate_left
    · intro wS hS; (try dsimp only at hS); go_simp <;> with_reducible rfl
    try simp only [Act.put, List.setIfInBounds_toArray, List.set_cons_zero, List.set_cons_succ]
    refine grow_take 1 (some 15) ?_ rfl rfl (by kernel_rfl) (fun _ _ _ h => h) (by kernel_rfl) hCalm ?_ ?_
    rotate_left
    · intro wS hS; (try dsimp only at hS); go_simp <;> with_reducible rfl
    try simp only [Act.put, List.setIfInBounds_toArray, List.set_cons_zero, List.set_cons_succ]
    refine grow_call 2 (some 16) (.agg #[.int .i64 u1, .int .i64 u2]) 96 [.tmp 14, .tmp 15] #[28, 28] rfl rfl (by kernel_rfl) (fun _ _ _ h => h) (by kernel_rfl) hCalm rfl (enters_of Tryd.func96 (by kernel_rfl) rfl) (fun wz _ => HF1.out wz) (by kernel_rfl) ?_
    try simp only [Act.put, List.setIfInBounds_toArray, List.set_cons_zero, List.set_cons_succ]
    refine grow_take 3 (some 17) ?_ rfl rfl (by kernel_rfl) (fun _ _ _ h => h) (by kernel_rfl) hCalm ?_ ?_
    rotate_left
    · intro wS hS; (try dsimp only at hS); go_simp <;> with_reducible rfl
    try simp only [Act.put, List.setIfInBounds_toArray, List.set_cons_zero, List.set_cons_succ]
    refine grow_take 4 (some 18) ?_ rfl rfl (by kernel_rfl) (fun _ _ _ h => h) (by kernel_rfl) hCalm ?_ ?_
    rotate_left
    · intro wS hS; (try dsimp only at hS); go_simp <;> with_reducible rfl
    try simp only [Act.put, List.setIfInBounds_toArray, List.set_cons_zero, List.set_cons_succ]
    refine grow_call 5 (some 19) (.agg #[.int .i64 s1, .int .i64 s2]) 96 [.tmp 17, .tmp 18] #[28, 28] rfl rfl (by kernel_rfl) (fun _ _ _ h => h) (by kernel_rfl) hCalm rfl (enters_of Tryd.func96 (by kernel_rfl) rfl) (fun wz _ => HF2.out wz) (by kernel_rfl) ?_
    try simp only [Act.put, List.setIfInBounds_toArray, List.set_cons_zero, List.set_cons_succ]
    refine grow_take 6 (some 20) ?_ rfl rfl (by kernel_rfl) (fun _ _ _ h => h) (by kernel_rfl) hCalm ?_ ?_
    rotate_left
    · intro wS hS; (try dsimp only at hS); go_simp <;> with_reducible rfl
    try simp only [Act.put, List.setIfInBounds_toArray, List.set_cons_zero, List.set_cons_succ]
    refine grow_take 7 (some 21) ?_ rfl rfl (by kernel_rfl) (fun _ _ _ h => h) (by kernel_rfl) hCalm ?_ ?_
    rotate_left
    · intro wS hS; (try dsimp only at hS); go_simp <;> with_reducible rfl
    try simp only [Act.put, List.setIfInBounds_toArray, List.set_cons_zero, List.set_cons_succ]
    refine grow_call 8 (some 22) (.agg #[.int .i64 t1, .int .i64 t2]) 96 [.tmp 20, .tmp 21] #[28, 28] rfl rfl (by kernel_rfl) (fun _ _ _ h => h) (by kernel_rfl) hCalm rfl (enters_of Tryd.func96 (by kernel_rfl) rfl) (fun wz _ => HF3.out wz) (by kernel_rfl) ?_
    try simp only [Act.put, List.setIfInBounds_toArray, List.set_cons_zero, List.set_cons_succ]
    refine grow_each [9, 10, 11] (by kernel_rfl) (by decide) ?_
    refine grow_cons 9 rfl (by kernel_rfl) (fun wA hA K hK => ?_) ?_
    case _ =>
      obtain ⟨p9, hp9⟩ : ∃ b, b = wA.heap.size := ⟨_, rfl⟩
      have le_p9 : (((w.alloc (.cells #[.int .i64 ax, .int .i64 ay] 28)).alloc (.cells #[.int .i64 bx, .int .i64 by_] 28)).alloc (.cells #[.int .i64 px, .int .i64 py] 28)).heap.size ≤ p9 := by rw [hp9]; exact hA.size
      have hnew : Blk (wA.alloc (.cells #[.int .i64 0, .int .i64 0] 28)) p9 28 #[.int .i64 0, .int .i64 0] := by rw [hp9]; exact Blk.new wA _ _
      go_simp
      rw [← hp9]
      refine hK.out _ _ (fun w' => Below (((w.alloc (.cells #[.int .i64 ax, .int .i64 ay] 28)).alloc (.cells #[.int .i64 bx, .int .i64 by_] 28)).alloc (.cells #[.int .i64 px, .int .i64 py] 28)).heap.size (((w.alloc (.cells #[.int .i64 ax, .int .i64 ay] 28)).alloc (.cells #[.int .i64 bx, .int .i64 by_] 28)).alloc (.cells #[.int .i64 px, .int .i64 py] 28)) w' ∧ Blk w' p9 28 #[.int .i64 0, .int .i64 0]) ⟨fun w2 h2 => HK.out w2 h2.1, fun w2 w3 h2 hb => ⟨h2.1.trans (hb.mono h2.1.size), h2.2.below hb h2.2.lt⟩⟩ ⟨hA.alloc (Nat.le_trans hA.size (Nat.le_refl _)) _, hnew⟩ ?_
      clear hnew hp9 hK K hA wA hCalm
      have hCalm : Calm (fun w' => w'.cell? ⟨w.heap.size, 0, none⟩ = some (.int .i64 ax) ∧ w'.cell? ⟨w.heap.size, 1, none⟩ = some (.int .i64 ay) ∧ w'.cell? ⟨(w.heap.size + 1), 0, none⟩ = some (.int .i64 bx) ∧ w'.cell? ⟨(w.heap.size + 1), 1, none⟩ = some (.int .i64 by_) ∧ w'.cell? ⟨(w.heap.size + 2), 0, none⟩ = some (.int .i64 px) ∧ w'.cell? ⟨(w.heap.size + 2), 1, none⟩ = some (.int .i64 py)) (fun w' => Below (((w.alloc (.cells #[.int .i64 ax, .int .i64 ay] 28)).alloc (.cells #[.int .i64 bx, .int .i64 by_] 28)).alloc (.cells #[.int .i64 px, .int .i64 py] 28)).heap.size (((w.alloc (.cells #[.int .i64 ax, .int .i64 ay] 28)).alloc (.cells #[.int .i64 bx, .int .i64 by_] 28)).alloc (.cells #[.int .i64 px, .int .i64 py] 28)) w' ∧ Blk w' p9 28 #[.int .i64 0, .int .i64 0]) := ⟨fun w2 h2 => HK.out w2 h2.1, fun w2 w3 h2 hb => ⟨h2.1.trans (hb.mono h2.1.size), h2.2.below hb h2.2.lt⟩⟩
      try simp only [Act.put, List.setIfInBounds_toArray, List.set_cons_zero, List.set_cons_succ]
      refine grow_each [10, 11] (by kernel_rfl) (by decide) ?_
      refine grow_cons 10 rfl (by kernel_rfl) (fun wA hA K hK => ?_) ?_
      case _ =>
        obtain ⟨p10, hp10⟩ : ∃ b, b = wA.heap.size := ⟨_, rfl⟩
        have ne_p9_p10 : p9 ≠ p10 := by have := hA.2.lt; omega
        have le_p10 : (((w.alloc (.cells #[.int .i64 ax, .int .i64 ay] 28)).alloc (.cells #[.int .i64 bx, .int .i64 by_] 28)).alloc (.cells #[.int .i64 px, .int .i64 py] 28)).heap.size ≤ p10 := by rw [hp10]; exact hA.1.size
        have hnew : Blk (wA.alloc (.cells #[.int .i64 0, .int .i64 0] 28)) p10 28 #[.int .i64 0, .int .i64 0] := by rw [hp10]; exact Blk.new wA _ _
        go_simp
        rw [← hp10]
        refine hK.out _ _ (fun w' => Below (((w.alloc (.cells #[.int .i64 ax, .int .i64 ay] 28)).alloc (.cells #[.int .i64 bx, .int .i64 by_] 28)).alloc (.cells #[.int .i64 px, .int .i64 py] 28)).heap.size (((w.alloc (.cells #[.int .i64 ax, .int .i64 ay] 28)).alloc (.cells #[.int .i64 bx, .int .i64 by_] 28)).alloc (.cells #[.int .i64 px, .int .i64 py] 28)) w' ∧ Blk w' p9 28 #[.int .i64 0, .int .i64 0] ∧ Blk w' p10 28 #[.int .i64 0, .int .i64 0]) ⟨fun w2 h2 => HK.out w2 h2.1, fun w2 w3 h2 hb => ⟨h2.1.trans (hb.mono h2.1.size), h2.2.1.below hb h2.2.1.lt, h2.2.2.below hb h2.2.2.lt⟩⟩ ⟨hA.1.alloc (Nat.le_trans hA.1.size (Nat.le_refl _)) _, hA.2.alloc _, hnew⟩ ?_
        clear hnew hp10 hK K hA wA hCalm
        have hCalm : Calm (fun w' => w'.cell? ⟨w.heap.size, 0, none⟩ = some (.int .i64 ax) ∧ w'.cell? ⟨w.heap.size, 1, none⟩ = some (.int .i64 ay) ∧ w'.cell? ⟨(w.heap.size + 1), 0, none⟩ = some (.int .i64 bx) ∧ w'.cell? ⟨(w.heap.size + 1), 1, none⟩ = some (.int .i64 by_) ∧ w'.cell? ⟨(w.heap.size + 2), 0, none⟩ = some (.int .i64 px) ∧ w'.cell? ⟨(w.heap.size + 2), 1, none⟩ = some (.int .i64 py)) (fun w' => Below (((w.alloc (.cells #[.int .i64 ax, .int .i64 ay] 28)).alloc (.cells #[.int .i64 bx, .int .i64 by_] 28)).alloc (.cells #[.int .i64 px, .int .i64 py] 28)).heap.size (((w.alloc (.cells #[.int .i64 ax, .int .i64 ay] 28)).alloc (.cells #[.int .i64 bx, .int .i64 by_] 28)).alloc (.cells #[.int .i64 px, .int .i64 py] 28)) w' ∧ Blk w' p9 28 #[.int .i64 0, .int .i64 0] ∧ Blk w' p10 28 #[.int .i64 0, .int .i64 0]) := ⟨fun w2 h2 => HK.out w2 h2.1, fun w2 w3 h2 hb => ⟨h2.1.trans (hb.mono h2.1.size), h2.2.1.below hb h2.2.1.lt, h2.2.2.below hb h2.2.2.lt⟩⟩
        try simp only [Act.put, List.setIfInBounds_toArray, List.set_cons_zero, List.set_cons_succ]
        refine grow_each [11] (by kernel_rfl) (by decide) ?_
        refine grow_cons 11 rfl (by kernel_rfl) (fun wA hA K hK => ?_) grow_nil
        obtain ⟨p11, hp11⟩ : ∃ b, b = wA.heap.size := ⟨_, rfl⟩
        have ne_p9_p11 : p9 ≠ p11 := by have := hA.2.1.lt; omega
        have ne_p10_p11 : p10 ≠ p11 := by have := hA.2.2.lt; omega
        have le_p11 : (((w.alloc (.cells #[.int .i64 ax, .int .i64 ay] 28)).alloc (.cells #[.int .i64 bx, .int .i64 by_] 28)).alloc (.cells #[.int .i64 px, .int .i64 py] 28)).heap.size ≤ p11 := by rw [hp11]; exact hA.1.size
        have hnew : Blk (wA.alloc (.cells #[.int .i64 0, .int .i64 0] 28)) p11 28 #[.int .i64 0, .int .i64 0] := by rw [hp11]; exact Blk.new wA _ _
        go_simp
        rw [← hp11]
        refine hK.out _ _ (fun w' => Below (((w.alloc (.cells #[.int .i64 ax, .int .i64 ay] 28)).alloc (.cells #[.int .i64 bx, .int .i64 by_] 28)).alloc (.cells #[.int .i64 px, .int .i64 py] 28)).heap.size (((w.alloc (.cells #[.int .i64 ax, .int .i64 ay] 28)).alloc (.cells #[.int .i64 bx, .int .i64 by_] 28)).alloc (.cells #[.int .i64 px, .int .i64 py] 28)) w' ∧ Blk w' p9 28 #[.int .i64 0, .int .i64 0] ∧ Blk w' p10 28 #[.int .i64 0, .int .i64 0] ∧ Blk w' p11 28 #[.int .i64 0, .int .i64 0]) ⟨fun w2 h2 => HK.out w2 h2.1, fun w2 w3 h2 hb => ⟨h2.1.trans (hb.mono h2.1.size), h2.2.1.below hb h2.2.1.lt, h2.2.2.1.below hb h2.2.2.1.lt, h2.2.2.2.below hb h2.2.2.2.lt⟩⟩ ⟨hA.1.alloc (Nat.le_trans hA.1.size (Nat.le_refl _)) _, hA.2.1.alloc _, hA.2.2.alloc _, hnew⟩ ?_
        clear hnew hp11 hK K hA wA hCalm
        have hCalm : Calm (fun w' => w'.cell? ⟨w.heap.size, 0, none⟩ = some (.int .i64 ax) ∧ w'.cell? ⟨w.heap.size, 1, none⟩ = some (.int .i64 ay) ∧ w'.cell? ⟨(w.heap.size + 1), 0, none⟩ = some (.int .i64 bx) ∧ w'.cell? ⟨(w.heap.size + 1), 1, none⟩ = some (.int .i64 by_) ∧ w'.cell? ⟨(w.heap.size + 2), 0, none⟩ = some (.int .i64 px) ∧ w'.cell? ⟨(w.heap.size + 2), 1, none⟩ = some (.int .i64 py)) (fun w' => Below (((w.alloc (.cells #[.int .i64 ax, .int .i64 ay] 28)).alloc (.cells #[.int .i64 bx, .int .i64 by_] 28)).alloc (.cells #[.int .i64 px, .int .i64 py] 28)).heap.size (((w.alloc (.cells #[.int .i64 ax, .int .i64 ay] 28)).alloc (.cells #[.int .i64 bx, .int .i64 by_] 28)).alloc (.cells #[.int .i64 px, .int .i64 py] 28)) w' ∧ Blk w' p9 28 #[.int .i64 0, .int .i64 0] ∧ Blk w' p10 28 #[.int .i64 0, .int .i64 0] ∧ Blk w' p11 28 #[.int .i64 0, .int .i64 0]) := ⟨fun w2 h2 => HK.out w2 h2.1, fun w2 w3 h2 hb => ⟨h2.1.trans (hb.mono h2.1.size), h2.2.1.below hb h2.2.1.lt, h2.2.2.1.below hb h2.2.2.1.lt, h2.2.2.2.below hb h2.2.2.2.lt⟩⟩
        try simp only [Act.put, List.setIfInBounds_toArray, List.set_cons_zero, List.set_cons_succ]
        refine grow_each [12] (by kernel_rfl) (by decide) ?_
        refine grow_cons 12 rfl (by kernel_rfl) (fun wA hA K hK => ?_) grow_nil
        have z0 := hA.2.1.cell (i := 0) rfl; have z1 := hA.2.1.cell (i := 1) rfl; have f0 := hA.2.1.frozen 0; have f1 := hA.2.1.frozen 1
        go_simp
        refine hK.out _ _ (fun w' => Below (((w.alloc (.cells #[.int .i64 ax, .int .i64 ay] 28)).alloc (.cells #[.int .i64 bx, .int .i64 by_] 28)).alloc (.cells #[.int .i64 px, .int .i64 py] 28)).heap.size (((w.alloc (.cells #[.int .i64 ax, .int .i64 ay] 28)).alloc (.cells #[.int .i64 bx, .int .i64 by_] 28)).alloc (.cells #[.int .i64 px, .int .i64 py] 28)) w' ∧ Blk w' p9 28 #[.int .i64 u1, .int .i64 u2] ∧ Blk w' p10 28 #[.int .i64 0, .int .i64 0] ∧ Blk w' p11 28 #[.int .i64 0, .int .i64 0]) ⟨fun w2 h2 => HK.out w2 h2.1, fun w2 w3 h2 hb => ⟨h2.1.trans (hb.mono h2.1.size), h2.2.1.below hb h2.2.1.lt, h2.2.2.1.below hb h2.2.2.1.lt, h2.2.2.2.below hb h2.2.2.2.lt⟩⟩ ⟨(hA.1.setCell (p := ⟨p9, 0, none⟩) le_p9 _).setCell (p := ⟨p9, 1, none⟩) le_p9 _, (hA.2.1.set 0 _).set 1 _, (hA.2.2.1.far (p := ⟨p9, 0, none⟩) (Ne.symm ne_p9_p10) _).far (p := ⟨p9, 1, none⟩) (Ne.symm ne_p9_p10) _, (hA.2.2.2.far (p := ⟨p9, 0, none⟩) (Ne.symm ne_p9_p11) _).far (p := ⟨p9, 1, none⟩) (Ne.symm ne_p9_p11) _⟩ ?_
        clear z0 z1 f0 f1 hK K hA wA hCalm
        have hCalm : Calm (fun w' => w'.cell? ⟨w.heap.size, 0, none⟩ = some (.int .i64 ax) ∧ w'.cell? ⟨w.heap.size, 1, none⟩ = some (.int .i64 ay) ∧ w'.cell? ⟨(w.heap.size + 1), 0, none⟩ = some (.int .i64 bx) ∧ w'.cell? ⟨(w.heap.size + 1), 1, none⟩ = some (.int .i64 by_) ∧ w'.cell? ⟨(w.heap.size + 2), 0, none⟩ = some (.int .i64 px) ∧ w'.cell? ⟨(w.heap.size + 2), 1, none⟩ = some (.int .i64 py)) (fun w' => Below (((w.alloc (.cells #[.int .i64 ax, .int .i64 ay] 28)).alloc (.cells #[.int .i64 bx, .int .i64 by_] 28)).alloc (.cells #[.int .i64 px, .int .i64 py] 28)).heap.size (((w.alloc (.cells #[.int .i64 ax, .int .i64 ay] 28)).alloc (.cells #[.int .i64 bx, .int .i64 by_] 28)).alloc (.cells #[.int .i64 px, .int .i64 py] 28)) w' ∧ Blk w' p9 28 #[.int .i64 u1, .int .i64 u2] ∧ Blk w' p10 28 #[.int .i64 0, .int .i64 0] ∧ Blk w' p11 28 #[.int .i64 0, .int .i64 0]) := ⟨fun w2 h2 => HK.out w2 h2.1, fun w2 w3 h2 hb => ⟨h2.1.trans (hb.mono h2.1.size), h2.2.1.below hb h2.2.1.lt, h2.2.2.1.below hb h2.2.2.1.lt, h2.2.2.2.below hb h2.2.2.2.lt⟩⟩
        try simp only [Act.put]
        refine grow_each [13] (by kernel_rfl) (by decide) ?_
        refine grow_cons 13 rfl (by kernel_rfl) (fun wA hA K hK => ?_) grow_nil
        have z0 := hA.2.2.1.cell (i := 0) rfl; have z1 := hA.2.2.1.cell (i := 1) rfl; have f0 := hA.2.2.1.frozen 0; have f1 := hA.2.2.1.frozen 1
        go_simp
        refine hK.out _ _ (fun w' => Below (((w.alloc (.cells #[.int .i64 ax, .int .i64 ay] 28)).alloc (.cells #[.int .i64 bx, .int .i64 by_] 28)).alloc (.cells #[.int .i64 px, .int .i64 py] 28)).heap.size (((w.alloc (.cells #[.int .i64 ax, .int .i64 ay] 28)).alloc (.cells #[.int .i64 bx, .int .i64 by_] 28)).alloc (.cells #[.int .i64 px, .int .i64 py] 28)) w' ∧ Blk w' p9 28 #[.int .i64 u1, .int .i64 u2] ∧ Blk w' p10 28 #[.int .i64 s1, .int .i64 s2] ∧ Blk w' p11 28 #[.int .i64 0, .int .i64 0]) ⟨fun w2 h2 => HK.out w2 h2.1, fun w2 w3 h2 hb => ⟨h2.1.trans (hb.mono h2.1.size), h2.2.1.below hb h2.2.1.lt, h2.2.2.1.below hb h2.2.2.1.lt, h2.2.2.2.below hb h2.2.2.2.lt⟩⟩ ⟨(hA.1.setCell (p := ⟨p10, 0, none⟩) le_p10 _).setCell (p := ⟨p10, 1, none⟩) le_p10 _, (hA.2.1.far (p := ⟨p10, 0, none⟩) ne_p9_p10 _).far (p := ⟨p10, 1, none⟩) ne_p9_p10 _, (hA.2.2.1.set 0 _).set 1 _, (hA.2.2.2.far (p := ⟨p10, 0, none⟩) (Ne.symm ne_p10_p11) _).far (p := ⟨p10, 1, none⟩) (Ne.symm ne_p10_p11) _⟩ ?_
        clear z0 z1 f0 f1 hK K hA wA hCalm
        have hCalm : Calm (fun w' => w'.cell? ⟨w.heap.size, 0, none⟩ = some (.int .i64 ax) ∧ w'.cell? ⟨w.heap.size, 1, none⟩ = some (.int .i64 ay) ∧ w'.cell? ⟨(w.heap.size + 1), 0, none⟩ = some (.int .i64 bx) ∧ w'.cell? ⟨(w.heap.size + 1), 1, none⟩ = some (.int .i64 by_) ∧ w'.cell? ⟨(w.heap.size + 2), 0, none⟩ = some (.int .i64 px) ∧ w'.cell? ⟨(w.heap.size + 2), 1, none⟩ = some (.int .i64 py)) (fun w' => Below (((w.alloc (.cells #[.int .i64 ax, .int .i64 ay] 28)).alloc (.cells #[.int .i64 bx, .int .i64 by_] 28)).alloc (.cells #[.int .i64 px, .int .i64 py] 28)).heap.size (((w.alloc (.cells #[.int .i64 ax, .int .i64 ay] 28)).alloc (.cells #[.int .i64 bx, .int .i64 by_] 28)).alloc (.cells #[.int .i64 px, .int .i64 py] 28)) w' ∧ Blk w' p9 28 #[.int .i64 u1, .int .i64 u2] ∧ Blk w' p10 28 #[.int .i64 s1, .int .i64 s2] ∧ Blk w' p11 28 #[.int .i64 0, .int .i64 0]) := ⟨fun w2 h2 => HK.out w2 h2.1, fun w2 w3 h2 hb => ⟨h2.1.trans (hb.mono h2.1.size), h2.2.1.below hb h2.2.1.lt, h2.2.2.1.below hb h2.2.2.1.lt, h2.2.2.2.below hb h2.2.2.2.lt⟩⟩
        try simp only [Act.put]
        refine grow_each [14] (by kernel_rfl) (by decide) ?_
        refine grow_cons 14 rfl (by kernel_rfl) (fun wA hA K hK => ?_) grow_nil
        have z0 := hA.2.2.2.cell (i := 0) rfl; have z1 := hA.2.2.2.cell (i := 1) rfl; have f0 := hA.2.2.2.frozen 0; have f1 := hA.2.2.2.frozen 1
        go_simp
        refine hK.out _ _ (fun w' => Below (((w.alloc (.cells #[.int .i64 ax, .int .i64 ay] 28)).alloc (.cells #[.int .i64 bx, .int .i64 by_] 28)).alloc (.cells #[.int .i64 px, .int .i64 py] 28)).heap.size (((w.alloc (.cells #[.int .i64 ax, .int .i64 ay] 28)).alloc (.cells #[.int .i64 bx, .int .i64 by_] 28)).alloc (.cells #[.int .i64 px, .int .i64 py] 28)) w' ∧ Blk w' p9 28 #[.int .i64 u1, .int .i64 u2] ∧ Blk w' p10 28 #[.int .i64 s1, .int .i64 s2] ∧ Blk w' p11 28 #[.int .i64 t1, .int .i64 t2]) ⟨fun w2 h2 => HK.out w2 h2.1, fun w2 w3 h2 hb => ⟨h2.1.trans (hb.mono h2.1.size), h2.2.1.below hb h2.2.1.lt, h2.2.2.1.below hb h2.2.2.1.lt, h2.2.2.2.below hb h2.2.2.2.lt⟩⟩ ⟨(hA.1.setCell (p := ⟨p11, 0, none⟩) le_p11 _).setCell (p := ⟨p11, 1, none⟩) le_p11 _, (hA.2.1.far (p := ⟨p11, 0, none⟩) ne_p9_p11 _).far (p := ⟨p11, 1, none⟩) ne_p9_p11 _, (hA.2.2.1.far (p := ⟨p11, 0, none⟩) ne_p10_p11 _).far (p := ⟨p11, 1, none⟩) ne_p10_p11 _, (hA.2.2.2.set 0 _).set 1 _⟩ ?_
        clear z0 z1 f0 f1 hK K hA wA hCalm
        have hCalm : Calm (fun w' => w'.cell? ⟨w.heap.size, 0, none⟩ = some (.int .i64 ax) ∧ w'.cell? ⟨w.heap.size, 1, none⟩ = some (.int .i64 ay) ∧ w'.cell? ⟨(w.heap.size + 1), 0, none⟩ = some (.int .i64 bx) ∧ w'.cell? ⟨(w.heap.size + 1), 1, none⟩ = some (.int .i64 by_) ∧ w'.cell? ⟨(w.heap.size + 2), 0, none⟩ = some (.int .i64 px) ∧ w'.cell? ⟨(w.heap.size + 2), 1, none⟩ = some (.int .i64 py)) (fun w' => Below (((w.alloc (.cells #[.int .i64 ax, .int .i64 ay] 28)).alloc (.cells #[.int .i64 bx, .int .i64 by_] 28)).alloc (.cells #[.int .i64 px, .int .i64 py] 28)).heap.size (((w.alloc (.cells #[.int .i64 ax, .int .i64 ay] 28)).alloc (.cells #[.int .i64 bx, .int .i64 by_] 28)).alloc (.cells #[.int .i64 px, .int .i64 py] 28)) w' ∧ Blk w' p9 28 #[.int .i64 u1, .int .i64 u2] ∧ Blk w' p10 28 #[.int .i64 s1, .int .i64 s2] ∧ Blk w' p11 28 #[.int .i64 t1, .int .i64 t2]) := ⟨fun w2 h2 => HK.out w2 h2.1, fun w2 w3 h2 hb => ⟨h2.1.trans (hb.mono h2.1.size), h2.2.1.below hb h2.2.1.lt, h2.2.2.1.below hb h2.2.2.1.lt, h2.2.2.2.below hb h2.2.2.2.lt⟩⟩
        try simp only [Act.put]
        refine grow_done (by kernel_rfl) (fun wA hA => ?_) _
        go_wp2_with fail
        go_meet
        exact ⟨p9, p10, p11, rfl, rfl, rfl, hA.2.1, hA.2.2.1, hA.2.2.2, hA.1⟩
      refine grow_cons 11 rfl (by kernel_rfl) (fun wA hA K hK => ?_) ?_
      case _ =>
        obtain ⟨p11, hp11⟩ : ∃ b, b = wA.heap.size := ⟨_, rfl⟩
        have ne_p9_p11 : p9 ≠ p11 := by have := hA.2.lt; omega
        have le_p11 : (((w.alloc (.cells #[.int .i64 ax, .int .i64 ay] 28)).alloc (.cells #[.int .i64 bx, .int .i64 by_] 28)).alloc (.cells #[.int .i64 px, .int .i64 py] 28)).heap.size ≤ p11 := by rw [hp11]; exact hA.1.size
        have hnew : Blk (wA.alloc (.cells #[.int .i64 0, .int .i64 0] 28)) p11 28 #[.int .i64 0, .int .i64 0] := by rw [hp11]; exact Blk.new wA _ _
        go_simp
        rw [← hp11]
        refine hK.out _ _ (fun w' => Below (((w.alloc (.cells #[.int .i64 ax, .int .i64 ay] 28)).alloc (.cells #[.int .i64 bx, .int .i64 by_] 28)).alloc (.cells #[.int .i64 px, .int .i64 py] 28)).heap.size (((w.alloc (.cells #[.int .i64 ax, .int .i64 ay] 28)).alloc (.cells #[.int .i64 bx, .int .i64 by_] 28)).alloc (.cells #[.int .i64 px, .int .i64 py] 28)) w' ∧ Blk w' p9 28 #[.int .i64 0, .int .i64 0] ∧ Blk w' p11 28 #[.int .i64 0, .int .i64 0]) ⟨fun w2 h2 => HK.out w2 h2.1, fun w2 w3 h2 hb => ⟨h2.1.trans (hb.mono h2.1.size), h2.2.1.below hb h2.2.1.lt, h2.2.2.below hb h2.2.2.lt⟩⟩ ⟨hA.1.alloc (Nat.le_trans hA.1.size (Nat.le_refl _)) _, hA.2.alloc _, hnew⟩ ?_
        clear hnew hp11 hK K hA wA hCalm
        have hCalm : Calm (fun w' => w'.cell? ⟨w.heap.size, 0, none⟩ = some (.int .i64 ax) ∧ w'.cell? ⟨w.heap.size, 1, none⟩ = some (.int .i64 ay) ∧ w'.cell? ⟨(w.heap.size + 1), 0, none⟩ = some (.int .i64 bx) ∧ w'.cell? ⟨(w.heap.size + 1), 1, none⟩ = some (.int .i64 by_) ∧ w'.cell? ⟨(w.heap.size + 2), 0, none⟩ = some (.int .i64 px) ∧ w'.cell? ⟨(w.heap.size + 2), 1, none⟩ = some (.int .i64 py)) (fun w' => Below (((w.alloc (.cells #[.int .i64 ax, .int .i64 ay] 28)).alloc (.cells #[.int .i64 bx, .int .i64 by_] 28)).alloc (.cells #[.int .i64 px, .int .i64 py] 28)).heap.size (((w.alloc (.cells #[.int .i64 ax, .int .i64 ay] 28)).alloc (.cells #[.int .i64 bx, .int .i64 by_] 28)).alloc (.cells #[.int .i64 px, .int .i64 py] 28)) w' ∧ Blk w' p9 28 #[.int .i64 0, .int .i64 0] ∧ Blk w' p11 28 #[.int .i64 0, .int .i64 0]) := ⟨fun w2 h2 => HK.out w2 h2.1, fun w2 w3 h2 hb => ⟨h2.1.trans (hb.mono h2.1.size), h2.2.1.below hb h2.2.1.lt, h2.2.2.below hb h2.2.2.lt⟩⟩
        try simp only [Act.put, List.setIfInBounds_toArray, List.set_cons_zero, List.set_cons_succ]
        refine grow_each [10] (by kernel_rfl) (by decide) ?_
        refine grow_cons 10 rfl (by kernel_rfl) (fun wA hA K hK => ?_) grow_nil
        obtain ⟨p10, hp10⟩ : ∃ b, b = wA.heap.size := ⟨_, rfl⟩
        have ne_p9_p10 : p9 ≠ p10 := by have := hA.2.1.lt; omega
        have ne_p11_p10 : p11 ≠ p10 := by have := hA.2.2.lt; omega
        have le_p10 : (((w.alloc (.cells #[.int .i64 ax, .int .i64 ay] 28)).alloc (.cells #[.int .i64 bx, .int .i64 by_] 28)).alloc (.cells #[.int .i64 px, .int .i64 py] 28)).heap.size ≤ p10 := by rw [hp10]; exact hA.1.size
        have hnew : Blk (wA.alloc (.cells #[.int .i64 0, .int .i64 0] 28)) p10 28 #[.int .i64 0, .int .i64 0] := by rw [hp10]; exact Blk.new wA _ _
        go_simp
        rw [← hp10]
        refine hK.out _ _ (fun w' => Below (((w.alloc (.cells #[.int .i64 ax, .int .i64 ay] 28)).alloc (.cells #[.int .i64 bx, .int .i64 by_] 28)).alloc (.cells #[.int .i64 px, .int .i64 py] 28)).heap.size (((w.alloc (.cells #[.int .i64 ax, .int .i64 ay] 28)).alloc (.cells #[.int .i64 bx, .int .i64 by_] 28)).alloc (.cells #[.int .i64 px, .int .i64 py] 28)) w' ∧ Blk w' p9 28 #[.int .i64 0, .int .i64 0] ∧ Blk w' p11 28 #[.int .i64 0, .int .i64 0] ∧ Blk w' p10 28 #[.int .i64 0, .int .i64 0]) ⟨fun w2 h2 => HK.out w2 h2.1, fun w2 w3 h2 hb => ⟨h2.1.trans (hb.mono h2.1.size), h2.2.1.below hb h2.2.1.lt, h2.2.2.1.below hb h2.2.2.1.lt, h2.2.2.2.below hb h2.2.2.2.lt⟩⟩ ⟨hA.1.alloc (Nat.le_trans hA.1.size (Nat.le_refl _)) _, hA.2.1.alloc _, hA.2.2.alloc _, hnew⟩ ?_
        clear hnew hp10 hK K hA wA hCalm
        have hCalm : Calm (fun w' => w'.cell? ⟨w.heap.size, 0, none⟩ = some (.int .i64 ax) ∧ w'.cell? ⟨w.heap.size, 1, none⟩ = some (.int .i64 ay) ∧ w'.cell? ⟨(w.heap.size + 1), 0, none⟩ = some (.int .i64 bx) ∧ w'.cell? ⟨(w.heap.size + 1), 1, none⟩ = some (.int .i64 by_) ∧ w'.cell? ⟨(w.heap.size + 2), 0, none⟩ = some (.int .i64 px) ∧ w'.cell? ⟨(w.heap.size + 2), 1, none⟩ = some (.int .i64 py)) (fun w' => Below (((w.alloc (.cells #[.int .i64 ax, .int .i64 ay] 28)).alloc (.cells #[.int .i64 bx, .int .i64 by_] 28)).alloc (.cells #[.int .i64 px, .int .i64 py] 28)).heap.size (((w.alloc (.cells #[.int .i64 ax, .int .i64 ay] 28)).alloc (.cells #[.int .i64 bx, .int .i64 by_] 28)).alloc (.cells #[.int .i64 px, .int .i64 py] 28)) w' ∧ Blk w' p9 28 #[.int .i64 0, .int .i64 0] ∧ Blk w' p11 28 #[.int .i64 0, .int .i64 0] ∧ Blk w' p10 28 #[.int .i64 0, .int .i64 0]) := ⟨fun w2 h2 => HK.out w2 h2.1, fun w2 w3 h2 hb => ⟨h2.1.trans (hb.mono h2.1.size), h2.2.1.below hb h2.2.1.lt, h2.2.2.1.below hb h2.2.2.1.lt, h2.2.2.2.below hb h2.2.2.2.lt⟩⟩
        try simp only [Act.put, List.setIfInBounds_toArray, List.set_cons_zero, List.set_cons_succ]
        refine grow_each [12] (by kernel_rfl) (by decide) ?_
        refine grow_cons 12 rfl (by kernel_rfl) (fun wA hA K hK => ?_) grow_nil
        have z0 := hA.2.1.cell (i := 0) rfl; have z1 := hA.2.1.cell (i := 1) rfl; have f0 := hA.2.1.frozen 0; have f1 := hA.2.1.frozen 1
        go_simp
        refine hK.out _ _ (fun w' => Below (((w.alloc (.cells #[.int .i64 ax, .int .i64 ay] 28)).alloc (.cells #[.int .i64 bx, .int .i64 by_] 28)).alloc (.cells #[.int .i64 px, .int .i64 py] 28)).heap.size (((w.alloc (.cells #[.int .i64 ax, .int .i64 ay] 28)).alloc (.cells #[.int .i64 bx, .int .i64 by_] 28)).alloc (.cells #[.int .i64 px, .int .i64 py] 28)) w' ∧ Blk w' p9 28 #[.int .i64 u1, .int .i64 u2] ∧ Blk w' p11 28 #[.int .i64 0, .int .i64 0] ∧ Blk w' p10 28 #[.int .i64 0, .int .i64 0]) ⟨fun w2 h2 => HK.out w2 h2.1, fun w2 w3 h2 hb => ⟨h2.1.trans (hb.mono h2.1.size), h2.2.1.below hb h2.2.1.lt, h2.2.2.1.below hb h2.2.2.1.lt, h2.2.2.2.below hb h2.2.2.2.lt⟩⟩ ⟨(hA.1.setCell (p := ⟨p9, 0, none⟩) le_p9 _).setCell (p := ⟨p9, 1, none⟩) le_p9 _, (hA.2.1.set 0 _).set 1 _, (hA.2.2.1.far (p := ⟨p9, 0, none⟩) (Ne.symm ne_p9_p11) _).far (p := ⟨p9, 1, none⟩) (Ne.symm ne_p9_p11) _, (hA.2.2.2.far (p := ⟨p9, 0, none⟩) (Ne.symm ne_p9_p10) _).far (p := ⟨p9, 1, none⟩) (Ne.symm ne_p9_p10) _⟩ ?_
        clear z0 z1 f0 f1 hK K hA wA hCalm
        have hCalm : Calm (fun w' => w'.cell? ⟨w.heap.size, 0, none⟩ = some (.int .i64 ax) ∧ w'.cell? ⟨w.heap.size, 1, none⟩ = some (.int .i64 ay) ∧ w'.cell? ⟨(w.heap.size + 1), 0, none⟩ = some (.int .i64 bx) ∧ w'.cell? ⟨(w.heap.size + 1), 1, none⟩ = some (.int .i64 by_) ∧ w'.cell? ⟨(w.heap.size + 2), 0, none⟩ = some (.int .i64 px) ∧ w'.cell? ⟨(w.heap.size + 2), 1, none⟩ = some (.int .i64 py)) (fun w' => Below (((w.alloc (.cells #[.int .i64 ax, .int .i64 ay] 28)).alloc (.cells #[.int .i64 bx, .int .i64 by_] 28)).alloc (.cells #[.int .i64 px, .int .i64 py] 28)).heap.size (((w.alloc (.cells #[.int .i64 ax, .int .i64 ay] 28)).alloc (.cells #[.int .i64 bx, .int .i64 by_] 28)).alloc (.cells #[.int .i64 px, .int .i64 py] 28)) w' ∧ Blk w' p9 28 #[.int .i64 u1, .int .i64 u2] ∧ Blk w' p11 28 #[.int .i64 0, .int .i64 0] ∧ Blk w' p10 28 #[.int .i64 0, .int .i64 0]) := ⟨fun w2 h2 => HK.out w2 h2.1, fun w2 w3 h2 hb => ⟨h2.1.trans (hb.mono h2.1.size), h2.2.1.below hb h2.2.1.lt, h2.2.2.1.below hb h2.2.2.1.lt, h2.2.2.2.below hb h2.2.2.2.lt⟩⟩
        try simp only [Act.put]
        refine grow_each [13] (by kernel_rfl) (by decide) ?_
        refine grow_cons 13 rfl (by kernel_rfl) (fun wA hA K hK => ?_) grow_nil
        have z0 := hA.2.2.2.cell (i := 0) rfl; have z1 := hA.2.2.2.cell (i := 1) rfl; have f0 := hA.2.2.2.frozen 0; have f1 := hA.2.2.2.frozen 1
        go_simp
        refine hK.out _ _ (fun w' => Below (((w.alloc (.cells #[.int .i64 ax, .int .i64 ay] 28)).alloc (.cells #[.int .i64 bx, .int .i64 by_] 28)).alloc (.cells #[.int .i64 px, .int .i64 py] 28)).heap.size (((w.alloc (.cells #[.int .i64 ax, .int .i64 ay] 28)).alloc (.cells #[.int .i64 bx, .int .i64 by_] 28)).alloc (.cells #[.int .i64 px, .int .i64 py] 28)) w' ∧ Blk w' p9 28 #[.int .i64 u1, .int .i64 u2] ∧ Blk w' p11 28 #[.int .i64 0, .int .i64 0] ∧ Blk w' p10 28 #[.int .i64 s1, .int .i64 s2]) ⟨fun w2 h2 => HK.out w2 h2.1, fun w2 w3 h2 hb => ⟨h2.1.trans (hb.mono h2.1.size), h2.2.1.below hb h2.2.1.lt, h2.2.2.1.below hb h2.2.2.1.lt, h2.2.2.2.below hb h2.2.2.2.lt⟩⟩ ⟨(hA.1.setCell (p := ⟨p10, 0, none⟩) le_p10 _).setCell (p := ⟨p10, 1, none⟩) le_p10 _, (hA.2.1.far (p := ⟨p10, 0, none⟩) ne_p9_p10 _).far (p := ⟨p10, 1, none⟩) ne_p9_p10 _, (hA.2.2.1.far (p := ⟨p10, 0, none⟩) ne_p11_p10 _).far (p := ⟨p10, 1, none⟩) ne_p11_p10 _, (hA.2.2.2.set 0 _).set 1 _⟩ ?_
        clear z0 z1 f0 f1 hK K hA wA hCalm
        have hCalm : Calm (fun w' => w'.cell? ⟨w.heap.size, 0, none⟩ = some (.int .i64 ax) ∧ w'.cell? ⟨w.heap.size, 1, none⟩ = some (.int .i64 ay) ∧ w'.cell? ⟨(w.heap.size + 1), 0, none⟩ = some (.int .i64 bx) ∧ w'.cell? ⟨(w.heap.size + 1), 1, none⟩ = some (.int .i64 by_) ∧ w'.cell? ⟨(w.heap.size + 2), 0, none⟩ = some (.int .i64 px) ∧ w'.cell? ⟨(w.heap.size + 2), 1, none⟩ = some (.int .i64 py)) (fun w' => Below (((w.alloc (.cells #[.int .i64 ax, .int .i64 ay] 28)).alloc (.cells #[.int .i64 bx, .int .i64 by_] 28)).alloc (.cells #[.int .i64 px, .int .i64 py] 28)).heap.size (((w.alloc (.cells #[.int .i64 ax, .int .i64 ay] 28)).alloc (.cells #[.int .i64 bx, .int .i64 by_] 28)).alloc (.cells #[.int .i64 px, .int .i64 py] 28)) w' ∧ Blk w' p9 28 #[.int .i64 u1, .int .i64 u2] ∧ Blk w' p11 28 #[.int .i64 0, .int .i64 0] ∧ Blk w' p10 28 #[.int .i64 s1, .int .i64 s2]) := ⟨fun w2 h2 => HK.out w2 h2.1, fun w2 w3 h2 hb => ⟨h2.1.trans (hb.mono h2.1.size), h2.2.1.below hb h2.2.1.lt, h2.2.2.1.below hb h2.2.2.1.lt, h2.2.2.2.below hb h2.2.2.2.lt⟩⟩
        try simp only [Act.put]
        refine grow_each [14] (by kernel_rfl) (by decide) ?_
        refine grow_cons 14 rfl (by kernel_rfl) (fun wA hA K hK => ?_) grow_nil
        have z0 := hA.2.2.1.cell (i := 0) rfl; have z1 := hA.2.2.1.cell (i := 1) rfl; have f0 := hA.2.2.1.frozen 0; have f1 := hA.2.2.1.frozen 1
        go_simp
        refine hK.out _ _ (fun w' => Below (((w.alloc (.cells #[.int .i64 ax, .int .i64 ay] 28)).alloc (.cells #[.int .i64 bx, .int .i64 by_] 28)).alloc (.cells #[.int .i64 px, .int .i64 py] 28)).heap.size (((w.alloc (.cells #[.int .i64 ax, .int .i64 ay] 28)).alloc (.cells #[.int .i64 bx, .int .i64 by_] 28)).alloc (.cells #[.int .i64 px, .int .i64 py] 28)) w' ∧ Blk w' p9 28 #[.int .i64 u1, .int .i64 u2] ∧ Blk w' p11 28 #[.int .i64 t1, .int .i64 t2] ∧ Blk w' p10 28 #[.int .i64 s1, .int .i64 s2]) ⟨fun w2 h2 => HK.out w2 h2.1, fun w2 w3 h2 hb => ⟨h2.1.trans (hb.mono h2.1.size), h2.2.1.below hb h2.2.1.lt, h2.2.2.1.below hb h2.2.2.1.lt, h2.2.2.2.below hb h2.2.2.2.lt⟩⟩ ⟨(hA.1.setCell (p := ⟨p11, 0, none⟩) le_p11 _).setCell (p := ⟨p11, 1, none⟩) le_p11 _, (hA.2.1.far (p := ⟨p11, 0, none⟩) ne_p9_p11 _).far (p := ⟨p11, 1, none⟩) ne_p9_p11 _, (hA.2.2.1.set 0 _).set 1 _, (hA.2.2.2.far (p := ⟨p11, 0, none⟩) (Ne.symm ne_p11_p10) _).far (p := ⟨p11, 1, none⟩) (Ne.symm ne_p11_p10) _⟩ ?_
        clear z0 z1 f0 f1 hK K hA wA hCalm
        have hCalm : Calm (fun w' => w'.cell? ⟨w.heap.size, 0, none⟩ = some (.int .i64 ax) ∧ w'.cell? ⟨w.heap.size, 1, none⟩ = some (.int .i64 ay) ∧ w'.cell? ⟨(w.heap.size + 1), 0, none⟩ = some (.int .i64 bx) ∧ w'.cell? ⟨(w.heap.size + 1), 1, none⟩ = some (.int .i64 by_) ∧ w'.cell? ⟨(w.heap.size + 2), 0, none⟩ = some (.int .i64 px) ∧ w'.cell? ⟨(w.heap.size + 2), 1, none⟩ = some (.int .i64 py)) (fun w' => Below (((w.alloc (.cells #[.int .i64 ax, .int .i64 ay] 28)).alloc (.cells #[.int .i64 bx, .int .i64 by_] 28)).alloc (.cells #[.int .i64 px, .int .i64 py] 28)).heap.size (((w.alloc (.cells #[.int .i64 ax, .int .i64 ay] 28)).alloc (.cells #[.int .i64 bx, .int .i64 by_] 28)).alloc (.cells #[.int .i64 px, .int .i64 py] 28)) w' ∧ Blk w' p9 28 #[.int .i64 u1, .int .i64 u2] ∧ Blk w' p11 28 #[.int .i64 t1, .int .i64 t2] ∧ Blk w' p10 28 #[.int .i64 s1, .int .i64 s2]) := ⟨fun w2 h2 => HK.out w2 h2.1, fun w2 w3 h2 hb => ⟨h2.1.trans (hb.mono h2.1.size), h2.2.1.below hb h2.2.1.lt, h2.2.2.1.below hb h2.2.2.1.lt, h2.2.2.2.below hb h2.2.2.2.lt⟩⟩
        try simp only [Act.put]
        refine grow_done (by kernel_rfl) (fun wA hA => ?_) _
        go_wp2_with fail
        go_meet
        exact ⟨p9, p10, p11, rfl, rfl, rfl, hA.2.1, hA.2.2.2, hA.2.2.1, hA.1⟩
      exact grow_nil
    refine grow_cons 10 rfl (by kernel_rfl) (fun wA hA K hK => ?_) ?_
    case _ =>
      obtain ⟨p10, hp10⟩ : ∃ b, b = wA.heap.size := ⟨_, rfl⟩
      have le_p10 : (((w.alloc (.cells #[.int .i64 ax, .int .i64 ay] 28)).alloc (.cells #[.int .i64 bx, .int .i64 by_] 28)).alloc (.cells #[.int .i64 px, .int .i64 py] 28)).heap.size ≤ p10 := by rw [hp10]; exact hA.size
      have hnew : Blk (wA.alloc (.cells #[.int .i64 0, .int .i64 0] 28)) p10 28 #[.int .i64 0, .int .i64 0] := by rw [hp10]; exact Blk.new wA _ _
      go_simp
      rw [← hp10]
      refine hK.out _ _ (fun w' => Below (((w.alloc (.cells #[.int .i64 ax, .int .i64 ay] 28)).alloc (.cells #[.int .i64 bx, .int .i64 by_] 28)).alloc (.cells #[.int .i64 px, .int .i64 py] 28)).heap.size (((w.alloc (.cells #[.int .i64 ax, .int .i64 ay] 28)).alloc (.cells #[.int .i64 bx, .int .i64 by_] 28)).alloc (.cells #[.int .i64 px, .int .i64 py] 28)) w' ∧ Blk w' p10 28 #[.int .i64 0, .int .i64 0]) ⟨fun w2 h2 => HK.out w2 h2.1, fun w2 w3 h2 hb => ⟨h2.1.trans (hb.mono h2.1.size), h2.2.below hb h2.2.lt⟩⟩ ⟨hA.alloc (Nat.le_trans hA.size (Nat.le_refl _)) _, hnew⟩ ?_
      clear hnew hp10 hK K hA wA hCalm
      have hCalm : Calm (fun w' => w'.cell? ⟨w.heap.size, 0, none⟩ = some (.int .i64 ax) ∧ w'.cell? ⟨w.heap.size, 1, none⟩ = some (.int .i64 ay) ∧ w'.cell? ⟨(w.heap.size + 1), 0, none⟩ = some (.int .i64 bx) ∧ w'.cell? ⟨(w.heap.size + 1), 1, none⟩ = some (.int .i64 by_) ∧ w'.cell? ⟨(w.heap.size + 2), 0, none⟩ = some (.int .i64 px) ∧ w'.cell? ⟨(w.heap.size + 2), 1, none⟩ = some (.int .i64 py)) (fun w' => Below (((w.alloc (.cells #[.int .i64 ax, .int .i64 ay] 28)).alloc (.cells #[.int .i64 bx, .int .i64 by_] 28)).alloc (.cells #[.int .i64 px, .int .i64 py] 28)).heap.size (((w.alloc (.cells #[.int .i64 ax, .int .i64 ay] 28)).alloc (.cells #[.int .i64 bx, .int .i64 by_] 28)).alloc (.cells #[.int .i64 px, .int .i64 py] 28)) w' ∧ Blk w' p10 28 #[.int .i64 0, .int .i64 0]) := ⟨fun w2 h2 => HK.out w2 h2.1, fun w2 w3 h2 hb => ⟨h2.1.trans (hb.mono h2.1.size), h2.2.below hb h2.2.lt⟩⟩
      try simp only [Act.put, List.setIfInBounds_toArray, List.set_cons_zero, List.set_cons_succ]
      refine grow_each [9, 11] (by kernel_rfl) (by decide) ?_
      refine grow_cons 9 rfl (by kernel_rfl) (fun wA hA K hK => ?_) ?_
      case _ =>
        obtain ⟨p9, hp9⟩ : ∃ b, b = wA.heap.size := ⟨_, rfl⟩
        have ne_p10_p9 : p10 ≠ p9 := by have := hA.2.lt; omega
        have le_p9 : (((w.alloc (.cells #[.int .i64 ax, .int .i64 ay] 28)).alloc (.cells #[.int .i64 bx, .int .i64 by_] 28)).alloc (.cells #[.int .i64 px, .int .i64 py] 28)).heap.size ≤ p9 := by rw [hp9]; exact hA.1.size
        have hnew : Blk (wA.alloc (.cells #[.int .i64 0, .int .i64 0] 28)) p9 28 #[.int .i64 0, .int .i64 0] := by rw [hp9]; exact Blk.new wA _ _
        go_simp
        rw [← hp9]
        refine hK.out _ _ (fun w' => Below (((w.alloc (.cells #[.int .i64 ax, .int .i64 ay] 28)).alloc (.cells #[.int .i64 bx, .int .i64 by_] 28)).alloc (.cells #[.int .i64 px, .int .i64 py] 28)).heap.size (((w.alloc (.cells #[.int .i64 ax, .int .i64 ay] 28)).alloc (.cells #[.int .i64 bx, .int .i64 by_] 28)).alloc (.cells #[.int .i64 px, .int .i64 py] 28)) w' ∧ Blk w' p10 28 #[.int .i64 0, .int .i64 0] ∧ Blk w' p9 28 #[.int .i64 0, .int .i64 0]) ⟨fun w2 h2 => HK.out w2 h2.1, fun w2 w3 h2 hb => ⟨h2.1.trans (hb.mono h2.1.size), h2.2.1.below hb h2.2.1.lt, h2.2.2.below hb h2.2.2.lt⟩⟩ ⟨hA.1.alloc (Nat.le_trans hA.1.size (Nat.le_refl _)) _, hA.2.alloc _, hnew⟩ ?_
        clear hnew hp9 hK K hA wA hCalm
        have hCalm : Calm (fun w' => w'.cell? ⟨w.heap.size, 0, none⟩ = some (.int .i64 ax) ∧ w'.cell? ⟨w.heap.size, 1, none⟩ = some (.int .i64 ay) ∧ w'.cell? ⟨(w.heap.size + 1), 0, none⟩ = some (.int .i64 bx) ∧ w'.cell? ⟨(w.heap.size + 1), 1, none⟩ = some (.int .i64 by_) ∧ w'.cell? ⟨(w.heap.size + 2), 0, none⟩ = some (.int .i64 px) ∧ w'.cell? ⟨(w.heap.size + 2), 1, none⟩ = some (.int .i64 py)) (fun w' => Below (((w.alloc (.cells #[.int .i64 ax, .int .i64 ay] 28)).alloc (.cells #[.int .i64 bx, .int .i64 by_] 28)).alloc (.cells #[.int .i64 px, .int .i64 py] 28)).heap.size (((w.alloc (.cells #[.int .i64 ax, .int .i64 ay] 28)).alloc (.cells #[.int .i64 bx, .int .i64 by_] 28)).alloc (.cells #[.int .i64 px, .int .i64 py] 28)) w' ∧ Blk w' p10 28 #[.int .i64 0, .int .i64 0] ∧ Blk w' p9 28 #[.int .i64 0, .int .i64 0]) := ⟨fun w2 h2 => HK.out w2 h2.1, fun w2 w3 h2 hb => ⟨h2.1.trans (hb.mono h2.1.size), h2.2.1.below hb h2.2.1.lt, h2.2.2.below hb h2.2.2.lt⟩⟩
        try simp only [Act.put, List.setIfInBounds_toArray, List.set_cons_zero, List.set_cons_succ]
        refine grow_each [11] (by kernel_rfl) (by decide) ?_
        refine grow_cons 11 rfl (by kernel_rfl) (fun wA hA K hK => ?_) grow_nil
        obtain ⟨p11, hp11⟩ : ∃ b, b = wA.heap.size := ⟨_, rfl⟩
        have ne_p10_p11 : p10 ≠ p11 := by have := hA.2.1.lt; omega
        have ne_p9_p11 : p9 ≠ p11 := by have := hA.2.2.lt; omega
        have le_p11 : (((w.alloc (.cells #[.int .i64 ax, .int .i64 ay] 28)).alloc (.cells #[.int .i64 bx, .int .i64 by_] 28)).alloc (.cells #[.int .i64 px, .int .i64 py] 28)).heap.size ≤ p11 := by rw [hp11]; exact hA.1.size
        have hnew : Blk (wA.alloc (.cells #[.int .i64 0, .int .i64 0] 28)) p11 28 #[.int .i64 0, .int .i64 0] := by rw [hp11]; exact Blk.new wA _ _
        go_simp
        rw [← hp11]
        refine hK.out _ _ (fun w' => Below (((w.alloc (.cells #[.int .i64 ax, .int .i64 ay] 28)).alloc (.cells #[.int .i64 bx, .int .i64 by_] 28)).alloc (.cells #[.int .i64 px, .int .i64 py] 28)).heap.size (((w.alloc (.cells #[.int .i64 ax, .int .i64 ay] 28)).alloc (.cells #[.int .i64 bx, .int .i64 by_] 28)).alloc (.cells #[.int .i64 px, .int .i64 py] 28)) w' ∧ Blk w' p10 28 #[.int .i64 0, .int .i64 0] ∧ Blk w' p9 28 #[.int .i64 0, .int .i64 0] ∧ Blk w' p11 28 #[.int .i64 0, .int .i64 0]) ⟨fun w2 h2 => HK.out w2 h2.1, fun w2 w3 h2 hb => ⟨h2.1.trans (hb.mono h2.1.size), h2.2.1.below hb h2.2.1.lt, h2.2.2.1.below hb h2.2.2.1.lt, h2.2.2.2.below hb h2.2.2.2.lt⟩⟩ ⟨hA.1.alloc (Nat.le_trans hA.1.size (Nat.le_refl _)) _, hA.2.1.alloc _, hA.2.2.alloc _, hnew⟩ ?_
        clear hnew hp11 hK K hA wA hCalm
        have hCalm : Calm (fun w' => w'.cell? ⟨w.heap.size, 0, none⟩ = some (.int .i64 ax) ∧ w'.cell? ⟨w.heap.size, 1, none⟩ = some (.int .i64 ay) ∧ w'.cell? ⟨(w.heap.size + 1), 0, none⟩ = some (.int .i64 bx) ∧ w'.cell? ⟨(w.heap.size + 1), 1, none⟩ = some (.int .i64 by_) ∧ w'.cell? ⟨(w.heap.size + 2), 0, none⟩ = some (.int .i64 px) ∧ w'.cell? ⟨(w.heap.size + 2), 1, none⟩ = some (.int .i64 py)) (fun w' => Below (((w.alloc (.cells #[.int .i64 ax, .int .i64 ay] 28)).alloc (.cells #[.int .i64 bx, .int .i64 by_] 28)).alloc (.cells #[.int .i64 px, .int .i64 py] 28)).heap.size (((w.alloc (.cells #[.int .i64 ax, .int .i64 ay] 28)).alloc (.cells #[.int .i64 bx, .int .i64 by_] 28)).alloc (.cells #[.int .i64 px, .int .i64 py] 28)) w' ∧ Blk w' p10 28 #[.int .i64 0, .int .i64 0] ∧ Blk w' p9 28 #[.int .i64 0, .int .i64 0] ∧ Blk w' p11 28 #[.int .i64 0, .int .i64 0]) := ⟨fun w2 h2 => HK.out w2 h2.1, fun w2 w3 h2 hb => ⟨h2.1.trans (hb.mono h2.1.size), h2.2.1.below hb h2.2.1.lt, h2.2.2.1.below hb h2.2.2.1.lt, h2.2.2.2.below hb h2.2.2.2.lt⟩⟩
        try simp only [Act.put, List.setIfInBounds_toArray, List.set_cons_zero, List.set_cons_succ]
        refine grow_each [12] (by kernel_rfl) (by decide) ?_
        refine grow_cons 12 rfl (by kernel_rfl) (fun wA hA K hK => ?_) grow_nil
        have z0 := hA.2.2.1.cell (i := 0) rfl; have z1 := hA.2.2.1.cell (i := 1) rfl; have f0 := hA.2.2.1.frozen 0; have f1 := hA.2.2.1.frozen 1
        go_simp
        refine hK.out _ _ (fun w' => Below (((w.alloc (.cells #[.int .i64 ax, .int .i64 ay] 28)).alloc (.cells #[.int .i64 bx, .int .i64 by_] 28)).alloc (.cells #[.int .i64 px, .int .i64 py] 28)).heap.size (((w.alloc (.cells #[.int .i64 ax, .int .i64 ay] 28)).alloc (.cells #[.int .i64 bx, .int .i64 by_] 28)).alloc (.cells #[.int .i64 px, .int .i64 py] 28)) w' ∧ Blk w' p10 28 #[.int .i64 0, .int .i64 0] ∧ Blk w' p9 28 #[.int .i64 u1, .int .i64 u2] ∧ Blk w' p11 28 #[.int .i64 0, .int .i64 0]) ⟨fun w2 h2 => HK.out w2 h2.1, fun w2 w3 h2 hb => ⟨h2.1.trans (hb.mono h2.1.size), h2.2.1.below hb h2.2.1.lt, h2.2.2.1.below hb h2.2.2.1.lt, h2.2.2.2.below hb h2.2.2.2.lt⟩⟩ ⟨(hA.1.setCell (p := ⟨p9, 0, none⟩) le_p9 _).setCell (p := ⟨p9, 1, none⟩) le_p9 _, (hA.2.1.far (p := ⟨p9, 0, none⟩) ne_p10_p9 _).far (p := ⟨p9, 1, none⟩) ne_p10_p9 _, (hA.2.2.1.set 0 _).set 1 _, (hA.2.2.2.far (p := ⟨p9, 0, none⟩) (Ne.symm ne_p9_p11) _).far (p := ⟨p9, 1, none⟩) (Ne.symm ne_p9_p11) _⟩ ?_
        clear z0 z1 f0 f1 hK K hA wA hCalm
        have hCalm : Calm (fun w' => w'.cell? ⟨w.heap.size, 0, none⟩ = some (.int .i64 ax) ∧ w'.cell? ⟨w.heap.size, 1, none⟩ = some (.int .i64 ay) ∧ w'.cell? ⟨(w.heap.size + 1), 0, none⟩ = some (.int .i64 bx) ∧ w'.cell? ⟨(w.heap.size + 1), 1, none⟩ = some (.int .i64 by_) ∧ w'.cell? ⟨(w.heap.size + 2), 0, none⟩ = some (.int .i64 px) ∧ w'.cell? ⟨(w.heap.size + 2), 1, none⟩ = some (.int .i64 py)) (fun w' => Below (((w.alloc (.cells #[.int .i64 ax, .int .i64 ay] 28)).alloc (.cells #[.int .i64 bx, .int .i64 by_] 28)).alloc (.cells #[.int .i64 px, .int .i64 py] 28)).heap.size (((w.alloc (.cells #[.int .i64 ax, .int .i64 ay] 28)).alloc (.cells #[.int .i64 bx, .int .i64 by_] 28)).alloc (.cells #[.int .i64 px, .int .i64 py] 28)) w' ∧ Blk w' p10 28 #[.int .i64 0, .int .i64 0] ∧ Blk w' p9 28 #[.int .i64 u1, .int .i64 u2] ∧ Blk w' p11 28 #[.int .i64 0, .int .i64 0]) := ⟨fun w2 h2 => HK.out w2 h2.1, fun w2 w3 h2 hb => ⟨h2.1.trans (hb.mono h2.1.size), h2.2.1.below hb h2.2.1.lt, h2.2.2.1.below hb h2.2.2.1.lt, h2.2.2.2.below hb h2.2.2.2.lt⟩⟩
        try simp only [Act.put]
        refine grow_each [13] (by kernel_rfl) (by decide) ?_
        refine grow_cons 13 rfl (by kernel_rfl) (fun wA hA K hK => ?_) grow_nil
        have z0 := hA.2.1.cell (i := 0) rfl; have z1 := hA.2.1.cell (i := 1) rfl; have f0 := hA.2.1.frozen 0; have f1 := hA.2.1.frozen 1
        go_simp
        refine hK.out _ _ (fun w' => Below (((w.alloc (.cells #[.int .i64 ax, .int .i64 ay] 28)).alloc (.cells #[.int .i64 bx, .int .i64 by_] 28)).alloc (.cells #[.int .i64 px, .int .i64 py] 28)).heap.size (((w.alloc (.cells #[.int .i64 ax, .int .i64 ay] 28)).alloc (.cells #[.int .i64 bx, .int .i64 by_] 28)).alloc (.cells #[.int .i64 px, .int .i64 py] 28)) w' ∧ Blk w' p10 28 #[.int .i64 s1, .int .i64 s2] ∧ Blk w' p9 28 #[.int .i64 u1, .int .i64 u2] ∧ Blk w' p11 28 #[.int .i64 0, .int .i64 0]) ⟨fun w2 h2 => HK.out w2 h2.1, fun w2 w3 h2 hb => ⟨h2.1.trans (hb.mono h2.1.size), h2.2.1.below hb h2.2.1.lt, h2.2.2.1.below hb h2.2.2.1.lt, h2.2.2.2.below hb h2.2.2.2.lt⟩⟩ ⟨(hA.1.setCell (p := ⟨p10, 0, none⟩) le_p10 _).setCell (p := ⟨p10, 1, none⟩) le_p10 _, (hA.2.1.set 0 _).set 1 _, (hA.2.2.1.far (p := ⟨p10, 0, none⟩) (Ne.symm ne_p10_p9) _).far (p := ⟨p10, 1, none⟩) (Ne.symm ne_p10_p9) _, (hA.2.2.2.far (p := ⟨p10, 0, none⟩) (Ne.symm ne_p10_p11) _).far (p := ⟨p10, 1, none⟩) (Ne.symm ne_p10_p11) _⟩ ?_
        clear z0 z1 f0 f1 hK K hA wA hCalm
        have hCalm : Calm (fun w' => w'.cell? ⟨w.heap.size, 0, none⟩ = some (.int .i64 ax) ∧ w'.cell? ⟨w.heap.size, 1, none⟩ = some (.int .i64 ay) ∧ w'.cell? ⟨(w.heap.size + 1), 0, none⟩ = some (.int .i64 bx) ∧ w'.cell? ⟨(w.heap.size + 1), 1, none⟩ = some (.int .i64 by_) ∧ w'.cell? ⟨(w.heap.size + 2), 0, none⟩ = some (.int .i64 px) ∧ w'.cell? ⟨(w.heap.size + 2), 1, none⟩ = some (.int .i64 py)) (fun w' => Below (((w.alloc (.cells #[.int .i64 ax, .int .i64 ay] 28)).alloc (.cells #[.int .i64 bx, .int .i64 by_] 28)).alloc (.cells #[.int .i64 px, .int .i64 py] 28)).heap.size (((w.alloc (.cells #[.int .i64 ax, .int .i64 ay] 28)).alloc (.cells #[.int .i64 bx, .int .i64 by_] 28)).alloc (.cells #[.int .i64 px, .int .i64 py] 28)) w' ∧ Blk w' p10 28 #[.int .i64 s1, .int .i64 s2] ∧ Blk w' p9 28 #[.int .i64 u1, .int .i64 u2] ∧ Blk w' p11 28 #[.int .i64 0, .int .i64 0]) := ⟨fun w2 h2 => HK.out w2 h2.1, fun w2 w3 h2 hb => ⟨h2.1.trans (hb.mono h2.1.size), h2.2.1.below hb h2.2.1.lt, h2.2.2.1.below hb h2.2.2.1.lt, h2.2.2.2.below hb h2.2.2.2.lt⟩⟩
        try simp only [Act.put]
        refine grow_each [14] (by kernel_rfl) (by decide) ?_
        refine grow_cons 14 rfl (by kernel_rfl) (fun wA hA K hK => ?_) grow_nil
        have z0 := hA.2.2.2.cell (i := 0) rfl; have z1 := hA.2.2.2.cell (i := 1) rfl; have f0 := hA.2.2.2.frozen 0; have f1 := hA.2.2.2.frozen 1
        go_simp
        refine hK.out _ _ (fun w' => Below (((w.alloc (.cells #[.int .i64 ax, .int .i64 ay] 28)).alloc (.cells #[.int .i64 bx, .int .i64 by_] 28)).alloc (.cells #[.int .i64 px, .int .i64 py] 28)).heap.size (((w.alloc (.cells #[.int .i64 ax, .int .i64 ay] 28)).alloc (.cells #[.int .i64 bx, .int .i64 by_] 28)).alloc (.cells #[.int .i64 px, .int .i64 py] 28)) w' ∧ Blk w' p10 28 #[.int .i64 s1, .int .i64 s2] ∧ Blk w' p9 28 #[.int .i64 u1, .int .i64 u2] ∧ Blk w' p11 28 #[.int .i64 t1, .int .i64 t2]) ⟨fun w2 h2 => HK.out w2 h2.1, fun w2 w3 h2 hb => ⟨h2.1.trans (hb.mono h2.1.size), h2.2.1.below hb h2.2.1.lt, h2.2.2.1.below hb h2.2.2.1.lt, h2.2.2.2.below hb h2.2.2.2.lt⟩⟩ ⟨(hA.1.setCell (p := ⟨p11, 0, none⟩) le_p11 _).setCell (p := ⟨p11, 1, none⟩) le_p11 _, (hA.2.1.far (p := ⟨p11, 0, none⟩) ne_p10_p11 _).far (p := ⟨p11, 1, none⟩) ne_p10_p11 _, (hA.2.2.1.far (p := ⟨p11, 0, none⟩) ne_p9_p11 _).far (p := ⟨p11, 1, none⟩) ne_p9_p11 _, (hA.2.2.2.set 0 _).set 1 _⟩ ?_
        clear z0 z1 f0 f1 hK K hA wA hCalm
        have hCalm : Calm (fun w' => w'.cell? ⟨w.heap.size, 0, none⟩ = some (.int .i64 ax) ∧ w'.cell? ⟨w.heap.size, 1, none⟩ = some (.int .i64 ay) ∧ w'.cell? ⟨(w.heap.size + 1), 0, none⟩ = some (.int .i64 bx) ∧ w'.cell? ⟨(w.heap.size + 1), 1, none⟩ = some (.int .i64 by_) ∧ w'.cell? ⟨(w.heap.size + 2), 0, none⟩ = some (.int .i64 px) ∧ w'.cell? ⟨(w.heap.size + 2), 1, none⟩ = some (.int .i64 py)) (fun w' => Below (((w.alloc (.cells #[.int .i64 ax, .int .i64 ay] 28)).alloc (.cells #[.int .i64 bx, .int .i64 by_] 28)).alloc (.cells #[.int .i64 px, .int .i64 py] 28)).heap.size (((w.alloc (.cells #[.int .i64 ax, .int .i64 ay] 28)).alloc (.cells #[.int .i64 bx, .int .i64 by_] 28)).alloc (.cells #[.int .i64 px, .int .i64 py] 28)) w' ∧ Blk w' p10 28 #[.int .i64 s1, .int .i64 s2] ∧ Blk w' p9 28 #[.int .i64 u1, .int .i64 u2] ∧ Blk w' p11 28 #[.int .i64 t1, .int .i64 t2]) := ⟨fun w2 h2 => HK.out w2 h2.1, fun w2 w3 h2 hb => ⟨h2.1.trans (hb.mono h2.1.size), h2.2.1.below hb h2.2.1.lt, h2.2.2.1.below hb h2.2.2.1.lt, h2.2.2.2.below hb h2.2.2.2.lt⟩⟩
        try simp only [Act.put]
        refine grow_done (by kernel_rfl) (fun wA hA => ?_) _
        go_wp2_with fail
        go_meet
        exact ⟨p9, p10, p11, rfl, rfl, rfl, hA.2.2.1, hA.2.1, hA.2.2.2, hA.1⟩
      refine grow_cons 11 rfl (by kernel_rfl) (fun wA hA K hK => ?_) ?_
      case _ =>
        obtain ⟨p11, hp11⟩ : ∃ b, b = wA.heap.size := ⟨_, rfl⟩
        have ne_p10_p11 : p10 ≠ p11 := by have := hA.2.lt; omega
        have le_p11 : (((w.alloc (.cells #[.int .i64 ax, .int .i64 ay] 28)).alloc (.cells #[.int .i64 bx, .int .i64 by_] 28)).alloc (.cells #[.int .i64 px, .int .i64 py] 28)).heap.size ≤ p11 := by rw [hp11]; exact hA.1.size
        have hnew : Blk (wA.alloc (.cells #[.int .i64 0, .int .i64 0] 28)) p11 28 #[.int .i64 0, .int .i64 0] := by rw [hp11]; exact Blk.new wA _ _
        go_simp
        rw [← hp11]
        refine hK.out _ _ (fun w' => Below (((w.alloc (.cells #[.int .i64 ax, .int .i64 ay] 28)).alloc (.cells #[.int .i64 bx, .int .i64 by_] 28)).alloc (.cells #[.int .i64 px, .int .i64 py] 28)).heap.size (((w.alloc (.cells #[.int .i64 ax, .int .i64 ay] 28)).alloc (.cells #[.int .i64 bx, .int .i64 by_] 28)).alloc (.cells #[.int .i64 px, .int .i64 py] 28)) w' ∧ Blk w' p10 28 #[.int .i64 0, .int .i64 0] ∧ Blk w' p11 28 #[.int .i64 0, .int .i64 0]) ⟨fun w2 h2 => HK.out w2 h2.1, fun w2 w3 h2 hb => ⟨h2.1.trans (hb.mono h2.1.size), h2.2.1.below hb h2.2.1.lt, h2.2.2.below hb h2.2.2.lt⟩⟩ ⟨hA.1.alloc (Nat.le_trans hA.1.size (Nat.le_refl _)) _, hA.2.alloc _, hnew⟩ ?_
        clear hnew hp11 hK K hA wA hCalm
        have hCalm : Calm (fun w' => w'.cell? ⟨w.heap.size, 0, none⟩ = some (.int .i64 ax) ∧ w'.cell? ⟨w.heap.size, 1, none⟩ = some (.int .i64 ay) ∧ w'.cell? ⟨(w.heap.size + 1), 0, none⟩ = some (.int .i64 bx) ∧ w'.cell? ⟨(w.heap.size + 1), 1, none⟩ = some (.int .i64 by_) ∧ w'.cell? ⟨(w.heap.size + 2), 0, none⟩ = some (.int .i64 px) ∧ w'.cell? ⟨(w.heap.size + 2), 1, none⟩ = some (.int .i64 py)) (fun w' => Below (((w.alloc (.cells #[.int .i64 ax, .int .i64 ay] 28)).alloc (.cells #[.int .i64 bx, .int .i64 by_] 28)).alloc (.cells #[.int .i64 px, .int .i64 py] 28)).heap.size (((w.alloc (.cells #[.int .i64 ax, .int .i64 ay] 28)).alloc (.cells #[.int .i64 bx, .int .i64 by_] 28)).alloc (.cells #[.int .i64 px, .int .i64 py] 28)) w' ∧ Blk w' p10 28 #[.int .i64 0, .int .i64 0] ∧ Blk w' p11 28 #[.int .i64 0, .int .i64 0]) := ⟨fun w2 h2 => HK.out w2 h2.1, fun w2 w3 h2 hb => ⟨h2.1.trans (hb.mono h2.1.size), h2.2.1.below hb h2.2.1.lt, h2.2.2.below hb h2.2.2.lt⟩⟩
        try simp only [Act.put, List.setIfInBounds_toArray, List.set_cons_zero, List.set_cons_succ]
        refine grow_each [9] (by kernel_rfl) (by decide) ?_
        refine grow_cons 9 rfl (by kernel_rfl) (fun wA hA K hK => ?_) grow_nil
        obtain ⟨p9, hp9⟩ : ∃ b, b = wA.heap.size := ⟨_, rfl⟩
        have ne_p10_p9 : p10 ≠ p9 := by have := hA.2.1.lt; omega
        have ne_p11_p9 : p11 ≠ p9 := by have := hA.2.2.lt; omega
        have le_p9 : (((w.alloc (.cells #[.int .i64 ax, .int .i64 ay] 28)).alloc (.cells #[.int .i64 bx, .int .i64 by_] 28)).alloc (.cells #[.int .i64 px, .int .i64 py] 28)).heap.size ≤ p9 := by rw [hp9]; exact hA.1.size
        have hnew : Blk (wA.alloc (.cells #[.int .i64 0, .int .i64 0] 28)) p9 28 #[.int .i64 0, .int .i64 0] := by rw [hp9]; exact Blk.new wA _ _
        go_simp
        rw [← hp9]
        refine hK.out _ _ (fun w' => Below (((w.alloc (.cells #[.int .i64 ax, .int .i64 ay] 28)).alloc (.cells #[.int .i64 bx, .int .i64 by_] 28)).alloc (.cells #[.int .i64 px, .int .i64 py] 28)).heap.size (((w.alloc (.cells #[.int .i64 ax, .int .i64 ay] 28)).alloc (.cells #[.int .i64 bx, .int .i64 by_] 28)).alloc (.cells #[.int .i64 px, .int .i64 py] 28)) w' ∧ Blk w' p10 28 #[.int .i64 0, .int .i64 0] ∧ Blk w' p11 28 #[.int .i64 0, .int .i64 0] ∧ Blk w' p9 28 #[.int .i64 0, .int .i64 0]) ⟨fun w2 h2 => HK.out w2 h2.1, fun w2 w3 h2 hb => ⟨h2.1.trans (hb.mono h2.1.size), h2.2.1.below hb h2.2.1.lt, h2.2.2.1.below hb h2.2.2.1.lt, h2.2.2.2.below hb h2.2.2.2.lt⟩⟩ ⟨hA.1.alloc (Nat.le_trans hA.1.size (Nat.le_refl _)) _, hA.2.1.alloc _, hA.2.2.alloc _, hnew⟩ ?_
        clear hnew hp9 hK K hA wA hCalm
        have hCalm : Calm (fun w' => w'.cell? ⟨w.heap.size, 0, none⟩ = some (.int .i64 ax) ∧ w'.cell? ⟨w.heap.size, 1, none⟩ = some (.int .i64 ay) ∧ w'.cell? ⟨(w.heap.size + 1), 0, none⟩ = some (.int .i64 bx) ∧ w'.cell? ⟨(w.heap.size + 1), 1, none⟩ = some (.int .i64 by_) ∧ w'.cell? ⟨(w.heap.size + 2), 0, none⟩ = some (.int .i64 px) ∧ w'.cell? ⟨(w.heap.size + 2), 1, none⟩ = some (.int .i64 py)) (fun w' => Below (((w.alloc (.cells #[.int .i64 ax, .int .i64 ay] 28)).alloc (.cells #[.int .i64 bx, .int .i64 by_] 28)).alloc (.cells #[.int .i64 px, .int .i64 py] 28)).heap.size (((w.alloc (.cells #[.int .i64 ax, .int .i64 ay] 28)).alloc (.cells #[.int .i64 bx, .int .i64 by_] 28)).alloc (.cells #[.int .i64 px, .int .i64 py] 28)) w' ∧ Blk w' p10 28 #[.int .i64 0, .int .i64 0] ∧ Blk w' p11 28 #[.int .i64 0, .int .i64 0] ∧ Blk w' p9 28 #[.int .i64 0, .int .i64 0]) := ⟨fun w2 h2 => HK.out w2 h2.1, fun w2 w3 h2 hb => ⟨h2.1.trans (hb.mono h2.1.size), h2.2.1.below hb h2.2.1.lt, h2.2.2.1.below hb h2.2.2.1.lt, h2.2.2.2.below hb h2.2.2.2.lt⟩⟩
        try simp only [Act.put, List.setIfInBounds_toArray, List.set_cons_zero, List.set_cons_succ]
        refine grow_each [12] (by kernel_rfl) (by decide) ?_
        refine grow_cons 12 rfl (by kernel_rfl) (fun wA hA K hK => ?_) grow_nil
        have z0 := hA.2.2.2.cell (i := 0) rfl; have z1 := hA.2.2.2.cell (i := 1) rfl; have f0 := hA.2.2.2.frozen 0; have f1 := hA.2.2.2.frozen 1
        go_simp
        refine hK.out _ _ (fun w' => Below (((w.alloc (.cells #[.int .i64 ax, .int .i64 ay] 28)).alloc (.cells #[.int .i64 bx, .int .i64 by_] 28)).alloc (.cells #[.int .i64 px, .int .i64 py] 28)).heap.size (((w.alloc (.cells #[.int .i64 ax, .int .i64 ay] 28)).alloc (.cells #[.int .i64 bx, .int .i64 by_] 28)).alloc (.cells #[.int .i64 px, .int .i64 py] 28)) w' ∧ Blk w' p10 28 #[.int .i64 0, .int .i64 0] ∧ Blk w' p11 28 #[.int .i64 0, .int .i64 0] ∧ Blk w' p9 28 #[.int .i64 u1, .int .i64 u2]) ⟨fun w2 h2 => HK.out w2 h2.1, fun w2 w3 h2 hb => ⟨h2.1.trans (hb.mono h2.1.size), h2.2.1.below hb h2.2.1.lt, h2.2.2.1.below hb h2.2.2.1.lt, h2.2.2.2.below hb h2.2.2.2.lt⟩⟩ ⟨(hA.1.setCell (p := ⟨p9, 0, none⟩) le_p9 _).setCell (p := ⟨p9, 1, none⟩) le_p9 _, (hA.2.1.far (p := ⟨p9, 0, none⟩) ne_p10_p9 _).far (p := ⟨p9, 1, none⟩) ne_p10_p9 _, (hA.2.2.1.far (p := ⟨p9, 0, none⟩) ne_p11_p9 _).far (p := ⟨p9, 1, none⟩) ne_p11_p9 _, (hA.2.2.2.set 0 _).set 1 _⟩ ?_
        clear z0 z1 f0 f1 hK K hA wA hCalm
        have hCalm : Calm (fun w' => w'.cell? ⟨w.heap.size, 0, none⟩ = some (.int .i64 ax) ∧ w'.cell? ⟨w.heap.size, 1, none⟩ = some (.int .i64 ay) ∧ w'.cell? ⟨(w.heap.size + 1), 0, none⟩ = some (.int .i64 bx) ∧ w'.cell? ⟨(w.heap.size + 1), 1, none⟩ = some (.int .i64 by_) ∧ w'.cell? ⟨(w.heap.size + 2), 0, none⟩ = some (.int .i64 px) ∧ w'.cell? ⟨(w.heap.size + 2), 1, none⟩ = some (.int .i64 py)) (fun w' => Below (((w.alloc (.cells #[.int .i64 ax, .int .i64 ay] 28)).alloc (.cells #[.int .i64 bx, .int .i64 by_] 28)).alloc (.cells #[.int .i64 px, .int .i64 py] 28)).heap.size (((w.alloc (.cells #[.int .i64 ax, .int .i64 ay] 28)).alloc (.cells #[.int .i64 bx, .int .i64 by_] 28)).alloc (.cells #[.int .i64 px, .int .i64 py] 28)) w' ∧ Blk w' p10 28 #[.int .i64 0, .int .i64 0] ∧ Blk w' p11 28 #[.int .i64 0, .int .i64 0] ∧ Blk w' p9 28 #[.int .i64 u1, .int .i64 u2]) := ⟨fun w2 h2 => HK.out w2 h2.1, fun w2 w3 h2 hb => ⟨h2.1.trans (hb.mono h2.1.size), h2.2.1.below hb h2.2.1.lt, h2.2.2.1.below hb h2.2.2.1.lt, h2.2.2.2.below hb h2.2.2.2.lt⟩⟩
        try simp only [Act.put]
        refine grow_each [13] (by kernel_rfl) (by decide) ?_
        refine grow_cons 13 rfl (by kernel_rfl) (fun wA hA K hK => ?_) grow_nil
        have z0 := hA.2.1.cell (i := 0) rfl; have z1 := hA.2.1.cell (i := 1) rfl; have f0 := hA.2.1.frozen 0; have f1 := hA.2.1.frozen 1
        go_simp
        refine hK.out _ _ (fun w' => Below (((w.alloc (.cells #[.int .i64 ax, .int .i64 ay] 28)).alloc (.cells #[.int .i64 bx, .int .i64 by_] 28)).alloc (.cells #[.int .i64 px, .int .i64 py] 28)).heap.size (((w.alloc (.cells #[.int .i64 ax, .int .i64 ay] 28)).alloc (.cells #[.int .i64 bx, .int .i64 by_] 28)).alloc (.cells #[.int .i64 px, .int .i64 py] 28)) w' ∧ Blk w' p10 28 #[.int .i64 s1, .int .i64 s2] ∧ Blk w' p11 28 #[.int .i64 0, .int .i64 0] ∧ Blk w' p9 28 #[.int .i64 u1, .int .i64 u2]) ⟨fun w2 h2 => HK.out w2 h2.1, fun w2 w3 h2 hb => ⟨h2.1.trans (hb.mono h2.1.size), h2.2.1.below hb h2.2.1.lt, h2.2.2.1.below hb h2.2.2.1.lt, h2.2.2.2.below hb h2.2.2.2.lt⟩⟩ ⟨(hA.1.setCell (p := ⟨p10, 0, none⟩) le_p10 _).setCell (p := ⟨p10, 1, none⟩) le_p10 _, (hA.2.1.set 0 _).set 1 _, (hA.2.2.1.far (p := ⟨p10, 0, none⟩) (Ne.symm ne_p10_p11) _).far (p := ⟨p10, 1, none⟩) (Ne.symm ne_p10_p11) _, (hA.2.2.2.far (p := ⟨p10, 0, none⟩) (Ne.symm ne_p10_p9) _).far (p := ⟨p10, 1, none⟩) (Ne.symm ne_p10_p9) _⟩ ?_
        clear z0 z1 f0 f1 hK K hA wA hCalm
        have hCalm : Calm (fun w' => w'.cell? ⟨w.heap.size, 0, none⟩ = some (.int .i64 ax) ∧ w'.cell? ⟨w.heap.size, 1, none⟩ = some (.int .i64 ay) ∧ w'.cell? ⟨(w.heap.size + 1), 0, none⟩ = some (.int .i64 bx) ∧ w'.cell? ⟨(w.heap.size + 1), 1, none⟩ = some (.int .i64 by_) ∧ w'.cell? ⟨(w.heap.size + 2), 0, none⟩ = some (.int .i64 px) ∧ w'.cell? ⟨(w.heap.size + 2), 1, none⟩ = some (.int .i64 py)) (fun w' => Below (((w.alloc (.cells #[.int .i64 ax, .int .i64 ay] 28)).alloc (.cells #[.int .i64 bx, .int .i64 by_] 28)).alloc (.cells #[.int .i64 px, .int .i64 py] 28)).heap.size (((w.alloc (.cells #[.int .i64 ax, .int .i64 ay] 28)).alloc (.cells #[.int .i64 bx, .int .i64 by_] 28)).alloc (.cells #[.int .i64 px, .int .i64 py] 28)) w' ∧ Blk w' p10 28 #[.int .i64 s1, .int .i64 s2] ∧ Blk w' p11 28 #[.int .i64 0, .int .i64 0] ∧ Blk w' p9 28 #[.int .i64 u1, .int .i64 u2]) := ⟨fun w2 h2 => HK.out w2 h2.1, fun w2 w3 h2 hb => ⟨h2.1.trans (hb.mono h2.1.size), h2.2.1.below hb h2.2.1.lt, h2.2.2.1.below hb h2.2.2.1.lt, h2.2.2.2.below hb h2.2.2.2.lt⟩⟩
        try simp only [Act.put]
        refine grow_each [14] (by kernel_rfl) (by decide) ?_
        refine grow_cons 14 rfl (by kernel_rfl) (fun wA hA K hK => ?_) grow_nil
        have z0 := hA.2.2.1.cell (i := 0) rfl; have z1 := hA.2.2.1.cell (i := 1) rfl; have f0 := hA.2.2.1.frozen 0; have f1 := hA.2.2.1.frozen 1
        go_simp
        refine hK.out _ _ (fun w' => Below (((w.alloc (.cells #[.int .i64 ax, .int .i64 ay] 28)).alloc (.cells #[.int .i64 bx, .int .i64 by_] 28)).alloc (.cells #[.int .i64 px, .int .i64 py] 28)).heap.size (((w.alloc (.cells #[.int .i64 ax, .int .i64 ay] 28)).alloc (.cells #[.int .i64 bx, .int .i64 by_] 28)).alloc (.cells #[.int .i64 px, .int .i64 py] 28)) w' ∧ Blk w' p10 28 #[.int .i64 s1, .int .i64 s2] ∧ Blk w' p11 28 #[.int .i64 t1, .int .i64 t2] ∧ Blk w' p9 28 #[.int .i64 u1, .int .i64 u2]) ⟨fun w2 h2 => HK.out w2 h2.1, fun w2 w3 h2 hb => ⟨h2.1.trans (hb.mono h2.1.size), h2.2.1.below hb h2.2.1.lt, h2.2.2.1.below hb h2.2.2.1.lt, h2.2.2.2.below hb h2.2.2.2.lt⟩⟩ ⟨(hA.1.setCell (p := ⟨p11, 0, none⟩) le_p11 _).setCell (p := ⟨p11, 1, none⟩) le_p11 _, (hA.2.1.far (p := ⟨p11, 0, none⟩) ne_p10_p11 _).far (p := ⟨p11, 1, none⟩) ne_p10_p11 _, (hA.2.2.1.set 0 _).set 1 _, (hA.2.2.2.far (p := ⟨p11, 0, none⟩) (Ne.symm ne_p11_p9) _).far (p := ⟨p11, 1, none⟩) (Ne.symm ne_p11_p9) _⟩ ?_
        clear z0 z1 f0 f1 hK K hA wA hCalm
        have hCalm : Calm (fun w' => w'.cell? ⟨w.heap.size, 0, none⟩ = some (.int .i64 ax) ∧ w'.cell? ⟨w.heap.size, 1, none⟩ = some (.int .i64 ay) ∧ w'.cell? ⟨(w.heap.size + 1), 0, none⟩ = some (.int .i64 bx) ∧ w'.cell? ⟨(w.heap.size + 1), 1, none⟩ = some (.int .i64 by_) ∧ w'.cell? ⟨(w.heap.size + 2), 0, none⟩ = some (.int .i64 px) ∧ w'.cell? ⟨(w.heap.size + 2), 1, none⟩ = some (.int .i64 py)) (fun w' => Below (((w.alloc (.cells #[.int .i64 ax, .int .i64 ay] 28)).alloc (.cells #[.int .i64 bx, .int .i64 by_] 28)).alloc (.cells #[.int .i64 px, .int .i64 py] 28)).heap.size (((w.alloc (.cells #[.int .i64 ax, .int .i64 ay] 28)).alloc (.cells #[.int .i64 bx, .int .i64 by_] 28)).alloc (.cells #[.int .i64 px, .int .i64 py] 28)) w' ∧ Blk w' p10 28 #[.int .i64 s1, .int .i64 s2] ∧ Blk w' p11 28 #[.int .i64 t1, .int .i64 t2] ∧ Blk w' p9 28 #[.int .i64 u1, .int .i64 u2]) := ⟨fun w2 h2 => HK.out w2 h2.1, fun w2 w3 h2 hb => ⟨h2.1.trans (hb.mono h2.1.size), h2.2.1.below hb h2.2.1.lt, h2.2.2.1.below hb h2.2.2.1.lt, h2.2.2.2.below hb h2.2.2.2.lt⟩⟩
        try simp only [Act.put]
        refine grow_done (by kernel_rfl) (fun wA hA => ?_) _
        go_wp2_with fail
        go_meet
        exact ⟨p9, p10, p11, rfl, rfl, rfl, hA.2.2.2, hA.2.1, hA.2.2.1, hA.1⟩
      exact grow_nil
    refine grow_cons 11 rfl (by kernel_rfl) (fun wA hA K hK => ?_) ?_
    case _ =>
      obtain ⟨p11, hp11⟩ : ∃ b, b = wA.heap.size := ⟨_, rfl⟩
      have le_p11 : (((w.alloc (.cells #[.int .i64 ax, .int .i64 ay] 28)).alloc (.cells #[.int .i64 bx, .int .i64 by_] 28)).alloc (.cells #[.int .i64 px, .int .i64 py] 28)).heap.size ≤ p11 := by rw [hp11]; exact hA.size
      have hnew : Blk (wA.alloc (.cells #[.int .i64 0, .int .i64 0] 28)) p11 28 #[.int .i64 0, .int .i64 0] := by rw [hp11]; exact Blk.new wA _ _
      go_simp
      rw [← hp11]
      refine hK.out _ _ (fun w' => Below (((w.alloc (.cells #[.int .i64 ax, .int .i64 ay] 28)).alloc (.cells #[.int .i64 bx, .int .i64 by_] 28)).alloc (.cells #[.int .i64 px, .int .i64 py] 28)).heap.size (((w.alloc (.cells #[.int .i64 ax, .int .i64 ay] 28)).alloc (.cells #[.int .i64 bx, .int .i64 by_] 28)).alloc (.cells #[.int .i64 px, .int .i64 py] 28)) w' ∧ Blk w' p11 28 #[.int .i64 0, .int .i64 0]) ⟨fun w2 h2 => HK.out w2 h2.1, fun w2 w3 h2 hb => ⟨h2.1.trans (hb.mono h2.1.size), h2.2.below hb h2.2.lt⟩⟩ ⟨hA.alloc (Nat.le_trans hA.size (Nat.le_refl _)) _, hnew⟩ ?_
      clear hnew hp11 hK K hA wA hCalm
      have hCalm : Calm (fun w' => w'.cell? ⟨w.heap.size, 0, none⟩ = some (.int .i64 ax) ∧ w'.cell? ⟨w.heap.size, 1, none⟩ = some (.int .i64 ay) ∧ w'.cell? ⟨(w.heap.size + 1), 0, none⟩ = some (.int .i64 bx) ∧ w'.cell? ⟨(w.heap.size + 1), 1, none⟩ = some (.int .i64 by_) ∧ w'.cell? ⟨(w.heap.size + 2), 0, none⟩ = some (.int .i64 px) ∧ w'.cell? ⟨(w.heap.size + 2), 1, none⟩ = some (.int .i64 py)) (fun w' => Below (((w.alloc (.cells #[.int .i64 ax, .int .i64 ay] 28)).alloc (.cells #[.int .i64 bx, .int .i64 by_] 28)).alloc (.cells #[.int .i64 px, .int .i64 py] 28)).heap.size (((w.alloc (.cells #[.int .i64 ax, .int .i64 ay] 28)).alloc (.cells #[.int .i64 bx, .int .i64 by_] 28)).alloc (.cells #[.int .i64 px, .int .i64 py] 28)) w' ∧ Blk w' p11 28 #[.int .i64 0, .int .i64 0]) := ⟨fun w2 h2 => HK.out w2 h2.1, fun w2 w3 h2 hb => ⟨h2.1.trans (hb.mono h2.1.size), h2.2.below hb h2.2.lt⟩⟩
      try simp only [Act.put, List.setIfInBounds_toArray, List.set_cons_zero, List.set_cons_succ]
      refine grow_each [9, 10] (by kernel_rfl) (by decide) ?_
      refine grow_cons 9 rfl (by kernel_rfl) (fun wA hA K hK => ?_) ?_
      case _ =>
        obtain ⟨p9, hp9⟩ : ∃ b, b = wA.heap.size := ⟨_, rfl⟩
        have ne_p11_p9 : p11 ≠ p9 := by have := hA.2.lt; omega
        have le_p9 : (((w.alloc (.cells #[.int .i64 ax, .int .i64 ay] 28)).alloc (.cells #[.int .i64 bx, .int .i64 by_] 28)).alloc (.cells #[.int .i64 px, .int .i64 py] 28)).heap.size ≤ p9 := by rw [hp9]; exact hA.1.size
        have hnew : Blk (wA.alloc (.cells #[.int .i64 0, .int .i64 0] 28)) p9 28 #[.int .i64 0, .int .i64 0] := by rw [hp9]; exact Blk.new wA _ _
        go_simp
        rw [← hp9]
        refine hK.out _ _ (fun w' => Below (((w.alloc (.cells #[.int .i64 ax, .int .i64 ay] 28)).alloc (.cells #[.int .i64 bx, .int .i64 by_] 28)).alloc (.cells #[.int .i64 px, .int .i64 py] 28)).heap.size (((w.alloc (.cells #[.int .i64 ax, .int .i64 ay] 28)).alloc (.cells #[.int .i64 bx, .int .i64 by_] 28)).alloc (.cells #[.int .i64 px, .int .i64 py] 28)) w' ∧ Blk w' p11 28 #[.int .i64 0, .int .i64 0] ∧ Blk w' p9 28 #[.int .i64 0, .int .i64 0]) ⟨fun w2 h2 => HK.out w2 h2.1, fun w2 w3 h2 hb => ⟨h2.1.trans (hb.mono h2.1.size), h2.2.1.below hb h2.2.1.lt, h2.2.2.below hb h2.2.2.lt⟩⟩ ⟨hA.1.alloc (Nat.le_trans hA.1.size (Nat.le_refl _)) _, hA.2.alloc _, hnew⟩ ?_
        clear hnew hp9 hK K hA wA hCalm
        have hCalm : Calm (fun w' => w'.cell? ⟨w.heap.size, 0, none⟩ = some (.int .i64 ax) ∧ w'.cell? ⟨w.heap.size, 1, none⟩ = some (.int .i64 ay) ∧ w'.cell? ⟨(w.heap.size + 1), 0, none⟩ = some (.int .i64 bx) ∧ w'.cell? ⟨(w.heap.size + 1), 1, none⟩ = some (.int .i64 by_) ∧ w'.cell? ⟨(w.heap.size + 2), 0, none⟩ = some (.int .i64 px) ∧ w'.cell? ⟨(w.heap.size + 2), 1, none⟩ = some (.int .i64 py)) (fun w' => Below (((w.alloc (.cells #[.int .i64 ax, .int .i64 ay] 28)).alloc (.cells #[.int .i64 bx, .int .i64 by_] 28)).alloc (.cells #[.int .i64 px, .int .i64 py] 28)).heap.size (((w.alloc (.cells #[.int .i64 ax, .int .i64 ay] 28)).alloc (.cells #[.int .i64 bx, .int .i64 by_] 28)).alloc (.cells #[.int .i64 px, .int .i64 py] 28)) w' ∧ Blk w' p11 28 #[.int .i64 0, .int .i64 0] ∧ Blk w' p9 28 #[.int .i64 0, .int .i64 0]) := ⟨fun w2 h2 => HK.out w2 h2.1, fun w2 w3 h2 hb => ⟨h2.1.trans (hb.mono h2.1.size), h2.2.1.below hb h2.2.1.lt, h2.2.2.below hb h2.2.2.lt⟩⟩
        try simp only [Act.put, List.setIfInBounds_toArray, List.set_cons_zero, List.set_cons_succ]
        refine grow_each [10] (by kernel_rfl) (by decide) ?_
        refine grow_cons 10 rfl (by kernel_rfl) (fun wA hA K hK => ?_) grow_nil
        obtain ⟨p10, hp10⟩ : ∃ b, b = wA.heap.size := ⟨_, rfl⟩
        have ne_p11_p10 : p11 ≠ p10 := by have := hA.2.1.lt; omega
        have ne_p9_p10 : p9 ≠ p10 := by have := hA.2.2.lt; omega
        have le_p10 : (((w.alloc (.cells #[.int .i64 ax, .int .i64 ay] 28)).alloc (.cells #[.int .i64 bx, .int .i64 by_] 28)).alloc (.cells #[.int .i64 px, .int .i64 py] 28)).heap.size ≤ p10 := by rw [hp10]; exact hA.1.size
        have hnew : Blk (wA.alloc (.cells #[.int .i64 0, .int .i64 0] 28)) p10 28 #[.int .i64 0, .int .i64 0] := by rw [hp10]; exact Blk.new wA _ _
        go_simp
        rw [← hp10]
        refine hK.out _ _ (fun w' => Below (((w.alloc (.cells #[.int .i64 ax, .int .i64 ay] 28)).alloc (.cells #[.int .i64 bx, .int .i64 by_] 28)).alloc (.cells #[.int .i64 px, .int .i64 py] 28)).heap.size (((w.alloc (.cells #[.int .i64 ax, .int .i64 ay] 28)).alloc (.cells #[.int .i64 bx, .int .i64 by_] 28)).alloc (.cells #[.int .i64 px, .int .i64 py] 28)) w' ∧ Blk w' p11 28 #[.int .i64 0, .int .i64 0] ∧ Blk w' p9 28 #[.int .i64 0, .int .i64 0] ∧ Blk w' p10 28 #[.int .i64 0, .int .i64 0]) ⟨fun w2 h2 => HK.out w2 h2.1, fun w2 w3 h2 hb => ⟨h2.1.trans (hb.mono h2.1.size), h2.2.1.below hb h2.2.1.lt, h2.2.2.1.below hb h2.2.2.1.lt, h2.2.2.2.below hb h2.2.2.2.lt⟩⟩ ⟨hA.1.alloc (Nat.le_trans hA.1.size (Nat.le_refl _)) _, hA.2.1.alloc _, hA.2.2.alloc _, hnew⟩ ?_
        clear hnew hp10 hK K hA wA hCalm
        have hCalm : Calm (fun w' => w'.cell? ⟨w.heap.size, 0, none⟩ = some (.int .i64 ax) ∧ w'.cell? ⟨w.heap.size, 1, none⟩ = some (.int .i64 ay) ∧ w'.cell? ⟨(w.heap.size + 1), 0, none⟩ = some (.int .i64 bx) ∧ w'.cell? ⟨(w.heap.size + 1), 1, none⟩ = some (.int .i64 by_) ∧ w'.cell? ⟨(w.heap.size + 2), 0, none⟩ = some (.int .i64 px) ∧ w'.cell? ⟨(w.heap.size + 2), 1, none⟩ = some (.int .i64 py)) (fun w' => Below (((w.alloc (.cells #[.int .i64 ax, .int .i64 ay] 28)).alloc (.cells #[.int .i64 bx, .int .i64 by_] 28)).alloc (.cells #[.int .i64 px, .int .i64 py] 28)).heap.size (((w.alloc (.cells #[.int .i64 ax, .int .i64 ay] 28)).alloc (.cells #[.int .i64 bx, .int .i64 by_] 28)).alloc (.cells #[.int .i64 px, .int .i64 py] 28)) w' ∧ Blk w' p11 28 #[.int .i64 0, .int .i64 0] ∧ Blk w' p9 28 #[.int .i64 0, .int .i64 0] ∧ Blk w' p10 28 #[.int .i64 0, .int .i64 0]) := ⟨fun w2 h2 => HK.out w2 h2.1, fun w2 w3 h2 hb => ⟨h2.1.trans (hb.mono h2.1.size), h2.2.1.below hb h2.2.1.lt, h2.2.2.1.below hb h2.2.2.1.lt, h2.2.2.2.below hb h2.2.2.2.lt⟩⟩
        try simp only [Act.put, List.setIfInBounds_toArray, List.set_cons_zero, List.set_cons_succ]
        refine grow_each [12] (by kernel_rfl) (by decide) ?_
        refine grow_cons 12 rfl (by kernel_rfl) (fun wA hA K hK => ?_) grow_nil
        have z0 := hA.2.2.1.cell (i := 0) rfl; have z1 := hA.2.2.1.cell (i := 1) rfl; have f0 := hA.2.2.1.frozen 0; have f1 := hA.2.2.1.frozen 1
        go_simp
        refine hK.out _ _ (fun w' => Below (((w.alloc (.cells #[.int .i64 ax, .int .i64 ay] 28)).alloc (.cells #[.int .i64 bx, .int .i64 by_] 28)).alloc (.cells #[.int .i64 px, .int .i64 py] 28)).heap.size (((w.alloc (.cells #[.int .i64 ax, .int .i64 ay] 28)).alloc (.cells #[.int .i64 bx, .int .i64 by_] 28)).alloc (.cells #[.int .i64 px, .int .i64 py] 28)) w' ∧ Blk w' p11 28 #[.int .i64 0, .int .i64 0] ∧ Blk w' p9 28 #[.int .i64 u1, .int .i64 u2] ∧ Blk w' p10 28 #[.int .i64 0, .int .i64 0]) ⟨fun w2 h2 => HK.out w2 h2.1, fun w2 w3 h2 hb => ⟨h2.1.trans (hb.mono h2.1.size), h2.2.1.below hb h2.2.1.lt, h2.2.2.1.below hb h2.2.2.1.lt, h2.2.2.2.below hb h2.2.2.2.lt⟩⟩ ⟨(hA.1.setCell (p := ⟨p9, 0, none⟩) le_p9 _).setCell (p := ⟨p9, 1, none⟩) le_p9 _, (hA.2.1.far (p := ⟨p9, 0, none⟩) ne_p11_p9 _).far (p := ⟨p9, 1, none⟩) ne_p11_p9 _, (hA.2.2.1.set 0 _).set 1 _, (hA.2.2.2.far (p := ⟨p9, 0, none⟩) (Ne.symm ne_p9_p10) _).far (p := ⟨p9, 1, none⟩) (Ne.symm ne_p9_p10) _⟩ ?_
        clear z0 z1 f0 f1 hK K hA wA hCalm
        have hCalm : Calm (fun w' => w'.cell? ⟨w.heap.size, 0, none⟩ = some (.int .i64 ax) ∧ w'.cell? ⟨w.heap.size, 1, none⟩ = some (.int .i64 ay) ∧ w'.cell? ⟨(w.heap.size + 1), 0, none⟩ = some (.int .i64 bx) ∧ w'.cell? ⟨(w.heap.size + 1), 1, none⟩ = some (.int .i64 by_) ∧ w'.cell? ⟨(w.heap.size + 2), 0, none⟩ = some (.int .i64 px) ∧ w'.cell? ⟨(w.heap.size + 2), 1, none⟩ = some (.int .i64 py)) (fun w' => Below (((w.alloc (.cells #[.int .i64 ax, .int .i64 ay] 28)).alloc (.cells #[.int .i64 bx, .int .i64 by_] 28)).alloc (.cells #[.int .i64 px, .int .i64 py] 28)).heap.size (((w.alloc (.cells #[.int .i64 ax, .int .i64 ay] 28)).alloc (.cells #[.int .i64 bx, .int .i64 by_] 28)).alloc (.cells #[.int .i64 px, .int .i64 py] 28)) w' ∧ Blk w' p11 28 #[.int .i64 0, .int .i64 0] ∧ Blk w' p9 28 #[.int .i64 u1, .int .i64 u2] ∧ Blk w' p10 28 #[.int .i64 0, .int .i64 0]) := ⟨fun w2 h2 => HK.out w2 h2.1, fun w2 w3 h2 hb => ⟨h2.1.trans (hb.mono h2.1.size), h2.2.1.below hb h2.2.1.lt, h2.2.2.1.below hb h2.2.2.1.lt, h2.2.2.2.below hb h2.2.2.2.lt⟩⟩
        try simp only [Act.put]
        refine grow_each [13] (by kernel_rfl) (by decide) ?_
        refine grow_cons 13 rfl (by kernel_rfl) (fun wA hA K hK => ?_) grow_nil
        have z0 := hA.2.2.2.cell (i := 0) rfl; have z1 := hA.2.2.2.cell (i := 1) rfl; have f0 := hA.2.2.2.frozen 0; have f1 := hA.2.2.2.frozen 1
        go_simp
        refine hK.out _ _ (fun w' => Below (((w.alloc (.cells #[.int .i64 ax, .int .i64 ay] 28)).alloc (.cells #[.int .i64 bx, .int .i64 by_] 28)).alloc (.cells #[.int .i64 px, .int .i64 py] 28)).heap.size (((w.alloc (.cells #[.int .i64 ax, .int .i64 ay] 28)).alloc (.cells #[.int .i64 bx, .int .i64 by_] 28)).alloc (.cells #[.int .i64 px, .int .i64 py] 28)) w' ∧ Blk w' p11 28 #[.int .i64 0, .int .i64 0] ∧ Blk w' p9 28 #[.int .i64 u1, .int .i64 u2] ∧ Blk w' p10 28 #[.int .i64 s1, .int .i64 s2]) ⟨fun w2 h2 => HK.out w2 h2.1, fun w2 w3 h2 hb => ⟨h2.1.trans (hb.mono h2.1.size), h2.2.1.below hb h2.2.1.lt, h2.2.2.1.below hb h2.2.2.1.lt, h2.2.2.2.below hb h2.2.2.2.lt⟩⟩ ⟨(hA.1.setCell (p := ⟨p10, 0, none⟩) le_p10 _).setCell (p := ⟨p10, 1, none⟩) le_p10 _, (hA.2.1.far (p := ⟨p10, 0, none⟩) ne_p11_p10 _).far (p := ⟨p10, 1, none⟩) ne_p11_p10 _, (hA.2.2.1.far (p := ⟨p10, 0, none⟩) ne_p9_p10 _).far (p := ⟨p10, 1, none⟩) ne_p9_p10 _, (hA.2.2.2.set 0 _).set 1 _⟩ ?_
        clear z0 z1 f0 f1 hK K hA wA hCalm
        have hCalm : Calm (fun w' => w'.cell? ⟨w.heap.size, 0, none⟩ = some (.int .i64 ax) ∧ w'.cell? ⟨w.heap.size, 1, none⟩ = some (.int .i64 ay) ∧ w'.cell? ⟨(w.heap.size + 1), 0, none⟩ = some (.int .i64 bx) ∧ w'.cell? ⟨(w.heap.size + 1), 1, none⟩ = some (.int .i64 by_) ∧ w'.cell? ⟨(w.heap.size + 2), 0, none⟩ = some (.int .i64 px) ∧ w'.cell? ⟨(w.heap.size + 2), 1, none⟩ = some (.int .i64 py)) (fun w' => Below (((w.alloc (.cells #[.int .i64 ax, .int .i64 ay] 28)).alloc (.cells #[.int .i64 bx, .int .i64 by_] 28)).alloc (.cells #[.int .i64 px, .int .i64 py] 28)).heap.size (((w.alloc (.cells #[.int .i64 ax, .int .i64 ay] 28)).alloc (.cells #[.int .i64 bx, .int .i64 by_] 28)).alloc (.cells #[.int .i64 px, .int .i64 py] 28)) w' ∧ Blk w' p11 28 #[.int .i64 0, .int .i64 0] ∧ Blk w' p9 28 #[.int .i64 u1, .int .i64 u2] ∧ Blk w' p10 28 #[.int .i64 s1, .int .i64 s2]) := ⟨fun w2 h2 => HK.out w2 h2.1, fun w2 w3 h2 hb => ⟨h2.1.trans (hb.mono h2.1.size), h2.2.1.below hb h2.2.1.lt, h2.2.2.1.below hb h2.2.2.1.lt, h2.2.2.2.below hb h2.2.2.2.lt⟩⟩
        try simp only [Act.put]
        refine grow_each [14] (by kernel_rfl) (by decide) ?_
        refine grow_cons 14 rfl (by kernel_rfl) (fun wA hA K hK => ?_) grow_nil
        have z0 := hA.2.1.cell (i := 0) rfl; have z1 := hA.2.1.cell (i := 1) rfl; have f0 := hA.2.1.frozen 0; have f1 := hA.2.1.frozen 1
        go_simp
        refine hK.out _ _ (fun w' => Below (((w.alloc (.cells #[.int .i64 ax, .int .i64 ay] 28)).alloc (.cells #[.int .i64 bx, .int .i64 by_] 28)).alloc (.cells #[.int .i64 px, .int .i64 py] 28)).heap.size (((w.alloc (.cells #[.int .i64 ax, .int .i64 ay] 28)).alloc (.cells #[.int .i64 bx, .int .i64 by_] 28)).alloc (.cells #[.int .i64 px, .int .i64 py] 28)) w' ∧ Blk w' p11 28 #[.int .i64 t1, .int .i64 t2] ∧ Blk w' p9 28 #[.int .i64 u1, .int .i64 u2] ∧ Blk w' p10 28 #[.int .i64 s1, .int .i64 s2]) ⟨fun w2 h2 => HK.out w2 h2.1, fun w2 w3 h2 hb => ⟨h2.1.trans (hb.mono h2.1.size), h2.2.1.below hb h2.2.1.lt, h2.2.2.1.below hb h2.2.2.1.lt, h2.2.2.2.below hb h2.2.2.2.lt⟩⟩ ⟨(hA.1.setCell (p := ⟨p11, 0, none⟩) le_p11 _).setCell (p := ⟨p11, 1, none⟩) le_p11 _, (hA.2.1.set 0 _).set 1 _, (hA.2.2.1.far (p := ⟨p11, 0, none⟩) (Ne.symm ne_p11_p9) _).far (p := ⟨p11, 1, none⟩) (Ne.symm ne_p11_p9) _, (hA.2.2.2.far (p := ⟨p11, 0, none⟩) (Ne.symm ne_p11_p10) _).far (p := ⟨p11, 1, none⟩) (Ne.symm ne_p11_p10) _⟩ ?_
        clear z0 z1 f0 f1 hK K hA wA hCalm
        have hCalm : Calm (fun w' => w'.cell? ⟨w.heap.size, 0, none⟩ = some (.int .i64 ax) ∧ w'.cell? ⟨w.heap.size, 1, none⟩ = some (.int .i64 ay) ∧ w'.cell? ⟨(w.heap.size + 1), 0, none⟩ = some (.int .i64 bx) ∧ w'.cell? ⟨(w.heap.size + 1), 1, none⟩ = some (.int .i64 by_) ∧ w'.cell? ⟨(w.heap.size + 2), 0, none⟩ = some (.int .i64 px) ∧ w'.cell? ⟨(w.heap.size + 2), 1, none⟩ = some (.int .i64 py)) (fun w' => Below (((w.alloc (.cells #[.int .i64 ax, .int .i64 ay] 28)).alloc (.cells #[.int .i64 bx, .int .i64 by_] 28)).alloc (.cells #[.int .i64 px, .int .i64 py] 28)).heap.size (((w.alloc (.cells #[.int .i64 ax, .int .i64 ay] 28)).alloc (.cells #[.int .i64 bx, .int .i64 by_] 28)).alloc (.cells #[.int .i64 px, .int .i64 py] 28)) w' ∧ Blk w' p11 28 #[.int .i64 t1, .int .i64 t2] ∧ Blk w' p9 28 #[.int .i64 u1, .int .i64 u2] ∧ Blk w' p10 28 #[.int .i64 s1, .int .i64 s2]) := ⟨fun w2 h2 => HK.out w2 h2.1, fun w2 w3 h2 hb => ⟨h2.1.trans (hb.mono h2.1.size), h2.2.1.below hb h2.2.1.lt, h2.2.2.1.below hb h2.2.2.1.lt, h2.2.2.2.below hb h2.2.2.2.lt⟩⟩
        try simp only [Act.put]
        refine grow_done (by kernel_rfl) (fun wA hA => ?_) _
        go_wp2_with fail
        go_meet
        exact ⟨p9, p10, p11, rfl, rfl, rfl, hA.2.2.1, hA.2.2.2, hA.2.1, hA.1⟩
      refine grow_cons 10 rfl (by kernel_rfl) (fun wA hA K hK => ?_) ?_
      case _ =>
        obtain ⟨p10, hp10⟩ : ∃ b, b = wA.heap.size := ⟨_, rfl⟩
        have ne_p11_p10 : p11 ≠ p10 := by have := hA.2.lt; omega
        have le_p10 : (((w.alloc (.cells #[.int .i64 ax, .int .i64 ay] 28)).alloc (.cells #[.int .i64 bx, .int .i64 by_] 28)).alloc (.cells #[.int .i64 px, .int .i64 py] 28)).heap.size ≤ p10 := by rw [hp10]; exact hA.1.size
        have hnew : Blk (wA.alloc (.cells #[.int .i64 0, .int .i64 0] 28)) p10 28 #[.int .i64 0, .int .i64 0] := by rw [hp10]; exact Blk.new wA _ _
        go_simp
        rw [← hp10]
        refine hK.out _ _ (fun w' => Below (((w.alloc (.cells #[.int .i64 ax, .int .i64 ay] 28)).alloc (.cells #[.int .i64 bx, .int .i64 by_] 28)).alloc (.cells #[.int .i64 px, .int .i64 py] 28)).heap.size (((w.alloc (.cells #[.int .i64 ax, .int .i64 ay] 28)).alloc (.cells #[.int .i64 bx, .int .i64 by_] 28)).alloc (.cells #[.int .i64 px, .int .i64 py] 28)) w' ∧ Blk w' p11 28 #[.int .i64 0, .int .i64 0] ∧ Blk w' p10 28 #[.int .i64 0, .int .i64 0]) ⟨fun w2 h2 => HK.out w2 h2.1, fun w2 w3 h2 hb => ⟨h2.1.trans (hb.mono h2.1.size), h2.2.1.below hb h2.2.1.lt, h2.2.2.below hb h2.2.2.lt⟩⟩ ⟨hA.1.alloc (Nat.le_trans hA.1.size (Nat.le_refl _)) _, hA.2.alloc _, hnew⟩ ?_
        clear hnew hp10 hK K hA wA hCalm
        have hCalm : Calm (fun w' => w'.cell? ⟨w.heap.size, 0, none⟩ = some (.int .i64 ax) ∧ w'.cell? ⟨w.heap.size, 1, none⟩ = some (.int .i64 ay) ∧ w'.cell? ⟨(w.heap.size + 1), 0, none⟩ = some (.int .i64 bx) ∧ w'.cell? ⟨(w.heap.size + 1), 1, none⟩ = some (.int .i64 by_) ∧ w'.cell? ⟨(w.heap.size + 2), 0, none⟩ = some (.int .i64 px) ∧ w'.cell? ⟨(w.heap.size + 2), 1, none⟩ = some (.int .i64 py)) (fun w' => Below (((w.alloc (.cells #[.int .i64 ax, .int .i64 ay] 28)).alloc (.cells #[.int .i64 bx, .int .i64 by_] 28)).alloc (.cells #[.int .i64 px, .int .i64 py] 28)).heap.size (((w.alloc (.cells #[.int .i64 ax, .int .i64 ay] 28)).alloc (.cells #[.int .i64 bx, .int .i64 by_] 28)).alloc (.cells #[.int .i64 px, .int .i64 py] 28)) w' ∧ Blk w' p11 28 #[.int .i64 0, .int .i64 0] ∧ Blk w' p10 28 #[.int .i64 0, .int .i64 0]) := ⟨fun w2 h2 => HK.out w2 h2.1, fun w2 w3 h2 hb => ⟨h2.1.trans (hb.mono h2.1.size), h2.2.1.below hb h2.2.1.lt, h2.2.2.below hb h2.2.2.lt⟩⟩
        try simp only [Act.put, List.setIfInBounds_toArray, List.set_cons_zero, List.set_cons_succ]
        refine grow_each [9] (by kernel_rfl) (by decide) ?_
        refine grow_cons 9 rfl (by kernel_rfl) (fun wA hA K hK => ?_) grow_nil
        obtain ⟨p9, hp9⟩ : ∃ b, b = wA.heap.size := ⟨_, rfl⟩
        have ne_p11_p9 : p11 ≠ p9 := by have := hA.2.1.lt; omega
        have ne_p10_p9 : p10 ≠ p9 := by have := hA.2.2.lt; omega
        have le_p9 : (((w.alloc (.cells #[.int .i64 ax, .int .i64 ay] 28)).alloc (.cells #[.int .i64 bx, .int .i64 by_] 28)).alloc (.cells #[.int .i64 px, .int .i64 py] 28)).heap.size ≤ p9 := by rw [hp9]; exact hA.1.size
        have hnew : Blk (wA.alloc (.cells #[.int .i64 0, .int .i64 0] 28)) p9 28 #[.int .i64 0, .int .i64 0] := by rw [hp9]; exact Blk.new wA _ _
        go_simp
        rw [← hp9]
        refine hK.out _ _ (fun w' => Below (((w.alloc (.cells #[.int .i64 ax, .int .i64 ay] 28)).alloc (.cells #[.int .i64 bx, .int .i64 by_] 28)).alloc (.cells #[.int .i64 px, .int .i64 py] 28)).heap.size (((w.alloc (.cells #[.int .i64 ax, .int .i64 ay] 28)).alloc (.cells #[.int .i64 bx, .int .i64 by_] 28)).alloc (.cells #[.int .i64 px, .int .i64 py] 28)) w' ∧ Blk w' p11 28 #[.int .i64 0, .int .i64 0] ∧ Blk w' p10 28 #[.int .i64 0, .int .i64 0] ∧ Blk w' p9 28 #[.int .i64 0, .int .i64 0]) ⟨fun w2 h2 => HK.out w2 h2.1, fun w2 w3 h2 hb => ⟨h2.1.trans (hb.mono h2.1.size), h2.2.1.below hb h2.2.1.lt, h2.2.2.1.below hb h2.2.2.1.lt, h2.2.2.2.below hb h2.2.2.2.lt⟩⟩ ⟨hA.1.alloc (Nat.le_trans hA.1.size (Nat.le_refl _)) _, hA.2.1.alloc _, hA.2.2.alloc _, hnew⟩ ?_
        clear hnew hp9 hK K hA wA hCalm
        have hCalm : Calm (fun w' => w'.cell? ⟨w.heap.size, 0, none⟩ = some (.int .i64 ax) ∧ w'.cell? ⟨w.heap.size, 1, none⟩ = some (.int .i64 ay) ∧ w'.cell? ⟨(w.heap.size + 1), 0, none⟩ = some (.int .i64 bx) ∧ w'.cell? ⟨(w.heap.size + 1), 1, none⟩ = some (.int .i64 by_) ∧ w'.cell? ⟨(w.heap.size + 2), 0, none⟩ = some (.int .i64 px) ∧ w'.cell? ⟨(w.heap.size + 2), 1, none⟩ = some (.int .i64 py)) (fun w' => Below (((w.alloc (.cells #[.int .i64 ax, .int .i64 ay] 28)).alloc (.cells #[.int .i64 bx, .int .i64 by_] 28)).alloc (.cells #[.int .i64 px, .int .i64 py] 28)).heap.size (((w.alloc (.cells #[.int .i64 ax, .int .i64 ay] 28)).alloc (.cells #[.int .i64 bx, .int .i64 by_] 28)).alloc (.cells #[.int .i64 px, .int .i64 py] 28)) w' ∧ Blk w' p11 28 #[.int .i64 0, .int .i64 0] ∧ Blk w' p10 28 #[.int .i64 0, .int .i64 0] ∧ Blk w' p9 28 #[.int .i64 0, .int .i64 0]) := ⟨fun w2 h2 => HK.out w2 h2.1, fun w2 w3 h2 hb => ⟨h2.1.trans (hb.mono h2.1.size), h2.2.1.below hb h2.2.1.lt, h2.2.2.1.below hb h2.2.2.1.lt, h2.2.2.2.below hb h2.2.2.2.lt⟩⟩
        try simp only [Act.put, List.setIfInBounds_toArray, List.set_cons_zero, List.set_cons_succ]
        refine grow_each [12] (by kernel_rfl) (by decide) ?_
        refine grow_cons 12 rfl (by kernel_rfl) (fun wA hA K hK => ?_) grow_nil
        have z0 := hA.2.2.2.cell (i := 0) rfl; have z1 := hA.2.2.2.cell (i := 1) rfl; have f0 := hA.2.2.2.frozen 0; have f1 := hA.2.2.2.frozen 1
        go_simp
        refine hK.out _ _ (fun w' => Below (((w.alloc (.cells #[.int .i64 ax, .int .i64 ay] 28)).alloc (.cells #[.int .i64 bx, .int .i64 by_] 28)).alloc (.cells #[.int .i64 px, .int .i64 py] 28)).heap.size (((w.alloc (.cells #[.int .i64 ax, .int .i64 ay] 28)).alloc (.cells #[.int .i64 bx, .int .i64 by_] 28)).alloc (.cells #[.int .i64 px, .int .i64 py] 28)) w' ∧ Blk w' p11 28 #[.int .i64 0, .int .i64 0] ∧ Blk w' p10 28 #[.int .i64 0, .int .i64 0] ∧ Blk w' p9 28 #[.int .i64 u1, .int .i64 u2]) ⟨fun w2 h2 => HK.out w2 h2.1, fun w2 w3 h2 hb => ⟨h2.1.trans (hb.mono h2.1.size), h2.2.1.below hb h2.2.1.lt, h2.2.2.1.below hb h2.2.2.1.lt, h2.2.2.2.below hb h2.2.2.2.lt⟩⟩ ⟨(hA.1.setCell (p := ⟨p9, 0, none⟩) le_p9 _).setCell (p := ⟨p9, 1, none⟩) le_p9 _, (hA.2.1.far (p := ⟨p9, 0, none⟩) ne_p11_p9 _).far (p := ⟨p9, 1, none⟩) ne_p11_p9 _, (hA.2.2.1.far (p := ⟨p9, 0, none⟩) ne_p10_p9 _).far (p := ⟨p9, 1, none⟩) ne_p10_p9 _, (hA.2.2.2.set 0 _).set 1 _⟩ ?_
        clear z0 z1 f0 f1 hK K hA wA hCalm
        have hCalm : Calm (fun w' => w'.cell? ⟨w.heap.size, 0, none⟩ = some (.int .i64 ax) ∧ w'.cell? ⟨w.heap.size, 1, none⟩ = some (.int .i64 ay) ∧ w'.cell? ⟨(w.heap.size + 1), 0, none⟩ = some (.int .i64 bx) ∧ w'.cell? ⟨(w.heap.size + 1), 1, none⟩ = some (.int .i64 by_) ∧ w'.cell? ⟨(w.heap.size + 2), 0, none⟩ = some (.int .i64 px) ∧ w'.cell? ⟨(w.heap.size + 2), 1, none⟩ = some (.int .i64 py)) (fun w' => Below (((w.alloc (.cells #[.int .i64 ax, .int .i64 ay] 28)).alloc (.cells #[.int .i64 bx, .int .i64 by_] 28)).alloc (.cells #[.int .i64 px, .int .i64 py] 28)).heap.size (((w.alloc (.cells #[.int .i64 ax, .int .i64 ay] 28)).alloc (.cells #[.int .i64 bx, .int .i64 by_] 28)).alloc (.cells #[.int .i64 px, .int .i64 py] 28)) w' ∧ Blk w' p11 28 #[.int .i64 0, .int .i64 0] ∧ Blk w' p10 28 #[.int .i64 0, .int .i64 0] ∧ Blk w' p9 28 #[.int .i64 u1, .int .i64 u2]) := ⟨fun w2 h2 => HK.out w2 h2.1, fun w2 w3 h2 hb => ⟨h2.1.trans (hb.mono h2.1.size), h2.2.1.below hb h2.2.1.lt, h2.2.2.1.below hb h2.2.2.1.lt, h2.2.2.2.below hb h2.2.2.2.lt⟩⟩
        try simp only [Act.put]
        refine grow_each [13] (by kernel_rfl) (by decide) ?_
        refine grow_cons 13 rfl (by kernel_rfl) (fun wA hA K hK => ?_) grow_nil
        have z0 := hA.2.2.1.cell (i := 0) rfl; have z1 := hA.2.2.1.cell (i := 1) rfl; have f0 := hA.2.2.1.frozen 0; have f1 := hA.2.2.1.frozen 1
        go_simp
        refine hK.out _ _ (fun w' => Below (((w.alloc (.cells #[.int .i64 ax, .int .i64 ay] 28)).alloc (.cells #[.int .i64 bx, .int .i64 by_] 28)).alloc (.cells #[.int .i64 px, .int .i64 py] 28)).heap.size (((w.alloc (.cells #[.int .i64 ax, .int .i64 ay] 28)).alloc (.cells #[.int .i64 bx, .int .i64 by_] 28)).alloc (.cells #[.int .i64 px, .int .i64 py] 28)) w' ∧ Blk w' p11 28 #[.int .i64 0, .int .i64 0] ∧ Blk w' p10 28 #[.int .i64 s1, .int .i64 s2] ∧ Blk w' p9 28 #[.int .i64 u1, .int .i64 u2]) ⟨fun w2 h2 => HK.out w2 h2.1, fun w2 w3 h2 hb => ⟨h2.1.trans (hb.mono h2.1.size), h2.2.1.below hb h2.2.1.lt, h2.2.2.1.below hb h2.2.2.1.lt, h2.2.2.2.below hb h2.2.2.2.lt⟩⟩ ⟨(hA.1.setCell (p := ⟨p10, 0, none⟩) le_p10 _).setCell (p := ⟨p10, 1, none⟩) le_p10 _, (hA.2.1.far (p := ⟨p10, 0, none⟩) ne_p11_p10 _).far (p := ⟨p10, 1, none⟩) ne_p11_p10 _, (hA.2.2.1.set 0 _).set 1 _, (hA.2.2.2.far (p := ⟨p10, 0, none⟩) (Ne.symm ne_p10_p9) _).far (p := ⟨p10, 1, none⟩) (Ne.symm ne_p10_p9) _⟩ ?_
        clear z0 z1 f0 f1 hK K hA wA hCalm
        have hCalm : Calm (fun w' => w'.cell? ⟨w.heap.size, 0, none⟩ = some (.int .i64 ax) ∧ w'.cell? ⟨w.heap.size, 1, none⟩ = some (.int .i64 ay) ∧ w'.cell? ⟨(w.heap.size + 1), 0, none⟩ = some (.int .i64 bx) ∧ w'.cell? ⟨(w.heap.size + 1), 1, none⟩ = some (.int .i64 by_) ∧ w'.cell? ⟨(w.heap.size + 2), 0, none⟩ = some (.int .i64 px) ∧ w'.cell? ⟨(w.heap.size + 2), 1, none⟩ = some (.int .i64 py)) (fun w' => Below (((w.alloc (.cells #[.int .i64 ax, .int .i64 ay] 28)).alloc (.cells #[.int .i64 bx, .int .i64 by_] 28)).alloc (.cells #[.int .i64 px, .int .i64 py] 28)).heap.size (((w.alloc (.cells #[.int .i64 ax, .int .i64 ay] 28)).alloc (.cells #[.int .i64 bx, .int .i64 by_] 28)).alloc (.cells #[.int .i64 px, .int .i64 py] 28)) w' ∧ Blk w' p11 28 #[.int .i64 0, .int .i64 0] ∧ Blk w' p10 28 #[.int .i64 s1, .int .i64 s2] ∧ Blk w' p9 28 #[.int .i64 u1, .int .i64 u2]) := ⟨fun w2 h2 => HK.out w2 h2.1, fun w2 w3 h2 hb => ⟨h2.1.trans (hb.mono h2.1.size), h2.2.1.below hb h2.2.1.lt, h2.2.2.1.below hb h2.2.2.1.lt, h2.2.2.2.below hb h2.2.2.2.lt⟩⟩
        try simp only [Act.put]
        refine grow_each [14] (by kernel_rfl) (by decide) ?_
        refine grow_cons 14 rfl (by kernel_rfl) (fun wA hA K hK => ?_) grow_nil
        have z0 := hA.2.1.cell (i := 0) rfl; have z1 := hA.2.1.cell (i := 1) rfl; have f0 := hA.2.1.frozen 0; have f1 := hA.2.1.frozen 1
        go_simp
        refine hK.out _ _ (fun w' => Below (((w.alloc (.cells #[.int .i64 ax, .int .i64 ay] 28)).alloc (.cells #[.int .i64 bx, .int .i64 by_] 28)).alloc (.cells #[.int .i64 px, .int .i64 py] 28)).heap.size (((w.alloc (.cells #[.int .i64 ax, .int .i64 ay] 28)).alloc (.cells #[.int .i64 bx, .int .i64 by_] 28)).alloc (.cells #[.int .i64 px, .int .i64 py] 28)) w' ∧ Blk w' p11 28 #[.int .i64 t1, .int .i64 t2] ∧ Blk w' p10 28 #[.int .i64 s1, .int .i64 s2] ∧ Blk w' p9 28 #[.int .i64 u1, .int .i64 u2]) ⟨fun w2 h2 => HK.out w2 h2.1, fun w2 w3 h2 hb => ⟨h2.1.trans (hb.mono h2.1.size), h2.2.1.below hb h2.2.1.lt, h2.2.2.1.below hb h2.2.2.1.lt, h2.2.2.2.below hb h2.2.2.2.lt⟩⟩ ⟨(hA.1.setCell (p := ⟨p11, 0, none⟩) le_p11 _).setCell (p := ⟨p11, 1, none⟩) le_p11 _, (hA.2.1.set 0 _).set 1 _, (hA.2.2.1.far (p := ⟨p11, 0, none⟩) (Ne.symm ne_p11_p10) _).far (p := ⟨p11, 1, none⟩) (Ne.symm ne_p11_p10) _, (hA.2.2.2.far (p := ⟨p11, 0, none⟩) (Ne.symm ne_p11_p9) _).far (p := ⟨p11, 1, none⟩) (Ne.symm ne_p11_p9) _⟩ ?_
        clear z0 z1 f0 f1 hK K hA wA hCalm
        have hCalm : Calm (fun w' => w'.cell? ⟨w.heap.size, 0, none⟩ = some (.int .i64 ax) ∧ w'.cell? ⟨w.heap.size, 1, none⟩ = some (.int .i64 ay) ∧ w'.cell? ⟨(w.heap.size + 1), 0, none⟩ = some (.int .i64 bx) ∧ w'.cell? ⟨(w.heap.size + 1), 1, none⟩ = some (.int .i64 by_) ∧ w'.cell? ⟨(w.heap.size + 2), 0, none⟩ = some (.int .i64 px) ∧ w'.cell? ⟨(w.heap.size + 2), 1, none⟩ = some (.int .i64 py)) (fun w' => Below (((w.alloc (.cells #[.int .i64 ax, .int .i64 ay] 28)).alloc (.cells #[.int .i64 bx, .int .i64 by_] 28)).alloc (.cells #[.int .i64 px, .int .i64 py] 28)).heap.size (((w.alloc (.cells #[.int .i64 ax, .int .i64 ay] 28)).alloc (.cells #[.int .i64 bx, .int .i64 by_] 28)).alloc (.cells #[.int .i64 px, .int .i64 py] 28)) w' ∧ Blk w' p11 28 #[.int .i64 t1, .int .i64 t2] ∧ Blk w' p10 28 #[.int .i64 s1, .int .i64 s2] ∧ Blk w' p9 28 #[.int .i64 u1, .int .i64 u2]) := ⟨fun w2 h2 => HK.out w2 h2.1, fun w2 w3 h2 hb => ⟨h2.1.trans (hb.mono h2.1.size), h2.2.1.below hb h2.2.1.lt, h2.2.2.1.below hb h2.2.2.1.lt, h2.2.2.2.below hb h2.2.2.2.lt⟩⟩
        try simp only [Act.put]
        refine grow_done (by kernel_rfl) (fun wA hA => ?_) _
        go_wp2_with fail
        go_meet
        exact ⟨p9, p10, p11, rfl, rfl, rfl, hA.2.2.2, hA.2.2.1, hA.2.1, hA.1⟩
      exact grow_nil
    exact grow_nil
  case rest =>
    obtain ⟨p9, p10, p11, rfl, rfl, rfl, k9, k10, k11, hb⟩ := hcut
    rename World => wc
    have K9_0 := Lib.hid k9; have K10_0 := Lib.hid k10; have K11_0 := Lib.hid k11; clear k9 k10 k11
    have HB1_0 := Lib.hid (HB_0.out.trans (hb.mono HB_0.out.size)); clear hb HB_0 A_0 B_0 P_0; have HB_0 := HB1_0; clear HB1_0
    have em2 := HEM.out
    by_cases h1 : D ≤ 0
    case pos =>
      have HR := Lib.hid (HNF.out.1 h1)
      have yy0 := K9_0.out.cell (i := 0) (v := .int .i64 u1) rfl; have yy1 := K9_0.out.cell (i := 1) (v := .int .i64 u2) rfl
      have yy2 := K10_0.out.cell (i := 0) (v := .int .i64 s1) rfl; have yy3 := K10_0.out.cell (i := 1) (v := .int .i64 s2) rfl
      go_wp2_with fail
      refine (HA1.out _).mono ?_
      rintro e v0 ⟨rfl, hb⟩
      clear yy0 yy1 yy2 yy3
      have K9_1 : Hid (Blk v0 p9 28 #[.int .i64 u1, .int .i64 u2]) := Lib.hid (K9_0.out.below hb K9_0.out.lt)
      have K10_1 : Hid (Blk v0 p10 28 #[.int .i64 s1, .int .i64 s2]) := Lib.hid (K10_0.out.below hb K10_0.out.lt)
      have K11_1 : Hid (Blk v0 p11 28 #[.int .i64 t1, .int .i64 t2]) := Lib.hid (K11_0.out.below hb K11_0.out.lt)
      have HB_1 : Hid (Below w.heap.size w v0) := Lib.hid (HB_0.out.trans (hb.mono HB_0.out.size))
      clear hb K9_0 K10_0 K11_0 HB_0
      have yy0 := K10_1.out.cell (i := 0) (v := .int .i64 s1) rfl; have yy1 := K10_1.out.cell (i := 1) (v := .int .i64 s2) rfl
      go_wp2_with fail
      refine (HA2.out _).mono ?_
      rintro e v1 ⟨rfl, hb⟩
      clear yy0 yy1
      have K9_2 : Hid (Blk v1 p9 28 #[.int .i64 u1, .int .i64 u2]) := Lib.hid (K9_1.out.below hb K9_1.out.lt)
      have K10_2 : Hid (Blk v1 p10 28 #[.int .i64 s1, .int .i64 s2]) := Lib.hid (K10_1.out.below hb K10_1.out.lt)
      have K11_2 : Hid (Blk v1 p11 28 #[.int .i64 t1, .int .i64 t2]) := Lib.hid (K11_1.out.below hb K11_1.out.lt)
      have HB_2 : Hid (Below w.heap.size w v1) := Lib.hid (HB_1.out.trans (hb.mono HB_1.out.size))
      clear hb K9_1 K10_1 K11_1 HB_1
      go_wp2_with fail
      go_ret
      exact ⟨by rw [decide_eq_decide.2 HR.out]; rfl, HB_2.out⟩
    case neg =>
      by_cases h2 : 0 ≤ E
      case pos =>
        have HR := Lib.hid (HNF.out.2.1 h2)
        have yy0 := K9_0.out.cell (i := 0) (v := .int .i64 u1) rfl; have yy1 := K9_0.out.cell (i := 1) (v := .int .i64 u2) rfl
        have yy2 := K10_0.out.cell (i := 0) (v := .int .i64 s1) rfl; have yy3 := K10_0.out.cell (i := 1) (v := .int .i64 s2) rfl
        go_wp2_with fail
        refine (HA1.out _).mono ?_
        rintro e v0 ⟨rfl, hb⟩
        clear yy0 yy1 yy2 yy3
        have K9_1 : Hid (Blk v0 p9 28 #[.int .i64 u1, .int .i64 u2]) := Lib.hid (K9_0.out.below hb K9_0.out.lt)
        have K10_1 : Hid (Blk v0 p10 28 #[.int .i64 s1, .int .i64 s2]) := Lib.hid (K10_0.out.below hb K10_0.out.lt)
        have K11_1 : Hid (Blk v0 p11 28 #[.int .i64 t1, .int .i64 t2]) := Lib.hid (K11_0.out.below hb K11_0.out.lt)
        have HB_1 : Hid (Below w.heap.size w v0) := Lib.hid (HB_0.out.trans (hb.mono HB_0.out.size))
        clear hb K9_0 K10_0 K11_0 HB_0
        have yy0 := K9_1.out.cell (i := 0) (v := .int .i64 u1) rfl; have yy1 := K9_1.out.cell (i := 1) (v := .int .i64 u2) rfl
        have yy2 := K11_1.out.cell (i := 0) (v := .int .i64 t1) rfl; have yy3 := K11_1.out.cell (i := 1) (v := .int .i64 t2) rfl
        go_wp2_with fail
        refine (HA3.out _).mono ?_
        rintro e v1 ⟨rfl, hb⟩
        clear yy0 yy1 yy2 yy3
        have K9_2 : Hid (Blk v1 p9 28 #[.int .i64 u1, .int .i64 u2]) := Lib.hid (K9_1.out.below hb K9_1.out.lt)
        have K10_2 : Hid (Blk v1 p10 28 #[.int .i64 s1, .int .i64 s2]) := Lib.hid (K10_1.out.below hb K10_1.out.lt)
        have K11_2 : Hid (Blk v1 p11 28 #[.int .i64 t1, .int .i64 t2]) := Lib.hid (K11_1.out.below hb K11_1.out.lt)
        have HB_2 : Hid (Below w.heap.size w v1) := Lib.hid (HB_1.out.trans (hb.mono HB_1.out.size))
        clear hb K9_1 K10_1 K11_1 HB_1
        have yy0 := K11_2.out.cell (i := 0) (v := .int .i64 t1) rfl; have yy1 := K11_2.out.cell (i := 1) (v := .int .i64 t2) rfl
        go_wp2_with fail
        refine (HA4.out _).mono ?_
        rintro e v2 ⟨rfl, hb⟩
        clear yy0 yy1
        have K9_3 : Hid (Blk v2 p9 28 #[.int .i64 u1, .int .i64 u2]) := Lib.hid (K9_2.out.below hb K9_2.out.lt)
        have K10_3 : Hid (Blk v2 p10 28 #[.int .i64 s1, .int .i64 s2]) := Lib.hid (K10_2.out.below hb K10_2.out.lt)
        have K11_3 : Hid (Blk v2 p11 28 #[.int .i64 t1, .int .i64 t2]) := Lib.hid (K11_2.out.below hb K11_2.out.lt)
        have HB_3 : Hid (Below w.heap.size w v2) := Lib.hid (HB_2.out.trans (hb.mono HB_2.out.size))
        clear hb K9_2 K10_2 K11_2 HB_2
        go_wp2_with fail
        go_ret
        exact ⟨by rw [decide_eq_decide.2 HR.out]; rfl, HB_3.out⟩
      case neg =>
        have HR := Lib.hid (HNF.out.2.2 (by omega) (by omega)); obtain ⟨e8, e9⟩ := HE.out
        have yy0 := K9_0.out.cell (i := 0) (v := .int .i64 u1) rfl; have yy1 := K9_0.out.cell (i := 1) (v := .int .i64 u2) rfl
        have yy2 := K10_0.out.cell (i := 0) (v := .int .i64 s1) rfl; have yy3 := K10_0.out.cell (i := 1) (v := .int .i64 s2) rfl
        go_wp2_with fail
        refine (HA1.out _).mono ?_
        rintro e v0 ⟨rfl, hb⟩
        clear yy0 yy1 yy2 yy3
        have K9_1 : Hid (Blk v0 p9 28 #[.int .i64 u1, .int .i64 u2]) := Lib.hid (K9_0.out.below hb K9_0.out.lt)
        have K10_1 : Hid (Blk v0 p10 28 #[.int .i64 s1, .int .i64 s2]) := Lib.hid (K10_0.out.below hb K10_0.out.lt)
        have K11_1 : Hid (Blk v0 p11 28 #[.int .i64 t1, .int .i64 t2]) := Lib.hid (K11_0.out.below hb K11_0.out.lt)
        have HB_1 : Hid (Below w.heap.size w v0) := Lib.hid (HB_0.out.trans (hb.mono HB_0.out.size))
        clear hb K9_0 K10_0 K11_0 HB_0
        have yy0 := K9_1.out.cell (i := 0) (v := .int .i64 u1) rfl; have yy1 := K9_1.out.cell (i := 1) (v := .int .i64 u2) rfl
        have yy2 := K11_1.out.cell (i := 0) (v := .int .i64 t1) rfl; have yy3 := K11_1.out.cell (i := 1) (v := .int .i64 t2) rfl
        go_wp2_with fail
        refine (HA3.out _).mono ?_
        rintro e v1 ⟨rfl, hb⟩
        clear yy0 yy1 yy2 yy3
        have K9_2 : Hid (Blk v1 p9 28 #[.int .i64 u1, .int .i64 u2]) := Lib.hid (K9_1.out.below hb K9_1.out.lt)
        have K10_2 : Hid (Blk v1 p10 28 #[.int .i64 s1, .int .i64 s2]) := Lib.hid (K10_1.out.below hb K10_1.out.lt)
        have K11_2 : Hid (Blk v1 p11 28 #[.int .i64 t1, .int .i64 t2]) := Lib.hid (K11_1.out.below hb K11_1.out.lt)
        have HB_2 : Hid (Below w.heap.size w v1) := Lib.hid (HB_1.out.trans (hb.mono HB_1.out.size))
        clear hb K9_1 K10_1 K11_1 HB_1
        have yy0 := K9_2.out.cell (i := 0) (v := .int .i64 u1) rfl; have yy1 := K9_2.out.cell (i := 1) (v := .int .i64 u2) rfl
        have yy2 := K10_2.out.cell (i := 0) (v := .int .i64 s1) rfl; have yy3 := K10_2.out.cell (i := 1) (v := .int .i64 s2) rfl
        go_wp2_with fail
        refine (HA5.out _).mono ?_
        rintro e v2 ⟨rfl, hb⟩
        clear yy0 yy1 yy2 yy3
        have K9_3 : Hid (Blk v2 p9 28 #[.int .i64 u1, .int .i64 u2]) := Lib.hid (K9_2.out.below hb K9_2.out.lt)
        have K10_3 : Hid (Blk v2 p10 28 #[.int .i64 s1, .int .i64 s2]) := Lib.hid (K10_2.out.below hb K10_2.out.lt)
        have K11_3 : Hid (Blk v2 p11 28 #[.int .i64 t1, .int .i64 t2]) := Lib.hid (K11_2.out.below hb K11_2.out.lt)
        have HB_3 : Hid (Below w.heap.size w v2) := Lib.hid (HB_2.out.trans (hb.mono HB_2.out.size))
        clear hb K9_2 K10_2 K11_2 HB_2
        have yy0 := K9_3.out.cell (i := 0) (v := .int .i64 u1) rfl; have yy1 := K9_3.out.cell (i := 1) (v := .int .i64 u2) rfl
        go_wp2_with fail
        refine (HA6.out _).mono ?_
        rintro e v3 ⟨rfl, hb⟩
        clear yy0 yy1
        have K9_4 : Hid (Blk v3 p9 28 #[.int .i64 u1, .int .i64 u2]) := Lib.hid (K9_3.out.below hb K9_3.out.lt)
        have K10_4 : Hid (Blk v3 p10 28 #[.int .i64 s1, .int .i64 s2]) := Lib.hid (K10_3.out.below hb K10_3.out.lt)
        have K11_4 : Hid (Blk v3 p11 28 #[.int .i64 t1, .int .i64 t2]) := Lib.hid (K11_3.out.below hb K11_3.out.lt)
        have HB_4 : Hid (Below w.heap.size w v3) := Lib.hid (HB_3.out.trans (hb.mono HB_3.out.size))
        clear hb K9_3 K10_3 K11_3 HB_3
        go_wp2_with fail
        go_ret
        exact ⟨by rw [decide_eq_decide.2 HR.out]; rfl, HB_4.out⟩
end Go.Proofs.YtmjcjaecaigahaaDoor
namespace Go.Proofs.YtmjcjaecaigahaaDoor
open Go.RowKit Go.Lib Go.Shelf

set_option maxRecDepth 100000 in
set_option maxHeartbeats 8000000 in
theorem psays_any (ds : List Dt) (A : Option Addr) (c : Nat) (z : Int) (w : World) (hA : Dz w A ds) (hl : 2 ≤ ds.length ∧ ds.length ≤ 200) (hc : ds.length ≤ c) (hon : ∀ d ∈ ds, OnP d.x d.y) (hz : 0 ≤ z ∧ z ≤ 1000) :
    Calls Tryd.prog 99 #[.slice A ds.length c, .int .i64 z] w fun e w' => e = .returned (.bool (decide (BetwP ds z 0 (ds.length - 1)))) ∧ Below w.heap.size w w' := by
  obtain ⟨b, o, rfl⟩ := hA.some (by omega)
  have HAT := Lib.hid hA.at
  obtain ⟨f, hf⟩ : ∃ f, f = ds[0]'(by omega) := ⟨_, rfl⟩
  obtain ⟨l, hll⟩ : ∃ l, l = ds[ds.length - 1]'(by omega) := ⟨_, rfl⟩
  have HF : Hid (∀ W, Below w.heap.size w W → W.cell? ⟨b, o, none⟩ = some (.int .i64 f.x) ∧ W.cell? ⟨b, o + 1, none⟩ = some (.int .i64 f.y) ∧ W.cell? ⟨b, o + 2, none⟩ = some (.int .i64 f.t) ∧ W.cell? ⟨b, o + 3, none⟩ = some (.int .i64 f.p)) := Lib.hid (fun W hb => by
    have h9 := HAT.out W hb 0 (by omega)
    rw [← hf] at h9
    simpa using h9)
  have HLS : Hid (∀ W, Below w.heap.size w W → W.cell? ⟨b, o + (ds.length - 1) * 4, none⟩ = some (.int .i64 l.x) ∧ W.cell? ⟨b, o + (ds.length - 1) * 4 + 1, none⟩ = some (.int .i64 l.y) ∧ W.cell? ⟨b, o + (ds.length - 1) * 4 + 2, none⟩ = some (.int .i64 l.t) ∧ W.cell? ⟨b, o + (ds.length - 1) * 4 + 3, none⟩ = some (.int .i64 l.p)) := Lib.hid (fun W hb => by
    have h9 := HAT.out W hb (ds.length - 1) (by omega)
    rw [← hll] at h9
    exact h9)
  have HON := Lib.hid hon; have HZ := Lib.hid hz; have HL := Lib.hid hl
  have HFO : Hid (OnP f.x f.y ∧ OnP l.x l.y) := Lib.hid ⟨by rw [hf]; exact hon _ (List.getElem_mem _), by rw [hll]; exact hon _ (List.getElem_mem _)⟩
  have HP1 := Lib.hid (fun W => pplace_any f.x f.y f.t f.p W); have HP2 := Lib.hid (fun W => pplace_any l.x l.y l.t l.p W)
  have HSP : Hid (∀ v, (v = true ↔ ∀ (n : Nat) (d : Dt), 0 < n → n < ds.length - 1 → ds[n]? = some d → NearP f.x f.y l.x l.y d.x d.y z) → decide (BetwP ds z 0 (ds.length - 1)) = v) := Lib.hid (fun v hv => by
    have h9 : BetwP ds z 0 (ds.length - 1) ↔ ∀ (n : Nat) (d : Dt), 0 < n → n < ds.length - 1 → ds[n]? = some d → NearP f.x f.y l.x l.y d.x d.y z := ⟨fun h n d h1 h2 h3 => h n h1 h2 f l d (by rw [hf]; exact List.getElem?_eq_getElem _) (by rw [hll]; exact List.getElem?_eq_getElem _) h3, fun h n h1 h2 a e d ha he hd => by
      rw [List.getElem?_eq_getElem (by omega), Option.some.injEq, ← hf] at ha
      rw [List.getElem?_eq_getElem (by omega), Option.some.injEq, ← hll] at he
      subst ha; subst he
      exact h n d h1 h2 hd⟩
    cases v with
    | true => exact decide_eq_true (h9.2 (hv.1 rfl))
    | false => exact decide_eq_false fun h => by cases hv.2 (h9.1 h))
  have e1 : IntKind.i64.wrap ((ds.length : Int) - 1) = ((ds.length - 1 : Nat) : Int) := by rw [IntWalk.i64_in _ (by omega)]; omega
  have q1 : (1 : Int) ≤ ((ds.length - 1 : Nat) : Int) := by omega
  have q2 : ((ds.length - 1 : Nat) : Int) ≤ (c : Int) := by omega
  have q3 : (0 : Int) ≤ ((ds.length - 1 : Nat) : Int) := by omega
  have hc1 : ¬ c = 1 := by omega
  have HCC := Lib.hid hc
  clear hA hl hc hon hz hf hll
  go_enter Tryd.func99, Tryd.ntmps99
  go_wp2_with fail
  clear e1 q1 q2 hc1
  go_loopw [15] (fun ii wr => ∃ j : Nat, ii = .int .i64 j ∧ j ≤ ds.length - 1 - 1 ∧ (∀ (n : Nat) (d : Dt), 0 < n → n < j + 1 → ds[n]? = some d → NearP f.x f.y l.x l.y d.x d.y z) ∧ Below w.heap.size w wr) (fun ii _ => ds.length - 1 - 1 - (intOf ii).toNat)
  case atStart => exact ⟨0, rfl, Nat.zero_le _, fun n d h1 h2 => absurd h2 (by omega), Below.refl _ _⟩
  case round =>
    obtain ⟨j, rfl, hj, hall, hB⟩ := hrel
    have HB_7 := Lib.hid hB; have HALL := Lib.hid hall; clear hB hall
    by_cases hlt : j < ds.length - 1 - 1
    case neg =>
      have HR := Lib.hid (HSP.out true ⟨fun _ n d h1 h2 h3 => HALL.out n d h1 (by omega) h3, fun _ => rfl⟩)
      clear hj q3
      go_wp2_with fail
      go_ret
      exact ⟨by rw [HR.out]; rfl, HB_7.out⟩
    case pos =>
      have hjl : j + 1 < ds.length := by omega
      obtain ⟨d, hd⟩ : ∃ d, d = ds[j + 1] := ⟨_, rfl⟩
      have hk := HAT.out wr HB_7.out (j + 1) hjl
      rw [← hd, show o + (j + 1) * 4 = o + 4 + j * 4 from by omega] at hk
      have HDJ : Hid (ds[j + 1]? = some d) := Lib.hid (by rw [hd]; exact List.getElem?_eq_getElem _)
      have HDO : Hid (OnP d.x d.y) := Lib.hid (by rw [hd]; exact HON.out _ (List.getElem_mem _))
      have HP3 := Lib.hid (fun W => pplace_any d.x d.y d.t d.p W)
      have HLT := Lib.hid hlt
      have r1 : (0 : Int) ≤ (j : Int) := by omega
      have r2 : (j : Int) < ((ds.length - 1 - 1 : Nat) : Int) := by omega
      have r3 : ((ds.length - 1 : Nat) : Int) < (ds.length : Int) := by omega
      have r4 : 0 < ds.length := by omega
      have r5 : (0 : Int) < (ds.length : Int) := by omega
      have r6 : (j : Int) + 1 ≤ 9223372036854775807 := by have := HL.out; omega
      clear hd hjl hlt hj
      obtain ⟨k0, k1, k2, k3⟩ := hk
      have D_8 : Hid (Blk (wr.alloc (.cells #[.int .i64 d.x, .int .i64 d.y, .int .i64 d.t, .int .i64 d.p] 69)) wr.heap.size 69 #[.int .i64 d.x, .int .i64 d.y, .int .i64 d.t, .int .i64 d.p]) := Lib.hid (Blk.new wr _ _); have HB_8 : Hid (Below w.heap.size w (wr.alloc (.cells #[.int .i64 d.x, .int .i64 d.y, .int .i64 d.t, .int .i64 d.p] 69))) := Lib.hid (HB_7.out.alloc HB_7.out.size _)
      clear HB_7
      go_wp2_with fail
      clear k0 k1 k2 k3
      by_cases hn : NearP f.x f.y l.x l.y d.x d.y z
      case pos =>
        have hni := fun W => pisnear_any f.x f.y l.x l.y d.x d.y z W HFO.out.1 HFO.out.2 HDO.out HZ.out; simp only [decide_eq_true hn] at hni; have HNI := Lib.hid hni; have HN := Lib.hid hn; clear hni hn
        refine wp_region_grow (S := (fun w' => w'.cell? ⟨wr.heap.size, 0, none⟩ = some (.int .i64 d.x) ∧ w'.cell? ⟨wr.heap.size, 1, none⟩ = some (.int .i64 d.y) ∧ w'.cell? ⟨wr.heap.size, 2, none⟩ = some (.int .i64 d.t) ∧ w'.cell? ⟨wr.heap.size, 3, none⟩ = some (.int .i64 d.p) ∧ w'.cell? ⟨b, o, none⟩ = some (.int .i64 f.x) ∧ w'.cell? ⟨b, o + 1, none⟩ = some (.int .i64 f.y) ∧ w'.cell? ⟨b, o + 2, none⟩ = some (.int .i64 f.t) ∧ w'.cell? ⟨b, o + 3, none⟩ = some (.int .i64 f.p) ∧ w'.cell? ⟨b, o + (ds.length - 1) * 4, none⟩ = some (.int .i64 l.x) ∧ w'.cell? ⟨b, o + (ds.length - 1) * 4 + 1, none⟩ = some (.int .i64 l.y) ∧ w'.cell? ⟨b, o + (ds.length - 1) * 4 + 2, none⟩ = some (.int .i64 l.t) ∧ w'.cell? ⟨b, o + (ds.length - 1) * 4 + 3, none⟩ = some (.int .i64 l.p))) ((fun w' => Below w.heap.size w w' ∧ Blk w' wr.heap.size 69 #[.int .i64 d.x, .int .i64 d.y, .int .i64 d.t, .int .i64 d.p])) (by kernel_rfl) (⟨fun w2 h2 => ⟨(h2.2.cell (i := 0) rfl), (h2.2.cell (i := 1) rfl), (h2.2.cell (i := 2) rfl), (h2.2.cell (i := 3) rfl), (HF.out w2 h2.1).1, (HF.out w2 h2.1).2.1, (HF.out w2 h2.1).2.2.1, (HF.out w2 h2.1).2.2.2, (HLS.out w2 h2.1).1, (HLS.out w2 h2.1).2.1, (HLS.out w2 h2.1).2.2.1, (HLS.out w2 h2.1).2.2.2⟩, fun w2 w3 h2 hb2 => ⟨h2.1.trans (hb2.mono h2.1.size), h2.2.below hb2 h2.2.lt⟩⟩) (⟨HB_8.out.drew, D_8.out.drew⟩) (fun hCalm => ?_)
        refine grow_take 0 (some 19) ?_ rfl rfl (by kernel_rfl) (fun _ _ _ h => h) (by kernel_rfl) hCalm ?_ ?_
        rotate_left
        · intro wS hS; (try dsimp only at hS); go_simp <;> with_reducible rfl
        try simp only [Act.put, List.setIfInBounds_toArray, List.set_cons_zero, List.set_cons_succ]
        refine grow_take 1 (some 20) ?_ rfl rfl (by kernel_rfl) (fun _ _ _ h => h) (by kernel_rfl) hCalm ?_ ?_
        rotate_left
        · intro wS hS; (try dsimp only at hS); go_simp <;> with_reducible rfl
        try simp only [Act.put, List.setIfInBounds_toArray, List.set_cons_zero, List.set_cons_succ]
        refine grow_take 2 (some 21) ?_ rfl rfl (by kernel_rfl) (fun _ _ _ h => h) (by kernel_rfl) hCalm ?_ ?_
        rotate_left
        · intro wS hS; (try dsimp only at hS); go_simp <;> with_reducible rfl
        try simp only [Act.put, List.setIfInBounds_toArray, List.set_cons_zero, List.set_cons_succ]
        refine grow_call 3 (some 22) (.agg #[.int .i64 f.x, .int .i64 f.y]) 69 [.tmp 21] #[69] rfl rfl (by kernel_rfl) (fun _ _ _ h => h) (by kernel_rfl) hCalm rfl (enters_of Tryd.func69 (by kernel_rfl) rfl) (fun wz _ => HP1.out wz) (by kernel_rfl) ?_
        try simp only [Act.put, List.setIfInBounds_toArray, List.set_cons_zero, List.set_cons_succ]
        refine grow_take 4 (some 23) ?_ rfl rfl (by kernel_rfl) (fun _ _ _ h => h) (by kernel_rfl) hCalm ?_ ?_
        rotate_left
        · intro wS hS; (try dsimp only at hS); go_simp <;> with_reducible rfl
        try simp only [Act.put, List.setIfInBounds_toArray, List.set_cons_zero, List.set_cons_succ]
        refine grow_take 5 (some 24) ?_ rfl rfl (by kernel_rfl) (fun _ _ _ h => h) (by kernel_rfl) hCalm ?_ ?_
        rotate_left
        · intro wS hS; (try dsimp only at hS); go_simp <;> with_reducible rfl
        try simp only [Act.put, List.setIfInBounds_toArray, List.set_cons_zero, List.set_cons_succ]
        refine grow_take 6 (some 25) ?_ rfl rfl (by kernel_rfl) (fun _ _ _ h => h) (by kernel_rfl) hCalm ?_ ?_
        rotate_left
        · intro wS hS; (try dsimp only at hS); go_simp <;> with_reducible rfl
        try simp only [Act.put, List.setIfInBounds_toArray, List.set_cons_zero, List.set_cons_succ]
        refine grow_take 7 (some 26) ?_ rfl rfl (by kernel_rfl) (fun _ _ _ h => h) (by kernel_rfl) hCalm ?_ ?_
        rotate_left
        · intro wS hS; (try dsimp only at hS); go_simp <;> with_reducible rfl
        try simp only [Act.put, List.setIfInBounds_toArray, List.set_cons_zero, List.set_cons_succ]
        refine grow_call 8 (some 27) (.agg #[.int .i64 l.x, .int .i64 l.y]) 69 [.tmp 26] #[69] rfl rfl (by kernel_rfl) (fun _ _ _ h => h) (by kernel_rfl) hCalm rfl (enters_of Tryd.func69 (by kernel_rfl) rfl) (fun wz _ => HP2.out wz) (by kernel_rfl) ?_
        try simp only [Act.put, List.setIfInBounds_toArray, List.set_cons_zero, List.set_cons_succ]
        refine grow_take 9 (some 28) ?_ rfl rfl (by kernel_rfl) (fun _ _ _ h => h) (by kernel_rfl) hCalm ?_ ?_
        rotate_left
        · intro wS hS; (try dsimp only at hS); go_simp <;> with_reducible rfl
        try simp only [Act.put, List.setIfInBounds_toArray, List.set_cons_zero, List.set_cons_succ]
        refine grow_call 10 (some 29) (.agg #[.int .i64 d.x, .int .i64 d.y]) 69 [.tmp 28] #[69] rfl rfl (by kernel_rfl) (fun _ _ _ h => h) (by kernel_rfl) hCalm rfl (enters_of Tryd.func69 (by kernel_rfl) rfl) (fun wz _ => HP3.out wz) (by kernel_rfl) ?_
        try simp only [Act.put, List.setIfInBounds_toArray, List.set_cons_zero, List.set_cons_succ]
        refine grow_take 11 (some 30) ?_ rfl rfl (by kernel_rfl) (fun _ _ _ h => h) (by kernel_rfl) hCalm ?_ ?_
        rotate_left
        · intro wS hS; (try dsimp only at hS); go_simp <;> with_reducible rfl
        try simp only [Act.put, List.setIfInBounds_toArray, List.set_cons_zero, List.set_cons_succ]
        refine grow_call 12 (some 31) (.bool true) 101 [.tmp 22, .tmp 27, .tmp 29, .tmp 30] #[28, 28, 28, 3] rfl rfl (by kernel_rfl) (fun _ _ _ h => h) (by kernel_rfl) hCalm rfl (enters_of Tryd.func101 (by kernel_rfl) rfl) (fun wz _ => HNI.out wz) (by kernel_rfl) ?_
        try simp only [Act.put, List.setIfInBounds_toArray, List.set_cons_zero, List.set_cons_succ]
        refine grow_take 13 (some 32) ?_ rfl rfl (by kernel_rfl) (fun _ _ _ h => h) (by kernel_rfl) hCalm ?_ ?_
        rotate_left
        · intro wS hS; (try dsimp only at hS); go_simp <;> with_reducible rfl
        try simp only [Act.put, List.setIfInBounds_toArray, List.set_cons_zero, List.set_cons_succ]
        refine grow_done (by kernel_rfl) (fun wA hA => ?_) _
        go_wp2_with fail
        go_roundw
        case rel => exact ⟨j + 1, by go_num, by have := HLT.out; omega, fun n e h1 h2 h3 => by
          by_cases hnj : n = j + 1
          · rw [hnj, HDJ.out, Option.some.injEq] at h3; rw [← h3]; exact HN.out
          · exact HALL.out n e h1 (by omega) h3, hA.1⟩
        case measure => have := HLT.out; simp [intOf]; omega
      case neg =>
        have hni := fun W => pisnear_any f.x f.y l.x l.y d.x d.y z W HFO.out.1 HFO.out.2 HDO.out HZ.out; simp only [decide_eq_false hn] at hni; have HNI := Lib.hid hni; have HN := Lib.hid hn; clear hni hn
        refine wp_region_grow (S := (fun w' => w'.cell? ⟨wr.heap.size, 0, none⟩ = some (.int .i64 d.x) ∧ w'.cell? ⟨wr.heap.size, 1, none⟩ = some (.int .i64 d.y) ∧ w'.cell? ⟨wr.heap.size, 2, none⟩ = some (.int .i64 d.t) ∧ w'.cell? ⟨wr.heap.size, 3, none⟩ = some (.int .i64 d.p) ∧ w'.cell? ⟨b, o, none⟩ = some (.int .i64 f.x) ∧ w'.cell? ⟨b, o + 1, none⟩ = some (.int .i64 f.y) ∧ w'.cell? ⟨b, o + 2, none⟩ = some (.int .i64 f.t) ∧ w'.cell? ⟨b, o + 3, none⟩ = some (.int .i64 f.p) ∧ w'.cell? ⟨b, o + (ds.length - 1) * 4, none⟩ = some (.int .i64 l.x) ∧ w'.cell? ⟨b, o + (ds.length - 1) * 4 + 1, none⟩ = some (.int .i64 l.y) ∧ w'.cell? ⟨b, o + (ds.length - 1) * 4 + 2, none⟩ = some (.int .i64 l.t) ∧ w'.cell? ⟨b, o + (ds.length - 1) * 4 + 3, none⟩ = some (.int .i64 l.p))) ((fun w' => Below w.heap.size w w' ∧ Blk w' wr.heap.size 69 #[.int .i64 d.x, .int .i64 d.y, .int .i64 d.t, .int .i64 d.p])) (by kernel_rfl) (⟨fun w2 h2 => ⟨(h2.2.cell (i := 0) rfl), (h2.2.cell (i := 1) rfl), (h2.2.cell (i := 2) rfl), (h2.2.cell (i := 3) rfl), (HF.out w2 h2.1).1, (HF.out w2 h2.1).2.1, (HF.out w2 h2.1).2.2.1, (HF.out w2 h2.1).2.2.2, (HLS.out w2 h2.1).1, (HLS.out w2 h2.1).2.1, (HLS.out w2 h2.1).2.2.1, (HLS.out w2 h2.1).2.2.2⟩, fun w2 w3 h2 hb2 => ⟨h2.1.trans (hb2.mono h2.1.size), h2.2.below hb2 h2.2.lt⟩⟩) (⟨HB_8.out.drew, D_8.out.drew⟩) (fun hCalm => ?_)
        refine grow_take 0 (some 19) ?_ rfl rfl (by kernel_rfl) (fun _ _ _ h => h) (by kernel_rfl) hCalm ?_ ?_
        rotate_left
        · intro wS hS; (try dsimp only at hS); go_simp <;> with_reducible rfl
        try simp only [Act.put, List.setIfInBounds_toArray, List.set_cons_zero, List.set_cons_succ]
        refine grow_take 1 (some 20) ?_ rfl rfl (by kernel_rfl) (fun _ _ _ h => h) (by kernel_rfl) hCalm ?_ ?_
        rotate_left
        · intro wS hS; (try dsimp only at hS); go_simp <;> with_reducible rfl
        try simp only [Act.put, List.setIfInBounds_toArray, List.set_cons_zero, List.set_cons_succ]
        refine grow_take 2 (some 21) ?_ rfl rfl (by kernel_rfl) (fun _ _ _ h => h) (by kernel_rfl) hCalm ?_ ?_
        rotate_left
        · intro wS hS; (try dsimp only at hS); go_simp <;> with_reducible rfl
        try simp only [Act.put, List.setIfInBounds_toArray, List.set_cons_zero, List.set_cons_succ]
        refine grow_call 3 (some 22) (.agg #[.int .i64 f.x, .int .i64 f.y]) 69 [.tmp 21] #[69] rfl rfl (by kernel_rfl) (fun _ _ _ h => h) (by kernel_rfl) hCalm rfl (enters_of Tryd.func69 (by kernel_rfl) rfl) (fun wz _ => HP1.out wz) (by kernel_rfl) ?_
        try simp only [Act.put, List.setIfInBounds_toArray, List.set_cons_zero, List.set_cons_succ]
        refine grow_take 4 (some 23) ?_ rfl rfl (by kernel_rfl) (fun _ _ _ h => h) (by kernel_rfl) hCalm ?_ ?_
        rotate_left
        · intro wS hS; (try dsimp only at hS); go_simp <;> with_reducible rfl
        try simp only [Act.put, List.setIfInBounds_toArray, List.set_cons_zero, List.set_cons_succ]
        refine grow_take 5 (some 24) ?_ rfl rfl (by kernel_rfl) (fun _ _ _ h => h) (by kernel_rfl) hCalm ?_ ?_
        rotate_left
        · intro wS hS; (try dsimp only at hS); go_simp <;> with_reducible rfl
        try simp only [Act.put, List.setIfInBounds_toArray, List.set_cons_zero, List.set_cons_succ]
        refine grow_take 6 (some 25) ?_ rfl rfl (by kernel_rfl) (fun _ _ _ h => h) (by kernel_rfl) hCalm ?_ ?_
        rotate_left
        · intro wS hS; (try dsimp only at hS); go_simp <;> with_reducible rfl
        try simp only [Act.put, List.setIfInBounds_toArray, List.set_cons_zero, List.set_cons_succ]
        refine grow_take 7 (some 26) ?_ rfl rfl (by kernel_rfl) (fun _ _ _ h => h) (by kernel_rfl) hCalm ?_ ?_
        rotate_left
        · intro wS hS; (try dsimp only at hS); go_simp <;> with_reducible rfl
        try simp only [Act.put, List.setIfInBounds_toArray, List.set_cons_zero, List.set_cons_succ]
        refine grow_call 8 (some 27) (.agg #[.int .i64 l.x, .int .i64 l.y]) 69 [.tmp 26] #[69] rfl rfl (by kernel_rfl) (fun _ _ _ h => h) (by kernel_rfl) hCalm rfl (enters_of Tryd.func69 (by kernel_rfl) rfl) (fun wz _ => HP2.out wz) (by kernel_rfl) ?_
        try simp only [Act.put, List.setIfInBounds_toArray, List.set_cons_zero, List.set_cons_succ]
        refine grow_take 9 (some 28) ?_ rfl rfl (by kernel_rfl) (fun _ _ _ h => h) (by kernel_rfl) hCalm ?_ ?_
        rotate_left
        · intro wS hS; (try dsimp only at hS); go_simp <;> with_reducible rfl
        try simp only [Act.put, List.setIfInBounds_toArray, List.set_cons_zero, List.set_cons_succ]
        refine grow_call 10 (some 29) (.agg #[.int .i64 d.x, .int .i64 d.y]) 69 [.tmp 28] #[69] rfl rfl (by kernel_rfl) (fun _ _ _ h => h) (by kernel_rfl) hCalm rfl (enters_of Tryd.func69 (by kernel_rfl) rfl) (fun wz _ => HP3.out wz) (by kernel_rfl) ?_
        try simp only [Act.put, List.setIfInBounds_toArray, List.set_cons_zero, List.set_cons_succ]
        refine grow_take 11 (some 30) ?_ rfl rfl (by kernel_rfl) (fun _ _ _ h => h) (by kernel_rfl) hCalm ?_ ?_
        rotate_left
        · intro wS hS; (try dsimp only at hS); go_simp <;> with_reducible rfl
        try simp only [Act.put, List.setIfInBounds_toArray, List.set_cons_zero, List.set_cons_succ]
        refine grow_call 12 (some 31) (.bool false) 101 [.tmp 22, .tmp 27, .tmp 29, .tmp 30] #[28, 28, 28, 3] rfl rfl (by kernel_rfl) (fun _ _ _ h => h) (by kernel_rfl) hCalm rfl (enters_of Tryd.func101 (by kernel_rfl) rfl) (fun wz _ => HNI.out wz) (by kernel_rfl) ?_
        try simp only [Act.put, List.setIfInBounds_toArray, List.set_cons_zero, List.set_cons_succ]
        refine grow_take 13 (some 32) ?_ rfl rfl (by kernel_rfl) (fun _ _ _ h => h) (by kernel_rfl) hCalm ?_ ?_
        rotate_left
        · intro wS hS; (try dsimp only at hS); go_simp <;> with_reducible rfl
        try simp only [Act.put, List.setIfInBounds_toArray, List.set_cons_zero, List.set_cons_succ]
        refine grow_done (by kernel_rfl) (fun wA hA => ?_) _
        have HR := Lib.hid (HSP.out false ⟨fun h => (by cases h), fun h => absurd (h (j + 1) d (by omega) (by have := HLT.out; omega) HDJ.out) HN.out⟩)
        go_wp2_with fail
        go_ret
        exact ⟨by rw [HR.out]; rfl, hA.1⟩
end Go.Proofs.YtmjcjaecaigahaaDoor
