
/- What is near: the direction of the line, a greater tolerance, the ends, the box, level lines, moving and turning. No conditions. -/
import Derived.Test.YtamogfcedkjmcaaNr5
namespace Go.Proofs.Ytamogfcedkjmcaa
open Go.RowKit Go.Lib

theorem sqd_comm (ax ay bx by_ : Int) : sqd ax ay bx by_ = sqd bx by_ ax ay := by unfold sqd; grind
theorem sqd_self (ax ay : Int) : sqd ax ay ax ay = 0 := by unfold sqd; grind
theorem area_swap (ax ay bx by_ px py : Int) : ((ax - bx) * (py - by_) - (ay - by_) * (px - bx)) * ((ax - bx) * (py - by_) - (ay - by_) * (px - bx)) = ((bx - ax) * (py - ay) - (by_ - ay) * (px - ax)) * ((bx - ax) * (py - ay) - (by_ - ay) * (px - ax)) := by grind
theorem NearP.symm {ax ay bx by_ px py z : Int} (h : NearP ax ay bx by_ px py z) : NearP bx by_ ax ay px py z := by
  unfold NearP at h ⊢
  obtain ⟨ha, hb, hp, hz, h⟩ := h
  refine ⟨hb, ha, hp, hz, ?_⟩
  rw [sqd_comm bx by_ ax ay, area_swap]
  rcases h with h | h | ⟨h1, h2⟩
  · exact .inr (.inl h)
  · exact .inl h
  · exact .inr (.inr ⟨by omega, h2⟩)
theorem sq_mono {z y : Int} (h0 : 0 ≤ z) (h : z ≤ y) : z * z ≤ y * y := Int.mul_le_mul h h h0 (by omega)
theorem NearP.mono {ax ay bx by_ px py z y : Int} (h : NearP ax ay bx by_ px py z) (hy : z ≤ y) (hy2 : y ≤ 1000) : NearP ax ay bx by_ px py y := by
  unfold NearP at h ⊢
  obtain ⟨ha, hb, hp, hz, h⟩ := h
  have hq := sq_mono hz.1 hy
  refine ⟨ha, hb, hp, ⟨by omega, hy2⟩, ?_⟩
  rcases h with h | h | ⟨h1, h2⟩
  · exact .inl (by omega)
  · exact .inr (.inl (by omega))
  · exact .inr (.inr ⟨h1, Int.le_trans h2 (Int.mul_le_mul_of_nonneg_right hq (sqd_le ha hb).1)⟩)
theorem nearP_left {ax ay bx by_ z : Int} (ha : OnP ax ay) (hb : OnP bx by_) (hz : 0 ≤ z ∧ z ≤ 1000) : NearP ax ay bx by_ ax ay z := ⟨ha, hb, ha, hz, .inl (by rw [sqd_self]; exact self_mul z)⟩
theorem nearP_right {ax ay bx by_ z : Int} (ha : OnP ax ay) (hb : OnP bx by_) (hz : 0 ≤ z ∧ z ≤ 1000) : NearP ax ay bx by_ bx by_ z := (nearP_left hb ha hz).symm
theorem abs_of_sq {u z : Int} (hz : 0 ≤ z) (h : u * u ≤ z * z) : -z ≤ u ∧ u ≤ z := by
  constructor
  · rcases Int.lt_or_le u (-z) with h1 | h1
    · have h2 : (z + 1) * (z + 1) ≤ (-u) * (-u) := sq_mono (by omega) (by omega)
      have e : (-u) * (-u) = u * u := by grind
      have e2 : (z + 1) * (z + 1) = z * z + 2 * z + 1 := by grind
      omega
    · exact h1
  · rcases Int.lt_or_le z u with h1 | h1
    · have h2 : (z + 1) * (z + 1) ≤ u * u := sq_mono (by omega) (by omega)
      have e2 : (z + 1) * (z + 1) = z * z + 2 * z + 1 := by grind
      omega
    · exact h1
/-- How far the foot is: by how much a place is beyond the box of both ends. -/
theorem foot {u1 u2 v1 v2 z L C : Int} (hz : 0 ≤ z) (hL : L = u1 * u1 + u2 * u2) (hC : C = u1 * v2 - u2 * v1) (hpos : 0 < L) (hcc : C * C ≤ z * z * L) (hd : 0 ≤ u1 * v1 + u2 * v2) (hd2 : u1 * v1 + u2 * v2 ≤ L) :
    (if u1 < 0 then u1 else 0) - z ≤ v1 ∧ v1 ≤ (if u1 < 0 then 0 else u1) + z := by
  obtain ⟨D, hD⟩ : ∃ D, D = u1 * v1 + u2 * v2 := ⟨_, rfl⟩
  rw [← hD] at hd hd2
  have key : L * v1 = D * u1 - C * u2 := by rw [hL, hD, hC]; grind
  have hc2 : (C * u2) * (C * u2) ≤ (z * L) * (z * L) := by
    have h1 : (C * u2) * (C * u2) = (C * C) * (u2 * u2) := by grind
    have h2 : (z * L) * (z * L) = (z * z * L) * L := by grind
    have h3 : u2 * u2 ≤ L := by have := self_mul u1; omega
    rw [h1, h2]
    exact Int.mul_le_mul hcc h3 (self_mul u2) (Int.le_trans (self_mul C) hcc)
  have hzL : 0 ≤ z * L := Int.mul_nonneg hz (by omega)
  have hcb := abs_of_sq hzL hc2
  have hzc : z * L = L * z := Int.mul_comm _ _
  constructor
  · refine Int.le_of_mul_le_mul_left (a := L) ?_ hpos
    by_cases hu : u1 < 0
    · rw [if_pos hu]
      have h1 : L * u1 ≤ D * u1 := Int.mul_le_mul_of_nonpos_right hd2 (by omega)
      have h2 : L * (u1 - z) = L * u1 - L * z := by grind
      omega
    · rw [if_neg hu]
      have h1 : 0 ≤ D * u1 := Int.mul_nonneg hd (by omega)
      have h2 : L * (0 - z) = -(L * z) := by grind
      omega
  · refine Int.le_of_mul_le_mul_left (a := L) ?_ hpos
    by_cases hu : u1 < 0
    · rw [if_pos hu]
      have h1 : D * u1 ≤ 0 := by have := Int.mul_nonneg hd (show 0 ≤ -u1 by omega); have e : D * -u1 = -(D * u1) := by grind
                                 omega
      have h2 : L * (0 + z) = L * z := by grind
      omega
    · rw [if_neg hu]
      have h1 : D * u1 ≤ L * u1 := Int.mul_le_mul_of_nonneg_right hd2 (by omega)
      have h2 : L * (u1 + z) = L * u1 + L * z := by grind
      omega
theorem sqd_x {ax ay px py z : Int} (hz : 0 ≤ z) (h : sqd ax ay px py ≤ z * z) : (-z ≤ ax - px ∧ ax - px ≤ z) ∧ (-z ≤ ay - py ∧ ay - py ≤ z) := by
  unfold sqd at h
  have h1 := self_mul (ax - px); have h2 := self_mul (ay - py)
  exact ⟨abs_of_sq hz (by omega), abs_of_sq hz (by omega)⟩
/-- A place that is near is not farther beyond the box of both ends than the tolerance. -/
theorem NearP.box {ax ay bx by_ px py z : Int} (h : NearP ax ay bx by_ px py z) :
    ((if bx < ax then bx else ax) - z ≤ px ∧ px ≤ (if bx < ax then ax else bx) + z) ∧ ((if by_ < ay then by_ else ay) - z ≤ py ∧ py ≤ (if by_ < ay then ay else by_) + z) := by
  unfold NearP at h
  obtain ⟨ha, hb, hp, hz, h⟩ := h
  rcases h with h | h | ⟨h1, h2⟩
  · have := sqd_x hz.1 h
    split <;> split <;> omega
  · have := sqd_x hz.1 h
    split <;> split <;> omega
  · have h0 := sqd_le ha hb
    have eL : sqd ax ay bx by_ = (bx - ax) * (bx - ax) + (by_ - ay) * (by_ - ay) := by unfold sqd; grind
    have eL2 : sqd ax ay bx by_ = (by_ - ay) * (by_ - ay) + (bx - ax) * (bx - ax) := by unfold sqd; grind
    have e1 : sqd ax ay bx by_ + sqd ax ay px py - sqd bx by_ px py = 2 * ((bx - ax) * (px - ax) + (by_ - ay) * (py - ay)) := by unfold sqd; grind
    have e2 : sqd ax ay bx by_ + sqd bx by_ px py - sqd ax ay px py = 2 * (sqd ax ay bx by_ - ((bx - ax) * (px - ax) + (by_ - ay) * (py - ay))) := by unfold sqd; grind
    have f1 := foot (u1 := bx - ax) (u2 := by_ - ay) (v1 := px - ax) (v2 := py - ay) hz.1 eL rfl (by omega) h2 (by omega) (by omega)
    have e3 : ((by_ - ay) * (px - ax) - (bx - ax) * (py - ay)) * ((by_ - ay) * (px - ax) - (bx - ax) * (py - ay)) = ((bx - ax) * (py - ay) - (by_ - ay) * (px - ax)) * ((bx - ax) * (py - ay) - (by_ - ay) * (px - ax)) := by grind
    have f2 := foot (u1 := by_ - ay) (u2 := bx - ax) (v1 := py - ay) (v2 := px - ax) hz.1 eL2 rfl (by omega) (by rw [e3]; exact h2) (by omega) (by omega)
    constructor
    · by_cases hc : bx < ax
      · rw [if_pos hc, if_pos hc]; rw [if_pos (by omega), if_pos (by omega)] at f1; omega
      · rw [if_neg hc, if_neg hc]; rw [if_neg (by omega), if_neg (by omega)] at f1; omega
    · by_cases hc : by_ < ay
      · rw [if_pos hc, if_pos hc]; rw [if_pos (by omega), if_pos (by omega)] at f2; omega
      · rw [if_neg hc, if_neg hc]; rw [if_neg (by omega), if_neg (by omega)] at f2; omega
/-- Beside a level line, the distance is the difference of Y. -/
theorem nearP_level {ax ay bx px py z : Int} (ha : OnP ax ay) (hb : OnP bx ay) (hp : OnP px py) (hz : 0 ≤ z ∧ z ≤ 1000) (hb1 : (ax ≤ px ∧ px ≤ bx) ∨ (bx ≤ px ∧ px ≤ ax)) :
    NearP ax ay bx ay px py z ↔ -z ≤ py - ay ∧ py - ay ≤ z := by
  constructor
  · intro h
    have h2 := h.box.2
    simp only [ite_self] at h2
    omega
  · intro h
    refine ⟨ha, hb, hp, hz, ?_⟩
    have hsq : (py - ay) * (py - ay) ≤ z * z := by
      have h1 := mul_le_of (a := py - ay) (b := py - ay) (n := z) (m := z) h h hz.1 hz.1
      exact h1.2
    by_cases hl : ax = bx
    · subst hl
      have : px = ax := by omega
      subst this
      refine .inl ?_
      have e : sqd px ay px py = (py - ay) * (py - ay) := by unfold sqd; grind
      rw [e]; exact hsq
    · refine .inr (.inr ⟨?_, ?_⟩)
      · have e1 : sqd ax ay bx ay + sqd ax ay px py - sqd bx ay px py = 2 * ((bx - ax) * (px - ax)) := by unfold sqd; grind
        have e2 : sqd ax ay bx ay + sqd bx ay px py - sqd ax ay px py = 2 * ((ax - bx) * (px - bx)) := by unfold sqd; grind
        have e3 : sqd ax ay bx ay = (bx - ax) * (bx - ax) := by unfold sqd; grind
        have g1 : 0 ≤ (bx - ax) * (px - ax) := by
          rcases hb1 with h1 | h1
          · exact Int.mul_nonneg (by omega) (by omega)
          · exact Int.mul_nonneg_of_nonpos_of_nonpos (by omega) (by omega)
        have g2 : 0 ≤ (ax - bx) * (px - bx) := by
          rcases hb1 with h1 | h1
          · exact Int.mul_nonneg_of_nonpos_of_nonpos (by omega) (by omega)
          · exact Int.mul_nonneg (by omega) (by omega)
        have g3 : (bx - ax) * (bx - ax) ≠ 0 := fun h => by
          rcases Int.mul_eq_zero.1 h with h | h <;> omega
        omega
      · have e : ((bx - ax) * (py - ay) - (ay - ay) * (px - ax)) * ((bx - ax) * (py - ay) - (ay - ay) * (px - ax)) = ((py - ay) * (py - ay)) * ((bx - ax) * (bx - ax)) := by grind
        have e3 : sqd ax ay bx ay = (bx - ax) * (bx - ax) := by unfold sqd; grind
        rw [e, e3]
        exact Int.mul_le_mul_of_nonneg_right hsq (self_mul _)
/-- What is near stays so where all is moved on the board. -/
theorem NearP.move {ax ay bx by_ px py z : Int} (x y : Int) (h : NearP ax ay bx by_ px py z) (ha : OnP (ax + x) (ay + y)) (hb : OnP (bx + x) (by_ + y)) (hp : OnP (px + x) (py + y)) : NearP (ax + x) (ay + y) (bx + x) (by_ + y) (px + x) (py + y) z := by
  have e : ∀ a b c d : Int, sqd (a + x) (b + y) (c + x) (d + y) = sqd a b c d := fun a b c d => by unfold sqd; grind
  have e2 : ((bx + x - (ax + x)) * (py + y - (ay + y)) - (by_ + y - (ay + y)) * (px + x - (ax + x))) = ((bx - ax) * (py - ay) - (by_ - ay) * (px - ax)) := by grind
  unfold NearP at h ⊢
  rw [e, e, e, e2]
  exact ⟨ha, hb, hp, h.2.2.2⟩
/-- .. and where the board is turned by a quarter. -/
theorem OnP.turn {x y : Int} (h : OnP x y) : OnP (4095 - y) x := by unfold OnP at h ⊢; omega
theorem NearP.turn {ax ay bx by_ px py z : Int} (h : NearP ax ay bx by_ px py z) : NearP (4095 - ay) ax (4095 - by_) bx (4095 - py) px z := by
  have e : ∀ a b c d : Int, sqd (4095 - b) a (4095 - d) c = sqd a b c d := fun a b c d => by unfold sqd; grind
  have e2 : ((4095 - by_ - (4095 - ay)) * (px - ax) - (bx - ax) * (4095 - py - (4095 - ay))) = ((bx - ax) * (py - ay) - (by_ - ay) * (px - ax)) := by grind
  unfold NearP at h ⊢
  rw [e, e, e, e2]
  exact ⟨h.1.turn, h.2.1.turn, h.2.2.1.turn, h.2.2.2⟩
theorem NearP.back {ax ay bx by_ px py z : Int} (h : NearP (4095 - ay) ax (4095 - by_) bx (4095 - py) px z) : NearP ax ay bx by_ px py z := by
  have h3 := h.turn.turn.turn
  have e : ∀ a : Int, 4095 - (4095 - a) = a := fun a => by omega
  simpa only [e] using h3
end Go.Proofs.Ytamogfcedkjmcaa
