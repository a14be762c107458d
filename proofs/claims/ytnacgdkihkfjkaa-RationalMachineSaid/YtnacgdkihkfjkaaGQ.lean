/- What the four operations answer on fractions of small integers. No conditions. -/
import Derived.IntWalk
import Derived.Test.YtnacgdkihkfjkaaGO
import Derived.Test.YtnacgdkihkfjkaaGP
namespace Go.Proofs.Ytnacgdkihkfjkaa
open Go.RowKit Go.Lib

/-- A small result: two integers, proportional to two others. -/
def MacR (r : Option (Int × Int)) (W0 W1 : Int) : Prop := ∃ x y : Int, r = some (x, y) ∧ Good (x, y) ∧ (1 ≤ y ∧ y ≤ 900000000) ∧ (-1800000000 ≤ x ∧ x ≤ 1800000000) ∧ x * W1 = W0 * y
theorem mac_red {X Y W0 W1 : Int} (h0 : Y ≠ 0) (hX : -1800000000 ≤ X ∧ X ≤ 1800000000) (hY : -900000000 ≤ Y ∧ Y ≤ 900000000) (h : X * W1 = W0 * Y) : MacR (some (red X Y)) W0 W1 := by
  have hc := @red_cross X Y
  have hp := @red_pos X Y h0
  have ha := @red_abs X Y h0
  have hg : Good (red X Y) := red_good (lt200 (show X.natAbs < 10 ^ 10 by omega) (by omega)) (lt200 (show Y.natAbs < 10 ^ 10 by omega) (by omega)) h0
  refine ⟨(red X Y).1, (red X Y).2, rfl, hg, by omega, by omega, ?_⟩
  refine Int.eq_of_mul_eq_mul_right h0 ?_
  generalize (red X Y).1 = x at *; generalize (red X Y).2 = y at *
  grind
theorem prod_le {x y a b : Int} (ha : 0 ≤ a) (hb : 0 ≤ b) (hx : -a ≤ x ∧ x ≤ a) (hy : -b ≤ y ∧ y ≤ b) : -(a * b) ≤ x * y ∧ x * y ≤ a * b := by
  have h1 : (x * y).natAbs ≤ a.natAbs * b.natAbs := by rw [Int.natAbs_mul]; exact Nat.mul_le_mul (by omega) (by omega)
  rw [← Int.natAbs_mul] at h1
  have h2 : 0 ≤ a * b := Int.mul_nonneg ha hb
  omega
section
variable {N D M C : Int} (hN : -30000 ≤ N ∧ N ≤ 30000) (hM : -30000 ≤ M ∧ M ≤ 30000) (hD : 1 ≤ D ∧ D ≤ 30000) (hC : 1 ≤ C ∧ C ≤ 30000)
include hN hD
theorem red_small : (-30000 ≤ (red N D).1 ∧ (red N D).1 ≤ 30000) ∧ (1 ≤ (red N D).2 ∧ (red N D).2 ≤ 30000) ∧ (red N D).1 * D = N * (red N D).2 ∧ Good (red N D) := by
  have hc := @red_cross N D
  have hp := @red_pos N D (by omega)
  have ha := @red_abs N D (by omega)
  have hg : Good (red N D) := red_good (lt200 (show N.natAbs < 10 ^ 5 by omega) (by omega)) (lt200 (show D.natAbs < 10 ^ 5 by omega) (by omega)) (by omega)
  exact ⟨by omega, by omega, hc, hg⟩
include hM hC
theorem mac_add : MacR (sumQ (· + ·) (some (red N D)) (some (red M C))) (N * C + M * D) (D * C) := by
  obtain ⟨a1, a2, a3, ga⟩ := red_small hN hD
  obtain ⟨b1, b2, b3, gb⟩ := red_small hM hC
  generalize red N D = p at *; generalize red M C = q at *
  have e1 := prod_le (a := 30000) (b := 30000) (by omega) (by omega) a1 (show -30000 ≤ q.2 ∧ q.2 ≤ 30000 by omega)
  have e2 := prod_le (a := 30000) (b := 30000) (by omega) (by omega) b1 (show -30000 ≤ p.2 ∧ p.2 ≤ 30000 by omega)
  have e3 := prod_le (a := 30000) (b := 30000) (by omega) (by omega) (show -30000 ≤ p.2 ∧ p.2 ≤ 30000 by omega) (show -30000 ≤ q.2 ∧ q.2 ≤ 30000 by omega)
  have h0 : 0 < p.2 * q.2 := Int.mul_pos (by omega) (by omega)
  rw [sum_ok (f := (· + ·)) (lt200 (show (p.1 * q.2).natAbs < 10 ^ 10 by omega) (by omega)) (lt200 (show (q.1 * p.2).natAbs < 10 ^ 10 by omega) (by omega)) (lt200 (show (p.1 * q.2 + q.1 * p.2).natAbs < 10 ^ 10 by omega) (by omega)) (lt200 (show (p.2 * q.2).natAbs < 10 ^ 10 by omega) (by omega)) (by omega)]
  exact mac_red (by omega) (by omega) (by omega) (by grind)
theorem mac_sub : MacR (sumQ (· - ·) (some (red N D)) (some (red M C))) (N * C - M * D) (D * C) := by
  obtain ⟨a1, a2, a3, ga⟩ := red_small hN hD
  obtain ⟨b1, b2, b3, gb⟩ := red_small hM hC
  generalize red N D = p at *; generalize red M C = q at *
  have e1 := prod_le (a := 30000) (b := 30000) (by omega) (by omega) a1 (show -30000 ≤ q.2 ∧ q.2 ≤ 30000 by omega)
  have e2 := prod_le (a := 30000) (b := 30000) (by omega) (by omega) b1 (show -30000 ≤ p.2 ∧ p.2 ≤ 30000 by omega)
  have e3 := prod_le (a := 30000) (b := 30000) (by omega) (by omega) (show -30000 ≤ p.2 ∧ p.2 ≤ 30000 by omega) (show -30000 ≤ q.2 ∧ q.2 ≤ 30000 by omega)
  have h0 : 0 < p.2 * q.2 := Int.mul_pos (by omega) (by omega)
  rw [sum_ok (f := (· - ·)) (lt200 (show (p.1 * q.2).natAbs < 10 ^ 10 by omega) (by omega)) (lt200 (show (q.1 * p.2).natAbs < 10 ^ 10 by omega) (by omega)) (lt200 (show (p.1 * q.2 - q.1 * p.2).natAbs < 10 ^ 10 by omega) (by omega)) (lt200 (show (p.2 * q.2).natAbs < 10 ^ 10 by omega) (by omega)) (by omega)]
  exact mac_red (by omega) (by omega) (by omega) (by grind)
theorem mac_mul : MacR (mulQ (some (red N D)) (some (red M C))) (N * M) (D * C) := by
  obtain ⟨a1, a2, a3, ga⟩ := red_small hN hD
  obtain ⟨b1, b2, b3, gb⟩ := red_small hM hC
  generalize red N D = p at *; generalize red M C = q at *
  have e1 := prod_le (a := 30000) (b := 30000) (by omega) (by omega) a1 b1
  have e3 := prod_le (a := 30000) (b := 30000) (by omega) (by omega) (show -30000 ≤ p.2 ∧ p.2 ≤ 30000 by omega) (show -30000 ≤ q.2 ∧ q.2 ≤ 30000 by omega)
  have h0 : 0 < p.2 * q.2 := Int.mul_pos (by omega) (by omega)
  rw [mul_ok (lt200 (show (p.1 * q.1).natAbs < 10 ^ 10 by omega) (by omega)) (lt200 (show (p.2 * q.2).natAbs < 10 ^ 10 by omega) (by omega)) (by omega)]
  exact mac_red (by omega) (by omega) (by omega) (by grind)
theorem mac_div (h0 : M ≠ 0) : MacR (divQ (some (red N D)) (some (red M C))) (N * C) (D * M) := by
  obtain ⟨a1, a2, a3, ga⟩ := red_small hN hD
  obtain ⟨b1, b2, b3, gb⟩ := red_small hM hC
  generalize red N D = p at *; generalize red M C = q at *
  have e1 := prod_le (a := 30000) (b := 30000) (by omega) (by omega) a1 (show -30000 ≤ q.2 ∧ q.2 ≤ 30000 by omega)
  have e3 := prod_le (a := 30000) (b := 30000) (by omega) (by omega) (show -30000 ≤ p.2 ∧ p.2 ≤ 30000 by omega) b1
  have hq : q.1 ≠ 0 := fun h => by
    rw [h, Int.zero_mul] at b3
    exact (Int.mul_ne_zero h0 (by omega)) b3.symm
  have h1 : p.2 * q.1 ≠ 0 := Int.mul_ne_zero (by omega) hq
  show MacR (mk2 (lim (p.1 * q.2)) (lim (p.2 * q.1))) _ _
  rw [lim_some (lt200 (show (p.1 * q.2).natAbs < 10 ^ 10 by omega) (by omega)), lim_some (lt200 (show (p.2 * q.1).natAbs < 10 ^ 10 by omega) (by omega))]
  show MacR (if p.2 * q.1 = 0 then none else some (red (p.1 * q.2) (p.2 * q.1))) _ _
  rw [if_neg h1]
  exact mac_red h1 (by omega) (by omega) (by grind)
omit hM in
theorem mac_no : divQ (some (red N D)) (some (red 0 C)) = none := by
  obtain ⟨a1, a2, a3, ga⟩ := red_small hN hD
  have hq : (red 0 C).1 = 0 := by
    have := @red_cross 0 C
    rw [Int.zero_mul] at this
    exact (Int.mul_eq_zero.1 this).resolve_right (by omega)
  show mk2 (lim ((red N D).1 * (red 0 C).2)) (lim ((red N D).2 * (red 0 C).1)) = none
  rw [hq, Int.mul_zero, lim_some (show (0 : Int).natAbs < 10 ^ 200 by decide)]
  cases lim ((red N D).1 * (red 0 C).2) with
  | none => rfl
  | some x => show (if (0 : Int) = 0 then none else some (red x 0)) = none; rw [if_pos rfl]
theorem mac_cv : cv (red N D) (red M C) = ordI (N * C) (M * D) := by
  obtain ⟨a1, a2, a3, ga⟩ := red_small hN hD
  obtain ⟨b1, b2, b3, gb⟩ := red_small hM hC
  generalize red N D = p at *; generalize red M C = q at *
  unfold cv
  exact ordI_scale (k := D * C) (l := p.2 * q.2) (Int.mul_pos (by omega) (by omega)) (Int.mul_pos (by omega) (by omega)) (by grind)
end
end Go.Proofs.Ytnacgdkihkfjkaa
