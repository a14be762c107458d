/- The order of fractions, and what the operations do to it. No conditions. | The contract of RationalOrder. Conditions: ints. -/
import Derived.Deep.CutRange
import Derived.Test.YtgokpdidhpogdaaGreatGH
import Derived.Test.YtgokpdidhpogdaaGreatGK
namespace Go.Proofs.YtgokpdidhpogdaaGreat
open Go.RowKit Go.Lib

/-- The order of two fractions. -/
def cv (p q : Int × Int) : Int := ordI (p.1 * q.2) (q.1 * p.2)
theorem ordI_mulp {x k : Int} (hk : 0 < k) : ordI (x * k) 0 = ordI x 0 := by
  rcases Int.lt_trichotomy x 0 with h | h | h
  · rw [ordI_lt h, ordI_lt (Int.mul_neg_of_neg_of_pos h hk)]
  · rw [h, Int.zero_mul]
  · rw [ordI_gt h, ordI_gt (Int.mul_pos h hk)]
theorem ordI_mulz (x k : Int) : ordI (x * k) 0 = ordI x 0 * ordI k 0 := by
  rcases Int.lt_trichotomy k 0 with h | h | h
  · have h1 : ordI (x * -k) 0 = ordI x 0 := ordI_mulp (by omega)
    rw [Int.mul_neg] at h1
    rw [ordI_lt h, ← h1]
    generalize x * k = z
    rcases Int.lt_trichotomy z 0 with h2 | h2 | h2
    · rw [ordI_lt h2, ordI_gt (show (0 : Int) < -z by omega)]; rfl
    · subst h2; rfl
    · rw [ordI_gt h2, ordI_lt (show -z < (0 : Int) by omega)]; rfl
  · subst h; rw [Int.mul_zero, ordI_eq (rfl : (0 : Int) = 0), Int.mul_zero]
  · rw [ordI_mulp h, ordI_gt h, Int.mul_one]
theorem ordI_scale {x y u v k l : Int} (hk : 0 < k) (hl : 0 < l) (h : (x - y) * k = (u - v) * l) : ordI x y = ordI u v := by
  rw [ordI_sub x, ordI_sub u, ← ordI_mulp hk, h, ordI_mulp hl]
theorem cv_anti (p q : Int × Int) : cv q p = -cv p q := by
  unfold cv
  rcases Int.lt_trichotomy (p.1 * q.2) (q.1 * p.2) with h | h | h
  · rw [ordI_lt h, ordI_gt h]; rfl
  · rw [ordI_eq h, ordI_eq h.symm]; rfl
  · rw [ordI_gt h, ordI_lt h]
theorem cv_range (p q : Int × Int) : -1 ≤ cv p q ∧ cv p q ≤ 1 := ordI_le _ _
theorem cv_zero {p q : Int × Int} (hp : Low p.1 p.2) (hq : Low q.1 q.2) : cv p q = 0 ↔ p = q := by
  constructor
  · intro h
    have h1 : p.1 * q.2 = q.1 * p.2 := by
      unfold cv ordI at h
      split at h
      · cases h
      · split at h
        · cases h
        · omega
    obtain ⟨h2, h3⟩ := low_eq hp hq h1
    exact Prod.ext h2 h3
  · rintro rfl; exact ordI_eq rfl
theorem cv_le {p q : Int × Int} : cv p q ≤ 0 ↔ p.1 * q.2 ≤ q.1 * p.2 := by
  unfold cv ordI
  split
  · constructor <;> intro <;> omega
  · split
    · constructor <;> intro <;> omega
    · constructor <;> intro <;> omega
theorem cv_lt {p q : Int × Int} : cv p q < 0 ↔ p.1 * q.2 < q.1 * p.2 := by
  unfold cv ordI
  split
  · constructor <;> intro <;> omega
  · split
    · constructor <;> intro <;> omega
    · constructor <;> intro <;> omega
theorem cv_trans {p q r : Int × Int} (hp : 0 < p.2) (hq : 0 < q.2) (hr : 0 < r.2) (h1 : cv p q ≤ 0) (h2 : cv q r ≤ 0) : cv p r ≤ 0 ∧ (cv q r < 0 → cv p r < 0) := by
  rw [cv_le] at h1
  have h3 := cv_le.1 h2
  have a1 : p.1 * q.2 * r.2 ≤ q.1 * p.2 * r.2 := Int.mul_le_mul_of_nonneg_right h1 (by omega)
  have e1 : p.1 * r.2 * q.2 = p.1 * q.2 * r.2 := by grind
  have e2 : r.1 * p.2 * q.2 = r.1 * q.2 * p.2 := by grind
  have e3 : q.1 * p.2 * r.2 = q.1 * r.2 * p.2 := by grind
  constructor
  · have a2 : q.1 * r.2 * p.2 ≤ r.1 * q.2 * p.2 := Int.mul_le_mul_of_nonneg_right h3 (by omega)
    rw [cv_le]
    refine Int.not_lt.1 fun hn => ?_
    have := Int.mul_lt_mul_of_pos_right hn hq
    omega
  · intro h4
    rw [cv_lt] at h4 ⊢
    have a2 : q.1 * r.2 * p.2 < r.1 * q.2 * p.2 := Int.mul_lt_mul_of_pos_right h4 hp
    refine Int.not_le.1 fun hn => ?_
    have := Int.mul_le_mul_of_nonneg_right hn (show 0 ≤ q.2 by omega)
    omega
theorem mk2_some {n d : Option Int} {r : Int × Int} (h : mk2 n d = some r) : ∃ x y, n = some x ∧ d = some y ∧ y ≠ 0 ∧ r = red x y := by
  cases n with
  | none => cases h
  | some x =>
    cases d with
    | none => cases h
    | some y =>
      have h1 : (if y = 0 then none else some (red x y)) = some r := h
      split at h1
      · cases h1
      · cases h1; exact ⟨x, y, rfl, rfl, by assumption, rfl⟩
theorem sumQ_some {f : Int → Int → Int} {p q r : Int × Int} (hp : 0 < p.2) (hq : 0 < q.2) (h : sumQ f (some p) (some q) = some r) : r = red (f (p.1 * q.2) (q.1 * p.2)) (p.2 * q.2) ∧ 0 < p.2 * q.2 := by
  have h1 : mk2 ((lim (p.1 * q.2)).bind fun x => (lim (q.1 * p.2)).bind fun y => lim (f x y)) (lim (p.2 * q.2)) = some r := h
  obtain ⟨x, y, hx, hy, -, rfl⟩ := mk2_some h1
  obtain ⟨rfl, -⟩ := lim_abs hy
  cases h2 : lim (p.1 * q.2) with
  | none => rw [h2] at hx; cases hx
  | some u =>
    cases h3 : lim (q.1 * p.2) with
    | none => rw [h2, h3] at hx; cases hx
    | some v =>
      rw [h2, h3] at hx
      obtain ⟨rfl, -⟩ := lim_abs h2
      obtain ⟨rfl, -⟩ := lim_abs h3
      obtain ⟨rfl, -⟩ := lim_abs (show lim (f (p.1 * q.2) (q.1 * p.2)) = some x from hx)
      exact ⟨rfl, Int.mul_pos hp hq⟩
theorem mulQ_some {p q r : Int × Int} (hp : 0 < p.2) (hq : 0 < q.2) (h : mulQ (some p) (some q) = some r) : r = red (p.1 * q.1) (p.2 * q.2) ∧ 0 < p.2 * q.2 := by
  have h1 : mk2 (lim (p.1 * q.1)) (lim (p.2 * q.2)) = some r := h
  obtain ⟨x, y, hx, hy, -, rfl⟩ := mk2_some h1
  obtain ⟨rfl, -⟩ := lim_abs hy
  obtain ⟨rfl, -⟩ := lim_abs hx
  exact ⟨rfl, Int.mul_pos hp hq⟩
theorem divQ_some {p q r : Int × Int} (h : divQ (some p) (some q) = some r) : r = red (p.1 * q.2) (p.2 * q.1) ∧ p.2 * q.1 ≠ 0 := by
  have h1 : mk2 (lim (p.1 * q.2)) (lim (p.2 * q.1)) = some r := h
  obtain ⟨x, y, hx, hy, h0, rfl⟩ := mk2_some h1
  obtain ⟨rfl, -⟩ := lim_abs hy
  obtain ⟨rfl, -⟩ := lim_abs hx
  exact ⟨rfl, h0⟩
/-- The sign of the difference. -/
theorem cv_sub {p q r : Int × Int} (hp : 0 < p.2) (hq : 0 < q.2) (h : sumQ (· - ·) (some p) (some q) = some r) : cv r (0, 1) = cv p q := by
  obtain ⟨rfl, hd⟩ := sumQ_some hp hq h
  have hc := @red_cross (p.1 * q.2 - q.1 * p.2) (p.2 * q.2)
  have hy := @red_pos (p.1 * q.2 - q.1 * p.2) (p.2 * q.2) (by omega)
  show ordI ((red (p.1 * q.2 - q.1 * p.2) (p.2 * q.2)).1 * 1) (0 * (red (p.1 * q.2 - q.1 * p.2) (p.2 * q.2)).2) = _
  rw [Int.mul_one, Int.zero_mul]
  generalize red (p.1 * q.2 - q.1 * p.2) (p.2 * q.2) = r at *
  refine ordI_scale (k := p.2 * q.2) (l := r.2) hd hy ?_
  rw [Int.sub_zero, hc]
theorem cv_add {p q t r s : Int × Int} (hp : 0 < p.2) (hq : 0 < q.2) (ht : 0 < t.2) (h : sumQ (· + ·) (some p) (some t) = some r) (h2 : sumQ (· + ·) (some q) (some t) = some s) : cv r s = cv p q := by
  obtain ⟨rfl, hd⟩ := sumQ_some hp ht h
  obtain ⟨rfl, hd2⟩ := sumQ_some hq ht h2
  have hc := @red_cross (p.1 * t.2 + t.1 * p.2) (p.2 * t.2)
  have hy := @red_pos (p.1 * t.2 + t.1 * p.2) (p.2 * t.2) (by omega)
  have hc2 := @red_cross (q.1 * t.2 + t.1 * q.2) (q.2 * t.2)
  have hy2 := @red_pos (q.1 * t.2 + t.1 * q.2) (q.2 * t.2) (by omega)
  generalize red (p.1 * t.2 + t.1 * p.2) (p.2 * t.2) = r at *
  generalize red (q.1 * t.2 + t.1 * q.2) (q.2 * t.2) = s at *
  refine ordI_scale (k := (p.2 * t.2) * (q.2 * t.2)) (l := r.2 * s.2 * (t.2 * t.2)) (Int.mul_pos hd hd2) (Int.mul_pos (Int.mul_pos hy hy2) (Int.mul_pos ht ht)) ?_
  grind
theorem cv_mul {p q t r s : Int × Int} (hp : 0 < p.2) (hq : 0 < q.2) (ht : 0 < t.2) (h : mulQ (some p) (some t) = some r) (h2 : mulQ (some q) (some t) = some s) : cv r s = cv p q * cv t (0, 1) := by
  obtain ⟨rfl, hd⟩ := mulQ_some hp ht h
  obtain ⟨rfl, hd2⟩ := mulQ_some hq ht h2
  have hc := @red_cross (p.1 * t.1) (p.2 * t.2)
  have hy := @red_pos (p.1 * t.1) (p.2 * t.2) (by omega)
  have hc2 := @red_cross (q.1 * t.1) (q.2 * t.2)
  have hy2 := @red_pos (q.1 * t.1) (q.2 * t.2) (by omega)
  generalize red (p.1 * t.1) (p.2 * t.2) = r at *
  generalize red (q.1 * t.1) (q.2 * t.2) = s at *
  have e1 : cv t (0, 1) = ordI t.1 0 := by show ordI (t.1 * 1) (0 * t.2) = _; rw [Int.mul_one, Int.zero_mul]
  have e2 : cv p q = ordI (p.1 * q.2 - q.1 * p.2) 0 := ordI_sub _ _
  rw [e1, e2, ← ordI_mulz]
  unfold cv
  rw [ordI_sub]
  refine ordI_scale (k := (p.2 * t.2) * (q.2 * t.2)) (l := r.2 * s.2 * t.2) (Int.mul_pos hd hd2) (Int.mul_pos (Int.mul_pos hy hy2) ht) ?_
  grind
end Go.Proofs.YtgokpdidhpogdaaGreat
namespace Go.Proofs.YtgokpdidhpogdaaGreat
open Go.RowKit Go.Lib

/-- A fraction in lowest terms of at most 200 digits. -/
def Good (q : Int × Int) : Prop := Low q.1 q.2 ∧ q.1.natAbs < 10 ^ 200 ∧ q.2.natAbs < 10 ^ 200
/-- A fraction of integers as a value. -/
def rV (q : Int × Int) : Value := .agg #[.string (zS q.1), .string (zS q.2)]
theorem good_rd {q : Int × Int} (h : Good q) : rdQ (zS q.1).data.toList (zS q.2).data.toList = some q := by
  rw [rdQ_yes (zS_rd h.2.1) (zS_rd h.2.2), if_pos h.1]
theorem good_zs {q : Int × Int} (h : Good q) : (zS q.1).size ≤ 9000000000000000000 ∧ (zS q.2).size ≤ 9000000000000000000 := zs q.1 q.2 h.2.1 h.2.2
theorem good_zero : Good (0, 1) := ⟨⟨by omega, by decide⟩, by decide, by decide⟩
theorem mk2_good {n d : Option Int} (hn : Sml n) (hd : Sml d) {r : Int × Int} (h : mk2 n d = some r) : Good r := by
  obtain ⟨x, y, rfl, rfl, h0, rfl⟩ := mk2_some h
  have h1 := @red_abs x y h0
  exact ⟨red_low h0, Nat.lt_of_le_of_lt h1.1 (hn x rfl), Nat.lt_of_le_of_lt h1.2 (hd y rfl)⟩
theorem sum_good {f : Int → Int → Int} {p q r : Int × Int} (h : sumQ f (some p) (some q) = some r) : Good r := by
  have h1 : mk2 ((lim (p.1 * q.2)).bind fun x => (lim (q.1 * p.2)).bind fun y => lim (f x y)) (lim (p.2 * q.2)) = some r := h
  refine mk2_good (fun z hz => ?_) (sml_lim _) h1
  cases h2 : lim (p.1 * q.2) with
  | none => rw [h2] at hz; cases hz
  | some u =>
    cases h3 : lim (q.1 * p.2) with
    | none => rw [h2, h3] at hz; cases hz
    | some v =>
      rw [h2, h3] at hz
      exact (lim_abs (show lim (f u v) = some z from hz)).2
theorem mul_good {p q r : Int × Int} (h : mulQ (some p) (some q) = some r) : Good r := mk2_good (sml_lim _) (sml_lim _) (show mk2 (lim (p.1 * q.1)) (lim (p.2 * q.2)) = some r from h)
theorem div_good {p q r : Int × Int} (h : divQ (some p) (some q) = some r) : Good r := mk2_good (sml_lim _) (sml_lim _) (show mk2 (lim (p.1 * q.2)) (lim (p.2 * q.1)) = some r from h)
/-- What an operation on two fractions answers. -/
def OpR (F : FuncId) (x y : Value) (r : Option (Int × Int)) (w : World) : Prop :=
  Calls Tryz.prog F #[x, y] w fun e w' => e = .returned (.tuple #[.agg #[.string (qN r), .string (qD r)], .int .i64 (qE r)]) ∧ Below w.heap.size w w'
def CmpR (x y : Value) (c : Int) (w : World) : Prop :=
  Calls Tryz.prog 13 #[x, y] w fun e w' => e = .returned (.int .i64 c) ∧ Below w.heap.size w w'
section
variable {p q : Int × Int} (hp : Good p) (hq : Good q) (w : World)
include hp hq
theorem cmpc_good : CmpR (rV p) (rV q) (cv p q) w := by
  have h := fcmp_any (zS p.1) (zS p.2) (zS q.1) (zS q.2) w (good_zs hp) (good_zs hq)
  rw [good_rd hp, good_rd hq] at h
  exact h
theorem add_good : OpR 26 (rV p) (rV q) (sumQ (· + ·) (some p) (some q)) w := by
  have h := fadd_any (zS p.1) (zS p.2) (zS q.1) (zS q.2) w (good_zs hp) (good_zs hq)
  rw [good_rd hp, good_rd hq] at h
  exact h
theorem sub_good : OpR 32 (rV p) (rV q) (sumQ (· - ·) (some p) (some q)) w := by
  have h := fsub_any (zS p.1) (zS p.2) (zS q.1) (zS q.2) w (good_zs hp) (good_zs hq)
  rw [good_rd hp, good_rd hq] at h
  exact h
theorem mulc_good : OpR 33 (rV p) (rV q) (mulQ (some p) (some q)) w := by
  have h := fmul_any (zS p.1) (zS p.2) (zS q.1) (zS q.2) w (good_zs hp) (good_zs hq)
  rw [good_rd hp, good_rd hq] at h
  exact h
theorem divc_good : OpR 28 (rV p) (rV q) (divQ (some p) (some q)) w := by
  have h := fdiv_any (zS p.1) (zS p.2) (zS q.1) (zS q.2) w (good_zs hp) (good_zs hq)
  rw [good_rd hp, good_rd hq] at h
  exact h
end
/-- The cases of three comparisons. -/
theorem cv_cases {p q r : Int × Int} (hp : Good p) (hq : Good q) (hr : Good r) :
    (p = q ∧ cv p q = 0 ∧ cv p r = cv q r ∧ (cv q r = -1 ∨ cv q r = 0 ∨ cv q r = 1)) ∨
    (p ≠ q ∧ (cv p q = 1 ∨ cv p q = -1 ∧ (cv q r = 1 ∨ (cv q r = 0 ∨ cv q r = -1) ∧ cv p r = -1))) := by
  have h1 := cv_range p q; have h2 := cv_range q r; have h3 := cv_range p r
  have h4 := cv_zero hp.1 hq.1
  by_cases h : p = q
  · subst h
    exact .inl ⟨rfl, h4.2 rfl, rfl, by omega⟩
  · have h5 : cv p q ≠ 0 := fun e => h (h4.1 e)
    refine .inr ⟨h, ?_⟩
    rcases (show cv p q = 1 ∨ cv p q = -1 by omega) with h6 | h6
    · exact .inl h6
    · refine .inr ⟨h6, ?_⟩
      rcases (show cv q r = 1 ∨ (cv q r = 0 ∨ cv q r = -1) by omega) with h7 | h7
      · exact .inl h7
      · refine .inr ⟨h7, ?_⟩
        rcases h7 with h7 | h7
        · have h8 := (cv_zero hq.1 hr.1).1 h7
          subst h8; exact h6
        · have := (cv_trans hp.1.1 hq.1.1 hr.1.1 (by omega) (by omega)).2 (by omega)
          omega
end Go.Proofs.YtgokpdidhpogdaaGreat
