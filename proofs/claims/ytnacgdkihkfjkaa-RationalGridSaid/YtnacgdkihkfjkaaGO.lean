/- The laws of fractions: what sums, products, differences and quotients of fractions that are there have in common. No conditions. | The operations on fractions or nothing, as values; the contract of the statements' helper four. Conditions: what is there is in lowest terms, of at most 200 digits. -/
import Derived.Test.YtnacgdkihkfjkaaGN
import Derived.Test.YtnacgdkihkfjkaaGK
namespace Go.Proofs.Ytnacgdkihkfjkaa
open Go.RowKit Go.Lib

theorem sumQ_comm (p q : Option (Int × Int)) : sumQ (· + ·) p q = sumQ (· + ·) q p := by
  cases p with
  | none => cases q <;> rfl
  | some p =>
    cases q with
    | none => rfl
    | some q =>
      show mk2 ((lim (p.1 * q.2)).bind fun x => (lim (q.1 * p.2)).bind fun y => lim (x + y)) (lim (p.2 * q.2)) = mk2 ((lim (q.1 * p.2)).bind fun x => (lim (p.1 * q.2)).bind fun y => lim (x + y)) (lim (q.2 * p.2))
      rw [Int.mul_comm q.2 p.2]
      cases lim (p.1 * q.2) with
      | none => cases lim (q.1 * p.2) <;> rfl
      | some x =>
        cases lim (q.1 * p.2) with
        | none => rfl
        | some y => show mk2 (lim (x + y)) _ = mk2 (lim (y + x)) _; rw [Int.add_comm]
theorem mulQ_comm (p q : Option (Int × Int)) : mulQ p q = mulQ q p := by
  cases p with
  | none => cases q <;> rfl
  | some p =>
    cases q with
    | none => rfl
    | some q =>
      show mk2 (lim (p.1 * q.1)) (lim (p.2 * q.2)) = mk2 (lim (q.1 * p.1)) (lim (q.2 * p.2))
      rw [Int.mul_comm q.1, Int.mul_comm q.2]
/-- What a result is: two integers that it is proportional to. -/
theorem red_is {x y : Int} {r : Int × Int} (h : r = red x y) (hy : y ≠ 0) : r.1 * y = x * r.2 ∧ 0 < r.2 := by
  subst h; exact ⟨red_cross, red_pos hy⟩
theorem sum_is {f : Int → Int → Int} {p q r : Int × Int} (hp : 0 < p.2) (hq : 0 < q.2) (h : sumQ f (some p) (some q) = some r) : r.1 * (p.2 * q.2) = f (p.1 * q.2) (q.1 * p.2) * r.2 ∧ 0 < r.2 := by
  obtain ⟨h1, h2⟩ := sumQ_some hp hq h
  exact red_is h1 (by omega)
theorem mul_is {p q r : Int × Int} (hp : 0 < p.2) (hq : 0 < q.2) (h : mulQ (some p) (some q) = some r) : r.1 * (p.2 * q.2) = p.1 * q.1 * r.2 ∧ 0 < r.2 := by
  obtain ⟨h1, h2⟩ := mulQ_some hp hq h
  exact red_is h1 (by omega)
theorem div_is {p q r : Int × Int} (h : divQ (some p) (some q) = some r) : r.1 * (p.2 * q.1) = p.1 * q.2 * r.2 ∧ 0 < r.2 ∧ p.2 * q.1 ≠ 0 := by
  obtain ⟨h1, h2⟩ := divQ_some h
  have := red_is h1 h2
  exact ⟨this.1, this.2, h2⟩
theorem sum_low {f : Int → Int → Int} {p q r : Int × Int} (hp : 0 < p.2) (hq : 0 < q.2) (h : sumQ f (some p) (some q) = some r) : Low r.1 r.2 := by
  obtain ⟨rfl, h2⟩ := sumQ_some hp hq h
  exact red_low (by omega)
theorem mul_low {p q r : Int × Int} (hp : 0 < p.2) (hq : 0 < q.2) (h : mulQ (some p) (some q) = some r) : Low r.1 r.2 := by
  obtain ⟨rfl, h2⟩ := mulQ_some hp hq h
  exact red_low (by omega)
theorem low_same {p q : Int × Int} (hp : Low p.1 p.2) (hq : Low q.1 q.2) {k : Int} (hk : k ≠ 0) (h : p.1 * q.2 * k = q.1 * p.2 * k) : p = q := by
  obtain ⟨h1, h2⟩ := low_eq hp hq (Int.eq_of_mul_eq_mul_right hk h)
  exact Prod.ext h1 h2
/-- Both ways of three. -/
theorem add_assoc_q {a b c ab bc x y : Int × Int} (ha : 0 < a.2) (hb : 0 < b.2) (hc : 0 < c.2) (h1 : sumQ (· + ·) (some a) (some b) = some ab) (h2 : sumQ (· + ·) (some b) (some c) = some bc)
    (h3 : sumQ (· + ·) (some ab) (some c) = some x) (h4 : sumQ (· + ·) (some a) (some bc) = some y) : x = y := by
  obtain ⟨e1, p1⟩ := sum_is ha hb h1
  obtain ⟨e2, p2⟩ := sum_is hb hc h2
  obtain ⟨e3, p3⟩ := sum_is p1 hc h3
  obtain ⟨e4, p4⟩ := sum_is ha p2 h4
  refine low_same (sum_low p1 hc h3) (sum_low ha p2 h4) (k := (ab.2 * c.2) * (a.2 * bc.2) * ((a.2 * b.2) * (b.2 * c.2))) ?_ ?_
  · have := Int.mul_pos (Int.mul_pos (Int.mul_pos p1 hc) (Int.mul_pos ha p2)) (Int.mul_pos (Int.mul_pos ha hb) (Int.mul_pos hb hc)); omega
  · grind
theorem mul_assoc_q {a b c ab bc x y : Int × Int} (ha : 0 < a.2) (hb : 0 < b.2) (hc : 0 < c.2) (h1 : mulQ (some a) (some b) = some ab) (h2 : mulQ (some b) (some c) = some bc)
    (h3 : mulQ (some a) (some bc) = some x) (h4 : mulQ (some ab) (some c) = some y) : x = y := by
  obtain ⟨e1, p1⟩ := mul_is ha hb h1
  obtain ⟨e2, p2⟩ := mul_is hb hc h2
  obtain ⟨e3, p3⟩ := mul_is ha p2 h3
  obtain ⟨e4, p4⟩ := mul_is p1 hc h4
  refine low_same (mul_low ha p2 h3) (mul_low p1 hc h4) (k := (ab.2 * c.2) * (a.2 * bc.2) * ((a.2 * b.2) * (b.2 * c.2))) ?_ ?_
  · have := Int.mul_pos (Int.mul_pos (Int.mul_pos p1 hc) (Int.mul_pos ha p2)) (Int.mul_pos (Int.mul_pos ha hb) (Int.mul_pos hb hc)); omega
  · grind
/-- A product with a sum. -/
theorem dist_q {a b c ab ac bc x y : Int × Int} (ha : 0 < a.2) (hb : 0 < b.2) (hc : 0 < c.2) (h1 : sumQ (· + ·) (some a) (some b) = some ab) (h2 : mulQ (some a) (some c) = some ac) (h3 : mulQ (some b) (some c) = some bc)
    (h4 : sumQ (· + ·) (some ac) (some bc) = some x) (h5 : mulQ (some ab) (some c) = some y) : x = y := by
  obtain ⟨e1, p1⟩ := sum_is ha hb h1
  obtain ⟨e2, p2⟩ := mul_is ha hc h2
  obtain ⟨e3, p3⟩ := mul_is hb hc h3
  obtain ⟨e4, p4⟩ := sum_is p2 p3 h4
  obtain ⟨e5, p5⟩ := mul_is p1 hc h5
  refine low_same (sum_low p2 p3 h4) (mul_low p1 hc h5) (k := (ab.2 * c.2) * (ac.2 * bc.2) * ((a.2 * b.2) * ((a.2 * c.2) * (b.2 * c.2)))) ?_ ?_
  · have := Int.mul_pos (Int.mul_pos (Int.mul_pos p1 hc) (Int.mul_pos p2 p3)) (Int.mul_pos (Int.mul_pos ha hb) (Int.mul_pos (Int.mul_pos ha hc) (Int.mul_pos hb hc))); omega
  · grind
/-- What was added is taken away. -/
theorem back_q {a b ab x : Int × Int} (ha : Low a.1 a.2) (hb : 0 < b.2) (h1 : sumQ (· + ·) (some a) (some b) = some ab) (h2 : sumQ (· - ·) (some ab) (some b) = some x) : x = a := by
  have ha2 := ha.1
  obtain ⟨e1, p1⟩ := sum_is ha2 hb h1
  obtain ⟨e2, p2⟩ := sum_is p1 hb h2
  refine low_same (sum_low p1 hb h2) ha (k := (ab.2 * b.2) * (a.2 * b.2)) ?_ ?_
  · have := Int.mul_pos (Int.mul_pos p1 hb) (Int.mul_pos ha2 hb); omega
  · grind
theorem again_q {a b d x : Int × Int} (ha : Low a.1 a.2) (hb : 0 < b.2) (h1 : divQ (some a) (some b) = some d) (h2 : mulQ (some d) (some b) = some x) : x = a := by
  have ha2 := ha.1
  obtain ⟨e1, p1, p0⟩ := div_is h1
  obtain ⟨e2, p2⟩ := mul_is p1 hb h2
  refine low_same (mul_low p1 hb h2) ha (k := (d.2 * b.2) * (a.2 * b.1)) ?_ ?_
  · exact Int.mul_ne_zero (by have := Int.mul_pos p1 hb; omega) p0
  · grind
end Go.Proofs.Ytnacgdkihkfjkaa
namespace Go.Proofs.Ytnacgdkihkfjkaa
open Go.RowKit Go.Lib

/-- What is there is good. -/
def GdO (r : Option (Int × Int)) : Prop := ∀ q, r = some q → Good q
theorem gdO_rd {r : Option (Int × Int)} (h : GdO r) : rdQ (qN r).data.toList (qD r).data.toList = r := by
  cases r with
  | none => decide +kernel
  | some q => exact good_rd (h q rfl)
theorem gdO_zs {r : Option (Int × Int)} (h : GdO r) : (qN r).size ≤ 9000000000000000000 ∧ (qD r).size ≤ 9000000000000000000 := by
  cases r with
  | none => exact ⟨Nat.zero_le _, Nat.zero_le _⟩
  | some q => exact good_zs (h q rfl)
theorem gdO_some {q : Int × Int} (h : Good q) : GdO (some q) := fun _ e => by cases e; exact h
theorem gdO_none : GdO none := fun _ e => by cases e
theorem gdO_sum {f : Int → Int → Int} {p q : Option (Int × Int)} : GdO (sumQ f p q) := fun r h => by
  cases p with
  | none => cases h
  | some p =>
    cases q with
    | none => cases h
    | some q => exact sum_good h
theorem gdO_mul {p q : Option (Int × Int)} : GdO (mulQ p q) := fun r h => by
  cases p with
  | none => cases h
  | some p =>
    cases q with
    | none => cases h
    | some q => exact mul_good h
theorem gdO_div {p q : Option (Int × Int)} : GdO (divQ p q) := fun r h => by
  cases p with
  | none => cases h
  | some p =>
    cases q with
    | none => cases h
    | some q => exact div_good h
/-- What an operation on two fractions answers. -/
def OpO (F : FuncId) (p q r : Option (Int × Int)) (w : World) : Prop :=
  Calls Try.prog F #[.agg #[.string (qN p), .string (qD p)], .agg #[.string (qN q), .string (qD q)]] w fun e w' => e = .returned (.tuple #[.agg #[.string (qN r), .string (qD r)], .int .i64 (qE r)]) ∧ Below w.heap.size w w'
section
variable {p q : Option (Int × Int)} (hp : GdO p) (hq : GdO q) (w : World)
include hp hq
theorem addO_any : OpO 24 p q (sumQ (· + ·) p q) w := by
  have h := fadd_any (qN p) (qD p) (qN q) (qD q) w (gdO_zs hp) (gdO_zs hq)
  rw [gdO_rd hp, gdO_rd hq] at h
  exact h
theorem subO_any : OpO 26 p q (sumQ (· - ·) p q) w := by
  have h := fsub_any (qN p) (qD p) (qN q) (qD q) w (gdO_zs hp) (gdO_zs hq)
  rw [gdO_rd hp, gdO_rd hq] at h
  exact h
theorem mulO_any : OpO 25 p q (mulQ p q) w := by
  have h := fmul_any (qN p) (qD p) (qN q) (qD q) w (gdO_zs hp) (gdO_zs hq)
  rw [gdO_rd hp, gdO_rd hq] at h
  exact h
theorem divO_any : OpO 34 p q (divQ p q) w := by
  have h := fdiv_any (qN p) (qD p) (qN q) (qD q) w (gdO_zs hp) (gdO_zs hq)
  rw [gdO_rd hp, gdO_rd hq] at h
  exact h
end
end Go.Proofs.Ytnacgdkihkfjkaa
