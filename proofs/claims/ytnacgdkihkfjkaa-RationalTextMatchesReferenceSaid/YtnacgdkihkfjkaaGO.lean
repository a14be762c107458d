/- The operations on fractions or nothing, as values; the contract of the statements' helper four. Conditions: what is there is in lowest terms, of at most 200 digits. -/
import Derived.Test.YtnacgdkihkfjkaaGK
import Derived.Test.YtnacgdkihkfjkaaGN
namespace Go.Proofs.Ytnacgdkihkfjkaa
open Go.RowKit Go.Lib

/-- What is there is good. -/
def GdO (r : Option (Int × Int)) : Prop := ∀ q, r = some q → Good q
theorem gdO_rd {r : Option (Int × Int)} (h : GdO r) : rdQ (qN r).data.toList (qD r).data.toList = r := by
  cases r with
  | none => decide +kernel
  | some q => exact good_rd (h q rfl)
theorem gdO_zs {r : Option (Int × Int)} (h : GdO r) : (qN r).size ≤ 9000000000000000000 ∧ (qD r).size ≤ 9000000000000000000 := by
  cases r with
  | none => exact ⟨Nat.zero_le _, Nat.zero_le _⟩
  | some q => exact good_zs (h q rfl)
theorem gdO_some {q : Int × Int} (h : Good q) : GdO (some q) := fun _ e => by cases e; exact h
theorem gdO_none : GdO none := fun _ e => by cases e
theorem gdO_sum {f : Int → Int → Int} {p q : Option (Int × Int)} : GdO (sumQ f p q) := fun r h => by
  cases p with
  | none => cases h
  | some p =>
    cases q with
    | none => cases h
    | some q => exact sum_good h
theorem gdO_mul {p q : Option (Int × Int)} : GdO (mulQ p q) := fun r h => by
  cases p with
  | none => cases h
  | some p =>
    cases q with
    | none => cases h
    | some q => exact mul_good h
theorem gdO_div {p q : Option (Int × Int)} : GdO (divQ p q) := fun r h => by
  cases p with
  | none => cases h
  | some p =>
    cases q with
    | none => cases h
    | some q => exact div_good h
/-- What an operation on two fractions answers. -/
def OpO (F : FuncId) (p q r : Option (Int × Int)) (w : World) : Prop :=
  Calls Try.prog F #[.agg #[.string (qN p), .string (qD p)], .agg #[.string (qN q), .string (qD q)]] w fun e w' => e = .returned (.tuple #[.agg #[.string (qN r), .string (qD r)], .int .i64 (qE r)]) ∧ Below w.heap.size w w'
section
variable {p q : Option (Int × Int)} (hp : GdO p) (hq : GdO q) (w : World)
include hp hq
theorem addO_any : OpO 24 p q (sumQ (· + ·) p q) w := by
  have h := fadd_any (qN p) (qD p) (qN q) (qD q) w (gdO_zs hp) (gdO_zs hq)
  rw [gdO_rd hp, gdO_rd hq] at h
  exact h
theorem subO_any : OpO 26 p q (sumQ (· - ·) p q) w := by
  have h := fsub_any (qN p) (qD p) (qN q) (qD q) w (gdO_zs hp) (gdO_zs hq)
  rw [gdO_rd hp, gdO_rd hq] at h
  exact h
theorem mulO_any : OpO 25 p q (mulQ p q) w := by
  have h := fmul_any (qN p) (qD p) (qN q) (qD q) w (gdO_zs hp) (gdO_zs hq)
  rw [gdO_rd hp, gdO_rd hq] at h
  exact h
theorem divO_any : OpO 34 p q (divQ p q) w := by
  have h := fdiv_any (qN p) (qD p) (qN q) (qD q) w (gdO_zs hp) (gdO_zs hq)
  rw [gdO_rd hp, gdO_rd hq] at h
  exact h
end
end Go.Proofs.Ytnacgdkihkfjkaa
