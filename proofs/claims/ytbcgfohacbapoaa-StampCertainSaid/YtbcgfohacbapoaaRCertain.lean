
/- StampCertain, proved: for every input the statement answers true, and what came in reads afterwards as it did. No further conditions. -/
import Derived.Test.YtbcgfohacbapoaaOp6
import Derived.Test.YtbcgfohacbapoaaCt6
namespace Go.Proofs.Ytbcgfohacbapoaa
open Go.ChangeShapes Go.WideShapes Go.ChangeAt Go.WideMaps Go.WideElems Go.RowKit Go.ChangeMaps

set_option maxRecDepth 100000 in
theorem stampCertain_lifted (os : Os) (started : os.Started) (H : Type) (enc : TypeId × Value → H) :
    ReturnsInHanded {} Try.checked os 9 .any (Rows.stampCertainSpec.pre6 enc Try.prog Try.f9 Rows.stampCertainRow.domain false) (Rows.stampCertainSpec.post enc Try.prog Try.f9 false true false false) := by
  refine returnsInHanded_of_change (C := Try.checked) own started (by kernel_rfl) Try.func9
    (ChangeSpec.witness6 (enc := enc) (C := Try.checked) false ⟨#[], #[.slice none 0 0, .slice none 0 0, .agg #[.int .i64 0, .int .i64 0, .int .i64 0], .agg #[.int .i64 0, .int .i64 0, .int .i64 0]], []⟩ 8 (by kernel_rfl) (by kernel_rfl) (by kernel_rfl) (by kernel_rfl)) ?_
  intro W base args ds gs before hval0 hW hcnd _
  have hval : ∀ (j : Nat) t v, Try.f9.params[j]? = some t → args[j]? = some v → Value.okWide Try.prog W .any base t v := hval0
  have hW' := hW
  obtain ⟨p, q, hA0, hV, rfl, hfz, hnd⟩ := hW
  have hA : DataW.TrodAll enc Try.prog W 0 (fun _ => true) true Try.f9.params.toList args.toList ds p := hA0
  rw [Try.params9] at hA hval
  obtain ⟨v0, vs0, d0, ds0, p0, q0, hargs, rfl, rfl, r0, s0⟩ := trodAll_cons hA
  obtain ⟨v1, vs1, d1, ds1, p1, q1, rfl, rfl, rfl, r1, s1⟩ := trodAll_cons s0
  obtain ⟨v2, vs2, d2, ds2, p2, q2, rfl, rfl, rfl, r2, s2⟩ := trodAll_cons s1
  obtain ⟨v3, vs3, d3, ds3, p3, q3, rfl, rfl, rfl, r3, s3⟩ := trodAll_cons s2
  obtain ⟨rfl, rfl, rfl⟩ := trodAll_nil s3
  obtain rfl : args = #[v0, v1, v2, v3] := by cases args; simp_all
  obtain ⟨rfl, rfl⟩ := trodVars_none hV
  obtain ⟨A0, n0, c0, rfl, h0, k0⟩ := open_rows (m0 := 2) (by omega) Try.underlying58 Try.underlying31 Try.underlying3 (by kernel_rfl) (by kernel_rfl) (hval 0 58 v0 rfl rfl) r0
  obtain ⟨A1, n1, c1, rfl, h1, k1⟩ := open_rows (m0 := 3) (by omega) Try.underlying22 Try.underlying70 Try.underlying3 (by kernel_rfl) (by kernel_rfl) (hval 1 22 v1 rfl rfl) r1
  obtain ⟨z2, l2, rfl, rfl, rfl, b2⟩ := open_ints Try.underlying70 Try.underlying3 (by kernel_rfl) (by kernel_rfl) (hval 2 70 v2 rfl rfl) r2
  obtain ⟨a2_0, a2_1, a2_2, rfl⟩ := three_of l2
  have h2_0 := b2 a2_0 (by simp)
  have h2_1 := b2 a2_1 (by simp)
  obtain ⟨z3, l3, rfl, rfl, rfl, b3⟩ := open_ints Try.underlying70 Try.underlying3 (by kernel_rfl) (by kernel_rfl) (hval 3 70 v3 rfl rfl) r3
  obtain ⟨a3_0, a3_1, a3_2, rfl⟩ := three_of l3
  have h3_0 := b3 a3_0 (by simp)
  have h3_1 := b3 a3_1 (by simp)
  clear hA0 hval0
  refine (certain_law A0 n0 c0 A1 n1 c1 a2_0 a2_1 a2_2 a3_0 a3_1 a3_2 W h0 k0 h1 k1 h2_0 h2_1 h3_0 h3_1).mono fun e W' ⟨he, hb⟩ => ?_
  subst he
  exact ⟨_, rfl, law_post rfl rfl (by kernel_rfl) rfl hW' hb⟩

/-- The statement. -/
theorem stampCertain_holds : Rows.StampCertainSaid :=
  OpenClaim.holds_of_wide 9 Try.f9 rfl rfl rfl rfl rfl rfl rfl ⟨rfl, rfl, rfl, rfl, rfl⟩ rfl rfl rfl rfl rfl (by kernel_rfl) Try.func9 (by kernel_rfl)
    (of_decide_eq_true (by kernel_rfl)) (by unfold Func.isWrapper; first | (rw [if_pos (by decide +kernel)]; kernel_rfl) | (rw [if_neg (by decide +kernel)]; exact ⟨rfl, rfl⟩))
    (fun os started H enc _ => stampCertain_lifted os started H enc)
#print axioms stampCertain_holds
end Go.Proofs.Ytbcgfohacbapoaa
