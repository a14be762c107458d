/- RationalTextMatchesReference, proved: for every input the statement answers true, and what came in reads afterwards as it did. No further conditions. -/
import Derived.Test.YtnacgdkihkfjkaaGT
import Derived.Test.YtnacgdkihkfjkaaKTxtL4
namespace Go.Proofs.Ytnacgdkihkfjkaa
open Go.ChangeShapes Go.WideShapes Go.ChangeAt Go.WideMaps Go.WideElems Go.RowKit Go.ChangeMaps

set_option maxRecDepth 100000 in
theorem rationalTextMatchesReference_lifted (os : Os) (started : os.Started) (H : Type) (enc : TypeId × Value → H) :
    ReturnsInHanded {} Try.checked os 3 .any (Rows.rationalTextMatchesReferenceSpec.pre6 enc Try.prog Try.f3 Rows.rationalTextMatchesReferenceRow.domain false) (Rows.rationalTextMatchesReferenceSpec.post enc Try.prog Try.f3 false true false false) := by
  refine returnsInHanded_of_change (C := Try.checked) own started (by kernel_rfl) Try.func3
    (ChangeSpec.witness6 (enc := enc) (C := Try.checked) false ⟨#[], #[.agg #[.string ⟨#[]⟩, .string ⟨#[]⟩], .agg #[.int .i64 0, .int .i64 0, .int .i64 0, .int .i64 0], .int .i64 0, .int .u8 0, .string ⟨#[]⟩], []⟩ 8 (by kernel_rfl) (by kernel_rfl) (by kernel_rfl) (by kernel_rfl)) ?_
  intro W base args ds gs before hval0 hW hcnd _
  have hval : ∀ (j : Nat) t v, Try.f3.params[j]? = some t → args[j]? = some v → Value.okWide Try.prog W .any base t v := hval0
  have hW' := hW
  obtain ⟨p, q, hA0, hV, rfl, hfz, hnd⟩ := hW
  have hA : DataW.TrodAll enc Try.prog W 0 (fun _ => true) true Try.f3.params.toList args.toList ds p := hA0
  rw [Try.params3] at hA hval
  obtain ⟨v0, vs0, d0, ds0, p0, q0, hargs, rfl, rfl, r0, s0⟩ := trodAll_cons hA
  obtain ⟨v1, vs1, d1, ds1, p1, q1, rfl, rfl, rfl, r1, s1⟩ := trodAll_cons s0
  obtain ⟨v2, vs2, d2, ds2, p2, q2, rfl, rfl, rfl, r2, s2⟩ := trodAll_cons s1
  obtain ⟨v3, vs3, d3, ds3, p3, q3, rfl, rfl, rfl, r3, s3⟩ := trodAll_cons s2
  obtain ⟨v4, vs4, d4, ds4, p4, q4, rfl, rfl, rfl, r4, s4⟩ := trodAll_cons s3
  obtain ⟨rfl, rfl, rfl⟩ := trodAll_nil s4
  obtain rfl : args = #[v0, v1, v2, v3, v4] := by cases args; simp_all
  obtain ⟨rfl, rfl⟩ := trodVars_none hV
  obtain ⟨a0_0, a0_1, rfl, rfl, rfl, h0_0, h0_1⟩ := open_ratio Try.underlying23 ⟨rfl, rfl⟩ ⟨rfl, rfl⟩ Try.underlying9 (by kernel_rfl) (by kernel_rfl) (hval 0 23 v0 rfl rfl) r0
  unfold maxLen at h0_0 h0_1
  obtain ⟨z1, l1, rfl, rfl, rfl, b1⟩ := open_ints Try.underlying24 Try.underlying3 (by kernel_rfl) (by kernel_rfl) (hval 1 24 v1 rfl rfl) r1
  obtain ⟨a1_0, a1_1, a1_2, a1_3, rfl⟩ := four_of l1
  have h1_0 := b1 a1_0 (by simp)
  have h1_1 := b1 a1_1 (by simp)
  have h1_2 := b1 a1_2 (by simp)
  have h1_3 := b1 a1_3 (by simp)
  obtain ⟨a2, rfl, rfl, rfl, w2⟩ := open_int Try.underlying3 (hval 2 3 v2 rfl rfl) r2
  have h2 := wf_int w2
  obtain ⟨a3, rfl, rfl, rfl, w3⟩ := open_int Try.underlying5 (hval 3 5 v3 rfl rfl) r3
  have h3 := wf_u8 w3
  obtain ⟨a4, rfl, rfl, rfl, h4⟩ := open_string Try.underlying9 (hval 4 9 v4 rfl rfl) r4
  unfold maxLen at h4
  clear hA0 hval0
  refine (text_law a0_0 a0_1 a1_0 a1_1 a1_2 a1_3 a2 a3 a4 W h1_0 h1_1 h1_2 h1_3 h2 h3 h4).mono fun e W' ⟨he, hb⟩ => ?_
  subst he
  exact ⟨_, rfl, law_post rfl rfl (by kernel_rfl) rfl hW' hb⟩

/-- The statement. -/
theorem rationalTextMatchesReference_holds : Rows.RationalTextMatchesReferenceSaid :=
  OpenClaim.holds_of_wide 3 Try.f3 rfl rfl rfl rfl rfl rfl rfl ⟨rfl, rfl, rfl, rfl, rfl⟩ rfl rfl rfl rfl rfl (by kernel_rfl) Try.func3 (by kernel_rfl)
    (of_decide_eq_true (by kernel_rfl)) (by unfold Func.isWrapper; first | (rw [if_pos (by decide +kernel)]; kernel_rfl) | (rw [if_neg (by decide +kernel)]; exact ⟨rfl, rfl⟩))
    (fun os started H enc _ => rationalTextMatchesReference_lifted os started H enc)
#print axioms rationalTextMatchesReference_holds
end Go.Proofs.Ytnacgdkihkfjkaa
