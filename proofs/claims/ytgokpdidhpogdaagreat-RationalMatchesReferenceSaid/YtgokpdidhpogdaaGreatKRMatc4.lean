/- RationalMatchesReference, proved: for every input the statement answers true, and what came in reads afterwards as it did. No further conditions. -/
import Derived.Test.YtgokpdidhpogdaaGreatGT
import Derived.Test.YtgokpdidhpogdaaGreatKMatL4
namespace Go.Proofs.YtgokpdidhpogdaaGreat
open Go.ChangeShapes Go.WideShapes Go.ChangeAt Go.WideMaps Go.WideElems Go.RowKit Go.ChangeMaps

set_option maxRecDepth 100000 in
theorem rationalMatchesReference_lifted (os : Os) (started : os.Started) (H : Type) (enc : TypeId × Value → H) :
    ReturnsInHanded {} Tryz.checked os 3 .any (Rows.rationalMatchesReferenceSpec.pre6 enc Tryz.prog Tryz.f3 Rows.rationalMatchesReferenceRow.domain false) (Rows.rationalMatchesReferenceSpec.post enc Tryz.prog Tryz.f3 false true false false) := by
  refine returnsInHanded_of_change (C := Tryz.checked) own started (by kernel_rfl) Tryz.func3
    (ChangeSpec.witness6 (enc := enc) (C := Tryz.checked) false ⟨#[], #[.agg #[.string ⟨#[]⟩, .string ⟨#[]⟩], .agg #[.string ⟨#[]⟩, .string ⟨#[]⟩], .agg #[.int .i64 0, .int .i64 0, .int .i64 0, .int .i64 0], .agg #[.int .i64 0, .int .i64 0, .int .i64 0, .int .i64 0], .agg #[.int .i64 0, .int .i64 0], .int .i64 0, .int .i64 0, .int .i64 0], []⟩ 8 (by kernel_rfl) (by kernel_rfl) (by kernel_rfl) (by kernel_rfl)) ?_
  intro W base args ds gs before hval0 hW hcnd _
  have hval : ∀ (j : Nat) t v, Tryz.f3.params[j]? = some t → args[j]? = some v → Value.okWide Tryz.prog W .any base t v := hval0
  have hW' := hW
  obtain ⟨p, q, hA0, hV, rfl, hfz, hnd⟩ := hW
  have hA : DataW.TrodAll enc Tryz.prog W 0 (fun _ => true) true Tryz.f3.params.toList args.toList ds p := hA0
  rw [Tryz.params3] at hA hval
  obtain ⟨v0, vs0, d0, ds0, p0, q0, hargs, rfl, rfl, r0, s0⟩ := trodAll_cons hA
  obtain ⟨v1, vs1, d1, ds1, p1, q1, rfl, rfl, rfl, r1, s1⟩ := trodAll_cons s0
  obtain ⟨v2, vs2, d2, ds2, p2, q2, rfl, rfl, rfl, r2, s2⟩ := trodAll_cons s1
  obtain ⟨v3, vs3, d3, ds3, p3, q3, rfl, rfl, rfl, r3, s3⟩ := trodAll_cons s2
  obtain ⟨v4, vs4, d4, ds4, p4, q4, rfl, rfl, rfl, r4, s4⟩ := trodAll_cons s3
  obtain ⟨v5, vs5, d5, ds5, p5, q5, rfl, rfl, rfl, r5, s5⟩ := trodAll_cons s4
  obtain ⟨v6, vs6, d6, ds6, p6, q6, rfl, rfl, rfl, r6, s6⟩ := trodAll_cons s5
  obtain ⟨v7, vs7, d7, ds7, p7, q7, rfl, rfl, rfl, r7, s7⟩ := trodAll_cons s6
  obtain ⟨rfl, rfl, rfl⟩ := trodAll_nil s7
  obtain rfl : args = #[v0, v1, v2, v3, v4, v5, v6, v7] := by cases args; simp_all
  obtain ⟨rfl, rfl⟩ := trodVars_none hV
  obtain ⟨a0_0, a0_1, rfl, rfl, rfl, h0_0, h0_1⟩ := open_ratio Tryz.underlying23 ⟨rfl, rfl⟩ ⟨rfl, rfl⟩ Tryz.underlying9 (by kernel_rfl) (by kernel_rfl) (hval 0 23 v0 rfl rfl) r0
  unfold maxLen at h0_0 h0_1
  obtain ⟨a1_0, a1_1, rfl, rfl, rfl, h1_0, h1_1⟩ := open_ratio Tryz.underlying23 ⟨rfl, rfl⟩ ⟨rfl, rfl⟩ Tryz.underlying9 (by kernel_rfl) (by kernel_rfl) (hval 1 23 v1 rfl rfl) r1
  unfold maxLen at h1_0 h1_1
  obtain ⟨z2, l2, rfl, rfl, rfl, b2⟩ := open_ints Tryz.underlying24 Tryz.underlying3 (by kernel_rfl) (by kernel_rfl) (hval 2 24 v2 rfl rfl) r2
  obtain ⟨a2_0, a2_1, a2_2, a2_3, rfl⟩ := four_of l2
  have h2_0 := b2 a2_0 (by simp)
  have h2_1 := b2 a2_1 (by simp)
  have h2_2 := b2 a2_2 (by simp)
  have h2_3 := b2 a2_3 (by simp)
  obtain ⟨z3, l3, rfl, rfl, rfl, b3⟩ := open_ints Tryz.underlying24 Tryz.underlying3 (by kernel_rfl) (by kernel_rfl) (hval 3 24 v3 rfl rfl) r3
  obtain ⟨a3_0, a3_1, a3_2, a3_3, rfl⟩ := four_of l3
  have h3_0 := b3 a3_0 (by simp)
  have h3_1 := b3 a3_1 (by simp)
  have h3_2 := b3 a3_2 (by simp)
  have h3_3 := b3 a3_3 (by simp)
  obtain ⟨z4, l4, rfl, rfl, rfl, b4⟩ := open_ints Tryz.underlying25 Tryz.underlying3 (by kernel_rfl) (by kernel_rfl) (hval 4 25 v4 rfl rfl) r4
  obtain ⟨a4_0, a4_1, rfl⟩ := two_of l4
  have h4_0 := b4 a4_0 (by simp)
  have h4_1 := b4 a4_1 (by simp)
  obtain ⟨a5, rfl, rfl, rfl, w5⟩ := open_int Tryz.underlying3 (hval 5 3 v5 rfl rfl) r5
  have h5 := wf_int w5
  obtain ⟨a6, rfl, rfl, rfl, w6⟩ := open_int Tryz.underlying3 (hval 6 3 v6 rfl rfl) r6
  have h6 := wf_int w6
  obtain ⟨a7, rfl, rfl, rfl, w7⟩ := open_int Tryz.underlying3 (hval 7 3 v7 rfl rfl) r7
  have h7 := wf_int w7
  clear hA0 hval0
  refine (mat_law a0_0 a0_1 a1_0 a1_1 a2_0 a2_1 a2_2 a2_3 a3_0 a3_1 a3_2 a3_3 a4_0 a4_1 a5 a6 a7 W h2_0 h2_1 h2_2 h2_3 h3_0 h3_1 h3_2 h3_3 h4_0 h4_1 h5 h6 h7).mono fun e W' ⟨he, hb⟩ => ?_
  subst he
  exact ⟨_, rfl, law_post rfl rfl (by kernel_rfl) rfl hW' hb⟩

/-- The statement. -/
theorem rationalMatchesReference_holds : Rows.RationalMatchesReferenceSaid :=
  OpenClaim.holds_of_wide 3 Tryz.f3 rfl rfl rfl rfl rfl rfl rfl ⟨rfl, rfl, rfl, rfl, rfl⟩ rfl rfl rfl rfl rfl (by kernel_rfl) Tryz.func3 (by kernel_rfl)
    (of_decide_eq_true (by kernel_rfl)) (by unfold Func.isWrapper; first | (rw [if_pos (by decide +kernel)]; kernel_rfl) | (rw [if_neg (by decide +kernel)]; exact ⟨rfl, rfl⟩))
    (fun os started H enc _ => rationalMatchesReference_lifted os started H enc)
#print axioms rationalMatchesReference_holds
end Go.Proofs.YtgokpdidhpogdaaGreat
