/- PlaneRects, proved: for every input the statement answers true, and what came in reads afterwards as it did. No further conditions. -/
import Derived.Test.YtpjbihfkedbenaaGreatHK
import Derived.Test.YtpjbihfkedbenaaGreatHN
namespace Go.Proofs.YtpjbihfkedbenaaGreat
open Go.ChangeShapes Go.WideShapes Go.ChangeAt Go.WideMaps Go.WideElems Go.RowKit Go.ChangeMaps
set_option maxRecDepth 100000 in
theorem planeRects_lifted (os : Os) (started : os.Started) (H : Type) (enc : TypeId × Value -> H) :
   ReturnsInHanded {} Tryz.checked os 4 .any (Rows.planeRectsSpec.pre6 enc Tryz.prog Tryz.f4 Rows.planeRectsRow.domain false) (Rows.planeRectsSpec.post enc Tryz.prog Tryz.f4 false true false false) := by
 refine returnsInHanded_of_change (C := Tryz.checked) own started (by kernel_rfl) Tryz.func4
   (ChangeSpec.witness6 (enc := enc) (C := Tryz.checked) false ⟨#[], #[.agg #[.int .i64 0, .int .i64 0, .int .i64 0, .int .i64 0, .int .i64 0, .int .i64 0, .int .i64 0, .int .i64 0, .int .i64 0, .int .i64 0, .int .i64 0, .int .i64 0], .slice none 0 0, .agg #[.int .i64 0, .int .i64 0]], []⟩ 8 (by kernel_rfl) (by kernel_rfl) (by kernel_rfl) (by kernel_rfl)) ?_
 intro W base args ds gs before hval0 hW hcnd _
 have hval : ∀ (j : Nat) t v, Tryz.f4.params[j]? = some t -> args[j]? = some v -> Value.okWide Tryz.prog W .any base t v := hval0
 have hW' := hW
 obtain ⟨p, q, hA0, hV, rfl, hfz, hnd⟩ := hW
 have hA : DataW.TrodAll enc Tryz.prog W 0 (fun _ => true) true Tryz.f4.params.toList args.toList ds p := hA0
 rw [Tryz.params4] at hA hval
 obtain ⟨v0, vs0, d0, ds0, p0, q0, hargs, rfl, rfl, r0, s0⟩ := trodAll_cons hA
 obtain ⟨v1, vs1, d1, ds1, p1, q1, rfl, rfl, rfl, r1, s1⟩ := trodAll_cons s0
 obtain ⟨v2, vs2, d2, ds2, p2, q2, rfl, rfl, rfl, r2, s2⟩ := trodAll_cons s1
 obtain ⟨rfl, rfl, rfl⟩ := trodAll_nil s2
 obtain rfl : args = #[v0, v1, v2] := by cases args; simp_all
 obtain ⟨rfl, rfl⟩ := trodVars_none hV
 obtain ⟨z0, l0, rfl, b0⟩ := open_arrs (n := 3) (m0 := 4) (by omega) Tryz.underlying36 Tryz.underlying35 Tryz.underlying3 (by kernel_rfl) (by kernel_rfl) (by kernel_rfl) (hval 0 36 v0 rfl rfl) r0
 obtain ⟨a0_0, a0_1, a0_2, a0_3, a0_4, a0_5, a0_6, a0_7, a0_8, a0_9, a0_10, a0_11, rfl⟩ := twelve_of l0
 have h0_0 := b0 a0_0 (by simp)
 have h0_1 := b0 a0_1 (by simp)
 have h0_2 := b0 a0_2 (by simp)
 have h0_3 := b0 a0_3 (by simp)
 have h0_4 := b0 a0_4 (by simp)
 have h0_5 := b0 a0_5 (by simp)
 have h0_6 := b0 a0_6 (by simp)
 have h0_7 := b0 a0_7 (by simp)
 have h0_8 := b0 a0_8 (by simp)
 have h0_9 := b0 a0_9 (by simp)
 have h0_10 := b0 a0_10 (by simp)
 have h0_11 := b0 a0_11 (by simp)
 obtain ⟨A1, n1, c1, rfl, h1, k1⟩ := open_rows (m0 := 2) (by omega) Tryz.underlying22 Tryz.underlying37 Tryz.underlying3 (by kernel_rfl) (by kernel_rfl) (hval 1 22 v1 rfl rfl) r1
 obtain ⟨z2, l2, rfl, rfl, rfl, b2⟩ := open_ints Tryz.underlying37 Tryz.underlying3 (by kernel_rfl) (by kernel_rfl) (hval 2 37 v2 rfl rfl) r2
 obtain ⟨a2_0, a2_1, rfl⟩ := two_of l2
 have h2_0 := b2 a2_0 (by simp)
 have h2_1 := b2 a2_1 (by simp)
 clear hA0 hval0
 refine (plane_rects a0_0 a0_1 a0_2 a0_3 a0_4 a0_5 a0_6 a0_7 a0_8 a0_9 a0_10 a0_11 A1 n1 c1 a2_0 a2_1 W h0_0 h0_1 h0_2 h0_3 h0_4 h0_5 h0_6 h0_7 h0_8 h0_9 h0_10 h0_11 h1 k1 h2_0 h2_1).mono fun e W' ⟨he, hb⟩ => ?_
 subst he
 exact ⟨_, rfl, law_post rfl rfl (by kernel_rfl) rfl hW' hb⟩
theorem planeRects_holds : Rows.PlaneRectsSaid :=
 OpenClaim.holds_of_wide 4 Tryz.f4 rfl rfl rfl rfl rfl rfl rfl ⟨rfl, rfl, rfl, rfl, rfl⟩ rfl rfl rfl rfl rfl (by kernel_rfl) Tryz.func4 (by kernel_rfl)
   (of_decide_eq_true (by kernel_rfl)) (by unfold Func.isWrapper; first | (rw [if_pos (by decide +kernel)]; kernel_rfl) | (rw [if_neg (by decide +kernel)]; exact ⟨rfl, rfl⟩))
   (fun os started H enc _ => planeRects_lifted os started H enc)
#print axioms planeRects_holds
end Go.Proofs.YtpjbihfkedbenaaGreat
