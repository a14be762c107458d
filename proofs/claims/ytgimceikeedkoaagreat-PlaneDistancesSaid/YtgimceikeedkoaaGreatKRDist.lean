/- PlaneDistances, proved: for every input the statement answers true, and what came in reads afterwards as it did. No further conditions. -/
import Derived.Test.YtgimceikeedkoaaGreatHK
import Derived.Test.YtgimceikeedkoaaGreatKDt7
namespace Go.Proofs.YtgimceikeedkoaaGreat
open Go.ChangeShapes Go.WideShapes Go.ChangeAt Go.WideMaps Go.WideElems Go.RowKit Go.ChangeMaps

set_option maxRecDepth 100000 in
theorem planeDistances_lifted (os : Os) (started : os.Started) (H : Type) (enc : TypeId × Value → H) :
    ReturnsInHanded {} Tryz.checked os 7 .any (Rows.planeDistancesSpec.pre6 enc Tryz.prog Tryz.f7 Rows.planeDistancesRow.domain false) (Rows.planeDistancesSpec.post enc Tryz.prog Tryz.f7 false true false false) := by
  refine returnsInHanded_of_change (C := Tryz.checked) own started (by kernel_rfl) Tryz.func7
    (ChangeSpec.witness6 (enc := enc) (C := Tryz.checked) false ⟨#[], #[.agg #[.int .i64 0, .int .i64 0, .int .i64 0, .int .i64 0, .int .i64 0, .int .i64 0], .agg #[.int .i64 0, .int .i64 0]], []⟩ 8 (by kernel_rfl) (by kernel_rfl) (by kernel_rfl) (by kernel_rfl)) ?_
  intro W base args ds gs before hval0 hW hcnd _
  have hval : ∀ (j : Nat) t v, Tryz.f7.params[j]? = some t → args[j]? = some v → Value.okWide Tryz.prog W .any base t v := hval0
  have hW' := hW
  obtain ⟨p, q, hA0, hV, rfl, hfz, hnd⟩ := hW
  have hA : DataW.TrodAll enc Tryz.prog W 0 (fun _ => true) true Tryz.f7.params.toList args.toList ds p := hA0
  rw [Tryz.params7] at hA hval
  obtain ⟨v0, vs0, d0, ds0, p0, q0, hargs, rfl, rfl, r0, s0⟩ := trodAll_cons hA
  obtain ⟨v1, vs1, d1, ds1, p1, q1, rfl, rfl, rfl, r1, s1⟩ := trodAll_cons s0
  obtain ⟨rfl, rfl, rfl⟩ := trodAll_nil s1
  obtain rfl : args = #[v0, v1] := by cases args; simp_all
  obtain ⟨rfl, rfl⟩ := trodVars_none hV
  obtain ⟨z0, l0, rfl, b0⟩ := open_arrs (n := 3) (m0 := 2) (by omega) Tryz.underlying56 Tryz.underlying55 Tryz.underlying3 (by kernel_rfl) (by kernel_rfl) (by kernel_rfl) (hval 0 56 v0 rfl rfl) r0
  obtain ⟨a0_0, a0_1, a0_2, a0_3, a0_4, a0_5, rfl⟩ := six_of7 l0
  have h0_0 := b0 a0_0 (by simp)
  have h0_1 := b0 a0_1 (by simp)
  have h0_2 := b0 a0_2 (by simp)
  have h0_3 := b0 a0_3 (by simp)
  have h0_4 := b0 a0_4 (by simp)
  have h0_5 := b0 a0_5 (by simp)
  obtain ⟨z1, l1, rfl, rfl, rfl, b1⟩ := open_ints Tryz.underlying55 Tryz.underlying3 (by kernel_rfl) (by kernel_rfl) (hval 1 55 v1 rfl rfl) r1
  obtain ⟨a1_0, a1_1, rfl⟩ := two_of l1
  have h1_0 := b1 a1_0 (by simp)
  have h1_1 := b1 a1_1 (by simp)
  clear hA0 hval0
  refine (plane_distances a0_0 a0_1 a0_2 a0_3 a0_4 a0_5 a1_0 a1_1 W h0_0 h0_1 h0_2 h0_3 h0_4 h0_5 h1_0 h1_1).mono fun e W' ⟨he, hb⟩ => ?_
  subst he
  exact ⟨_, rfl, law_post rfl rfl (by kernel_rfl) rfl hW' hb⟩

/-- The statement. -/
theorem planeDistances_holds : Rows.PlaneDistancesSaid :=
  OpenClaim.holds_of_wide 7 Tryz.f7 rfl rfl rfl rfl rfl rfl rfl ⟨rfl, rfl, rfl, rfl, rfl⟩ rfl rfl rfl rfl rfl (by kernel_rfl) Tryz.func7 (by kernel_rfl)
    (of_decide_eq_true (by kernel_rfl)) (by unfold Func.isWrapper; first | (rw [if_pos (by decide +kernel)]; kernel_rfl) | (rw [if_neg (by decide +kernel)]; exact ⟨rfl, rfl⟩))
    (fun os started H enc _ => planeDistances_lifted os started H enc)
#print axioms planeDistances_holds
end Go.Proofs.YtgimceikeedkoaaGreat
