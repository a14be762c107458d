
/- Regions over all worlds that meet a condition: an operation that its guard leaves out, taken first. No conditions. -/
import Derived.Test.YtbcgfohacbapoaaGrw5
namespace Go.Proofs.Ytbcgfohacbapoaa
open Go.RowKit Go.Lib

section
variable {P : Program} {ops : Array Oper} {Q : Exit → Act → World → Prop} {md : Region.Mode} {S : World → Prop}
theorem grow_skip {fuel : Nat} {listed : Array Bool} {a : Act} {I : World → Prop} {oi : Oper} (i : Nat) (d : Option Nat) (hi : ops[i]? = some oi) (hd : oi.dst = d) (hm : mayB md ops listed i = true)
    (hQ : ∀ c a w, Q (.panic c) (a.put d undef) w → Q (.panic c) a w) (hw : Region.wanted oi (yielded ops a.tmps) = false) (hI : Calm S I)
    (h : Grow P md ops Q S fuel (listed.setIfInBounds i true) (a.put d undef) I) : Grow P md ops Q S (fuel + 1) listed a I := by
  subst hd
  simp only [mayB, Bool.and_eq_true] at hm
  exact Grow.first hi (Region.noSelect_spec hm.1.1) hQ fuel listed a I (Region.free_spec hi hm.1.2) (by simpa using hm.2) (.inr ⟨hw, rfl⟩) hI h
end
end Go.Proofs.Ytbcgfohacbapoaa
