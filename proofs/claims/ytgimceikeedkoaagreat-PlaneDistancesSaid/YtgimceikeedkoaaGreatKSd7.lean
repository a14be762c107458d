/- PlaneSides answers true. Conditions: ints. -/
import Derived.Test.YtgimceikeedkoaaGreatHJ
namespace Go.Proofs.YtgimceikeedkoaaGreat
open Go.RowKit Go.Lib

theorem mv7_ok (x y u v : Int) : (mv7 (plc7 x y) (pk7 u 1000) (pk7 v 1000)).ok := by
  have h1 := plc7_in x y; have h2 := pk7_in u (n := 1000) (by omega); have h3 := pk7_in v (n := 1000) (by omega)
  unfold P7.ok mv7; simp only; omega
end Go.Proofs.YtgimceikeedkoaaGreat
