/- PlaneSides answers true. Conditions: ints. -/
import Derived.Test.YtpjbihfkedbenaaGreatHJ
namespace Go.Proofs.YtpjbihfkedbenaaGreat
open Go.RowKit Go.Lib
end Go.Proofs.YtpjbihfkedbenaaGreat
