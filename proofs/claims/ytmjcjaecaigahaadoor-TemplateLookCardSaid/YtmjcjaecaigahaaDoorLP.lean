/- The contract of Within: a loop over pieces that returns. Conditions: the slices read. | The contract of the reference's Same. Conditions: the slices read. | The contract of Same. Conditions: the slices read. -/
import Derived.Test.YtmjcjaecaigahaaDoorLO
import Derived.Test.YtmjcjaecaigahaaDoorLG
import Derived.Test.YtmjcjaecaigahaaDoorLH
namespace Go.Proofs.YtmjcjaecaigahaaDoor
open Go.RowKit Go.Shelf Go.Lib
attribute [local go_sem] Oper.semAt_some

def NearPc (px py z : Int) (x : Pc) : Prop := NearP x.1.1 x.1.2 x.2.1 x.2.2 px py z
instance (px py z : Int) (x : Pc) : Decidable (NearPc px py z x) := by unfold NearPc; infer_instance
end Go.Proofs.YtmjcjaecaigahaaDoor
namespace Go.Proofs.YtmjcjaecaigahaaDoor
open Go.RowKit Go.Lib Go.Shelf

/-- Equal strokes. -/
def SameS (P N P2 N2 : Int) (ds es : List Dt) : Prop := P = P2 ∧ N = N2 ∧ ds = es
instance (P N P2 N2 : Int) (ds es : List Dt) : Decidable (SameS P N P2 N2 ds es) := by unfold SameS; infer_instance
end Go.Proofs.YtmjcjaecaigahaaDoor
namespace Go.Proofs.YtmjcjaecaigahaaDoor
open Go.RowKit Go.Lib Go.Shelf

end Go.Proofs.YtmjcjaecaigahaaDoor
