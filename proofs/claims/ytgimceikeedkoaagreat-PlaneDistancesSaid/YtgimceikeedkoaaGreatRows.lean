/-
  No cell of these rows narrows 'for every input' (looked for: loops, veiled, ifaces, maps, wideKeys, modest, calm, conditions, laid).
  DERIVED. THE GIVEN ROWS OF THIS SEAT. 7 by the template 'for every input the law returns true; each argument reads behind the call as it read before'; 0 by the template 'total and deterministic' (their statements: YtgimceikeedkoaaGreatTotals.lean).
  GIVEN WITH THE SEED: the statements are not yours to turn. If you find one false, say at which input.
  Laid BY PROGRAM, IN A SANDBOX (cutbox-rows.mjs): the forced cells as the released guide's own fill.sh prints them over the translation c44cf74e3237d624… (all of the seat's roots in one cut). By AI agents, Wed Nov 11 2026. No macro, syntax, notation, axiom, sorry.
-/
import Derived.Test.YtgimceikeedkoaaGreatChecked
import GoSem.Claim
import GoSem.ClaimJoined
import GoSem.ClaimMapViews
import Derived.JoinedTies
import Derived.KernelRfl
namespace Go.Proofs.YtgimceikeedkoaaGreat
/- THE CELL 'sum', in the pinned program and in every row, IS THE sha256 OF THE DUMP (.gsa) THAT YtgimceikeedkoaaGreatProg.lean LOADS. Nothing in Lean hashes anything: it is a label: what it is worth is what the hold of that sum in a sandbox is worth. -/
noncomputable def Tryz.pinned : Pinned := { name := "ytgimceikeedkoaagreat", sum := "c44cf74e3237d6246425ed187cacdc170105c71b2dbaf8c04fcb97cd9646c0fb", checked := Tryz.checked }
namespace Rows
def none {H : Type} : Left H := { results := [], args := [] }

/-- 'slatewalllaw07.PlaneMatchesReference': WHATEVER THE INPUT: true; the input reads as it did. -/
def planeMatchesReferenceSpec : ChangeSpec := { name := "planeMatchesReference", fn := fun _ => fun
  | [d1, d2, d3, d4, d5, d6] => { results := [.lit (.bool true)], args := [d1, d2, d3, d4, d5, d6] }
  | _ => none }
def planeMatchesReferenceRow : OpenClaim := { program := "ytgimceikeedkoaagreat", sum := "c44cf74e3237d6246425ed187cacdc170105c71b2dbaf8c04fcb97cd9646c0fb", func := "slatewall/slatewalllaw07.PlaneMatchesReference", spec := "planeMatchesReference", unfollowed := true, recurses := true, apart := false }
def PlaneMatchesReferenceSaid : Prop := planeMatchesReferenceRow.holds Tryz.pinned (OpenSpec.ofChange planeMatchesReferenceSpec)

/-- ITS FALSE NEIGHBOUR: 'it returns false'. Refute it at one input. -/
def planeMatchesReferenceWrong : ChangeSpec := { name := "planeMatchesReference", fn := fun _ => fun
  | [d1, d2, d3, d4, d5, d6] => { results := [.lit (.bool false)], args := [d1, d2, d3, d4, d5, d6] }
  | _ => none }
def PlaneMatchesReferenceWrongFalsely : Prop := planeMatchesReferenceRow.holds Tryz.pinned (OpenSpec.ofChange planeMatchesReferenceWrong)

/-- 'slatewalllaw07.PlaneSides': WHATEVER THE INPUT: true; the input reads as it did. -/
def planeSidesSpec : ChangeSpec := { name := "planeSides", fn := fun _ => fun
  | [d1, d2] => { results := [.lit (.bool true)], args := [d1, d2] }
  | _ => none }
def planeSidesRow : OpenClaim := { program := "ytgimceikeedkoaagreat", sum := "c44cf74e3237d6246425ed187cacdc170105c71b2dbaf8c04fcb97cd9646c0fb", func := "slatewall/slatewalllaw07.PlaneSides", spec := "planeSides", unfollowed := true, recurses := true, apart := false }
def PlaneSidesSaid : Prop := planeSidesRow.holds Tryz.pinned (OpenSpec.ofChange planeSidesSpec)

/-- ITS FALSE NEIGHBOUR: 'it returns false'. Refute it at one input. -/
def planeSidesWrong : ChangeSpec := { name := "planeSides", fn := fun _ => fun
  | [d1, d2] => { results := [.lit (.bool false)], args := [d1, d2] }
  | _ => none }
def PlaneSidesWrongFalsely : Prop := planeSidesRow.holds Tryz.pinned (OpenSpec.ofChange planeSidesWrong)

/-- 'slatewalllaw07.PlaneCrosses': WHATEVER THE INPUT: true; the input reads as it did. -/
def planeCrossesSpec : ChangeSpec := { name := "planeCrosses", fn := fun _ => fun
  | [d] => { results := [.lit (.bool true)], args := [d] }
  | _ => none }
def planeCrossesRow : OpenClaim := { program := "ytgimceikeedkoaagreat", sum := "c44cf74e3237d6246425ed187cacdc170105c71b2dbaf8c04fcb97cd9646c0fb", func := "slatewall/slatewalllaw07.PlaneCrosses", spec := "planeCrosses", unfollowed := true, recurses := true, apart := false }
def PlaneCrossesSaid : Prop := planeCrossesRow.holds Tryz.pinned (OpenSpec.ofChange planeCrossesSpec)

/-- ITS FALSE NEIGHBOUR: 'it returns false'. Refute it at one input. -/
def planeCrossesWrong : ChangeSpec := { name := "planeCrosses", fn := fun _ => fun
  | [d] => { results := [.lit (.bool false)], args := [d] }
  | _ => none }
def PlaneCrossesWrongFalsely : Prop := planeCrossesRow.holds Tryz.pinned (OpenSpec.ofChange planeCrossesWrong)

/-- 'slatewalllaw07.PlaneHulls': WHATEVER THE INPUT: true; the input reads as it did. -/
def planeHullsSpec : ChangeSpec := { name := "planeHulls", fn := fun _ => fun
  | [d1, d2] => { results := [.lit (.bool true)], args := [d1, d2] }
  | _ => none }
def planeHullsRow : OpenClaim := { program := "ytgimceikeedkoaagreat", sum := "c44cf74e3237d6246425ed187cacdc170105c71b2dbaf8c04fcb97cd9646c0fb", func := "slatewall/slatewalllaw07.PlaneHulls", spec := "planeHulls", unfollowed := true, recurses := true, apart := false }
def PlaneHullsSaid : Prop := planeHullsRow.holds Tryz.pinned (OpenSpec.ofChange planeHullsSpec)

/-- ITS FALSE NEIGHBOUR: 'it returns false'. Refute it at one input. -/
def planeHullsWrong : ChangeSpec := { name := "planeHulls", fn := fun _ => fun
  | [d1, d2] => { results := [.lit (.bool false)], args := [d1, d2] }
  | _ => none }
def PlaneHullsWrongFalsely : Prop := planeHullsRow.holds Tryz.pinned (OpenSpec.ofChange planeHullsWrong)

/-- 'slatewalllaw07.PlaneDistances': WHATEVER THE INPUT: true; the input reads as it did. -/
def planeDistancesSpec : ChangeSpec := { name := "planeDistances", fn := fun _ => fun
  | [d1, d2] => { results := [.lit (.bool true)], args := [d1, d2] }
  | _ => none }
def planeDistancesRow : OpenClaim := { program := "ytgimceikeedkoaagreat", sum := "c44cf74e3237d6246425ed187cacdc170105c71b2dbaf8c04fcb97cd9646c0fb", func := "slatewall/slatewalllaw07.PlaneDistances", spec := "planeDistances", unfollowed := true, recurses := true, apart := false }
def PlaneDistancesSaid : Prop := planeDistancesRow.holds Tryz.pinned (OpenSpec.ofChange planeDistancesSpec)

/-- ITS FALSE NEIGHBOUR: 'it returns false'. Refute it at one input. -/
def planeDistancesWrong : ChangeSpec := { name := "planeDistances", fn := fun _ => fun
  | [d1, d2] => { results := [.lit (.bool false)], args := [d1, d2] }
  | _ => none }
def PlaneDistancesWrongFalsely : Prop := planeDistancesRow.holds Tryz.pinned (OpenSpec.ofChange planeDistancesWrong)

/-- 'slatewalllaw07.PlaneAreas': WHATEVER THE INPUT: true; the input reads as it did. -/
def planeAreasSpec : ChangeSpec := { name := "planeAreas", fn := fun _ => fun
  | [d1, d2, d3, d4] => { results := [.lit (.bool true)], args := [d1, d2, d3, d4] }
  | _ => none }
def planeAreasRow : OpenClaim := { program := "ytgimceikeedkoaagreat", sum := "c44cf74e3237d6246425ed187cacdc170105c71b2dbaf8c04fcb97cd9646c0fb", func := "slatewall/slatewalllaw07.PlaneAreas", spec := "planeAreas", unfollowed := true, recurses := true, apart := false }
def PlaneAreasSaid : Prop := planeAreasRow.holds Tryz.pinned (OpenSpec.ofChange planeAreasSpec)

/-- ITS FALSE NEIGHBOUR: 'it returns false'. Refute it at one input. -/
def planeAreasWrong : ChangeSpec := { name := "planeAreas", fn := fun _ => fun
  | [d1, d2, d3, d4] => { results := [.lit (.bool false)], args := [d1, d2, d3, d4] }
  | _ => none }
def PlaneAreasWrongFalsely : Prop := planeAreasRow.holds Tryz.pinned (OpenSpec.ofChange planeAreasWrong)

/-- 'slatewalllaw07.PlaneRects': WHATEVER THE INPUT: true; the input reads as it did. -/
def planeRectsSpec : ChangeSpec := { name := "planeRects", fn := fun _ => fun
  | [d1, d2, d3] => { results := [.lit (.bool true)], args := [d1, d2, d3] }
  | _ => none }
def planeRectsRow : OpenClaim := { program := "ytgimceikeedkoaagreat", sum := "c44cf74e3237d6246425ed187cacdc170105c71b2dbaf8c04fcb97cd9646c0fb", func := "slatewall/slatewalllaw07.PlaneRects", spec := "planeRects", unfollowed := true, recurses := true, apart := false }
def PlaneRectsSaid : Prop := planeRectsRow.holds Tryz.pinned (OpenSpec.ofChange planeRectsSpec)

/-- ITS FALSE NEIGHBOUR: 'it returns false'. Refute it at one input. -/
def planeRectsWrong : ChangeSpec := { name := "planeRects", fn := fun _ => fun
  | [d1, d2, d3] => { results := [.lit (.bool false)], args := [d1, d2, d3] }
  | _ => none }
def PlaneRectsWrongFalsely : Prop := planeRectsRow.holds Tryz.pinned (OpenSpec.ofChange planeRectsWrong)

/- THE SECOND FORM. 'bulk': how many values and letters a reading holds, each counted each time it is reached (what is shared counts as often as it is met; a slice's spare places count too). A statement '..UptoSaid' is the law's where the arguments, and the package variables that the reading takes, are together of bulk at most 1048576: NARROWER than '..Said'. Prove '..Said' where nothing that the law and all that it calls make is longer than what came in: it says more and counts as full. Else prove '..UptoSaid'. A law counts once. -/
mutual
def uptoBulk {H : Type} : DataW H → Nat
  | .lit (.string bytes) => bytes.length + 1
  | .lit _ => 1
  | .nil => 1
  | .ptr d => uptoBulk d + 1
  | .slice elems spare => uptoBulkAll elems + uptoBulkAll spare + 1
  | .agg parts => uptoBulkAll parts + 1
  | .iface _ d => uptoBulk d + 1
  | .map entries => uptoBulkEntries entries + 1
  | .held _ => 1
def uptoBulkAll {H : Type} : List (DataW H) → Nat
  | [] => 0
  | d :: r => uptoBulk d + uptoBulkAll r
def uptoBulkEntries {H : Type} : List (Lit × DataW H) → Nat
  | [] => 0
  | x :: r => uptoBulkEntry x + uptoBulkEntries r
def uptoBulkEntry {H : Type} : Lit × DataW H → Nat
  | (.string bytes, d) => bytes.length + uptoBulk d + 1
  | (_, d) => uptoBulk d + 1
 end
def uptoSmall : (H : Type) → List (DataW H) → Bool := fun _ ds => decide (uptoBulkAll ds ≤ 1048576)
def OpenSpec.upto (s : _root_.Go.ChangeSpec) : _root_.Go.OpenSpec := { _root_.Go.OpenSpec.ofChange s with cond := some uptoSmall }

/-- 'slatewalllaw07.PlaneMatchesReference', WHERE WHAT IT READS IS OF BULK AT MOST 1048576: true; the input reads as it did. -/
def planeMatchesReferenceUptoRow : OpenClaim := { program := "ytgimceikeedkoaagreat", sum := "c44cf74e3237d6246425ed187cacdc170105c71b2dbaf8c04fcb97cd9646c0fb", func := "slatewall/slatewalllaw07.PlaneMatchesReference", spec := "planeMatchesReference", unfollowed := true, recurses := true, apart := false, narrowed := true }
def PlaneMatchesReferenceUptoSaid : Prop := planeMatchesReferenceUptoRow.holds Tryz.pinned (OpenSpec.upto planeMatchesReferenceSpec)

/-- 'slatewalllaw07.PlaneSides', WHERE WHAT IT READS IS OF BULK AT MOST 1048576: true; the input reads as it did. -/
def planeSidesUptoRow : OpenClaim := { program := "ytgimceikeedkoaagreat", sum := "c44cf74e3237d6246425ed187cacdc170105c71b2dbaf8c04fcb97cd9646c0fb", func := "slatewall/slatewalllaw07.PlaneSides", spec := "planeSides", unfollowed := true, recurses := true, apart := false, narrowed := true }
def PlaneSidesUptoSaid : Prop := planeSidesUptoRow.holds Tryz.pinned (OpenSpec.upto planeSidesSpec)

/-- 'slatewalllaw07.PlaneCrosses', WHERE WHAT IT READS IS OF BULK AT MOST 1048576: true; the input reads as it did. -/
def planeCrossesUptoRow : OpenClaim := { program := "ytgimceikeedkoaagreat", sum := "c44cf74e3237d6246425ed187cacdc170105c71b2dbaf8c04fcb97cd9646c0fb", func := "slatewall/slatewalllaw07.PlaneCrosses", spec := "planeCrosses", unfollowed := true, recurses := true, apart := false, narrowed := true }
def PlaneCrossesUptoSaid : Prop := planeCrossesUptoRow.holds Tryz.pinned (OpenSpec.upto planeCrossesSpec)

/-- 'slatewalllaw07.PlaneHulls', WHERE WHAT IT READS IS OF BULK AT MOST 1048576: true; the input reads as it did. -/
def planeHullsUptoRow : OpenClaim := { program := "ytgimceikeedkoaagreat", sum := "c44cf74e3237d6246425ed187cacdc170105c71b2dbaf8c04fcb97cd9646c0fb", func := "slatewall/slatewalllaw07.PlaneHulls", spec := "planeHulls", unfollowed := true, recurses := true, apart := false, narrowed := true }
def PlaneHullsUptoSaid : Prop := planeHullsUptoRow.holds Tryz.pinned (OpenSpec.upto planeHullsSpec)

/-- 'slatewalllaw07.PlaneDistances', WHERE WHAT IT READS IS OF BULK AT MOST 1048576: true; the input reads as it did. -/
def planeDistancesUptoRow : OpenClaim := { program := "ytgimceikeedkoaagreat", sum := "c44cf74e3237d6246425ed187cacdc170105c71b2dbaf8c04fcb97cd9646c0fb", func := "slatewall/slatewalllaw07.PlaneDistances", spec := "planeDistances", unfollowed := true, recurses := true, apart := false, narrowed := true }
def PlaneDistancesUptoSaid : Prop := planeDistancesUptoRow.holds Tryz.pinned (OpenSpec.upto planeDistancesSpec)

/-- 'slatewalllaw07.PlaneAreas', WHERE WHAT IT READS IS OF BULK AT MOST 1048576: true; the input reads as it did. -/
def planeAreasUptoRow : OpenClaim := { program := "ytgimceikeedkoaagreat", sum := "c44cf74e3237d6246425ed187cacdc170105c71b2dbaf8c04fcb97cd9646c0fb", func := "slatewall/slatewalllaw07.PlaneAreas", spec := "planeAreas", unfollowed := true, recurses := true, apart := false, narrowed := true }
def PlaneAreasUptoSaid : Prop := planeAreasUptoRow.holds Tryz.pinned (OpenSpec.upto planeAreasSpec)

/-- 'slatewalllaw07.PlaneRects', WHERE WHAT IT READS IS OF BULK AT MOST 1048576: true; the input reads as it did. -/
def planeRectsUptoRow : OpenClaim := { program := "ytgimceikeedkoaagreat", sum := "c44cf74e3237d6246425ed187cacdc170105c71b2dbaf8c04fcb97cd9646c0fb", func := "slatewall/slatewalllaw07.PlaneRects", spec := "planeRects", unfollowed := true, recurses := true, apart := false, narrowed := true }
def PlaneRectsUptoSaid : Prop := planeRectsUptoRow.holds Tryz.pinned (OpenSpec.upto planeRectsSpec)

end Rows
end Go.Proofs.YtgimceikeedkoaaGreat
