/-
  No cell of these rows narrows 'for every input' (looked for: loops, veiled, ifaces, maps, wideKeys, modest, calm, conditions, laid).
  DERIVED. THE GIVEN ROWS OF THIS SEAT. 7 by the template 'for every input the law returns true; each argument reads behind the call as it read before'; 0 by the template 'total and deterministic' (their statements: YtnacgdkihkfjkaaTotals.lean).
  GIVEN WITH THE SEED: the statements are not yours to turn. If you find one false, say at which input.
  Laid BY PROGRAM, IN A SANDBOX (cutbox-rows.mjs): the forced cells as the released guide's own fill.sh prints them over the translation b75653b5e52223e8… (all of the seat's roots in one cut). By AI agents, Wed Nov 11 2026. No macro, syntax, notation, axiom, sorry.
-/
import Derived.Test.YtnacgdkihkfjkaaChecked
import GoSem.Claim
import GoSem.ClaimJoined
import GoSem.ClaimMapViews
import Derived.JoinedTies
import Derived.KernelRfl
namespace Go.Proofs.Ytnacgdkihkfjkaa
/- THE CELL 'sum', in the pinned program and in every row, IS THE sha256 OF THE DUMP (.gsa) THAT YtnacgdkihkfjkaaProg.lean LOADS. Nothing in Lean hashes anything: it is a label: what it is worth is what the hold of that sum in a sandbox is worth. -/
noncomputable def Try.pinned : Pinned := { name := "ytnacgdkihkfjkaa", sum := "b75653b5e52223e808ec052d04cc48a659d69ff1825c24fb2c87cadf5f1a4cb1", checked := Try.checked }
namespace Rows
def none {H : Type} : Left H := { results := [], args := [] }

/-- 'slatewalllaw04.RationalTextMatchesReference': WHATEVER THE INPUT: true; the input reads as it did. -/
def rationalTextMatchesReferenceSpec : ChangeSpec := { name := "rationalTextMatchesReference", fn := fun _ => fun
  | [d1, d2, d3, d4, d5] => { results := [.lit (.bool true)], args := [d1, d2, d3, d4, d5] }
  | _ => none }
def rationalTextMatchesReferenceRow : OpenClaim := { program := "ytnacgdkihkfjkaa", sum := "b75653b5e52223e808ec052d04cc48a659d69ff1825c24fb2c87cadf5f1a4cb1", func := "slatewall/slatewalllaw04.RationalTextMatchesReference", spec := "rationalTextMatchesReference", unfollowed := true, recurses := true, apart := false }
def RationalTextMatchesReferenceSaid : Prop := rationalTextMatchesReferenceRow.holds Try.pinned (OpenSpec.ofChange rationalTextMatchesReferenceSpec)

/-- ITS FALSE NEIGHBOUR: 'it returns false'. Refute it at one input. -/
def rationalTextMatchesReferenceWrong : ChangeSpec := { name := "rationalTextMatchesReference", fn := fun _ => fun
  | [d1, d2, d3, d4, d5] => { results := [.lit (.bool false)], args := [d1, d2, d3, d4, d5] }
  | _ => none }
def RationalTextMatchesReferenceWrongFalsely : Prop := rationalTextMatchesReferenceRow.holds Try.pinned (OpenSpec.ofChange rationalTextMatchesReferenceWrong)

/-- 'slatewalllaw04.RationalMachine': WHATEVER THE INPUT: true; the input reads as it did. -/
def rationalMachineSpec : ChangeSpec := { name := "rationalMachine", fn := fun _ => fun
  | [d1, d2, d3, d4] => { results := [.lit (.bool true)], args := [d1, d2, d3, d4] }
  | _ => none }
def rationalMachineRow : OpenClaim := { program := "ytnacgdkihkfjkaa", sum := "b75653b5e52223e808ec052d04cc48a659d69ff1825c24fb2c87cadf5f1a4cb1", func := "slatewall/slatewalllaw04.RationalMachine", spec := "rationalMachine", unfollowed := true, recurses := true, apart := false }
def RationalMachineSaid : Prop := rationalMachineRow.holds Try.pinned (OpenSpec.ofChange rationalMachineSpec)

/-- ITS FALSE NEIGHBOUR: 'it returns false'. Refute it at one input. -/
def rationalMachineWrong : ChangeSpec := { name := "rationalMachine", fn := fun _ => fun
  | [d1, d2, d3, d4] => { results := [.lit (.bool false)], args := [d1, d2, d3, d4] }
  | _ => none }
def RationalMachineWrongFalsely : Prop := rationalMachineRow.holds Try.pinned (OpenSpec.ofChange rationalMachineWrong)

/-- 'slatewalllaw04.RationalField': WHATEVER THE INPUT: true; the input reads as it did. -/
def rationalFieldSpec : ChangeSpec := { name := "rationalField", fn := fun _ => fun
  | [d1, d2, d3, d4] => { results := [.lit (.bool true)], args := [d1, d2, d3, d4] }
  | _ => none }
def rationalFieldRow : OpenClaim := { program := "ytnacgdkihkfjkaa", sum := "b75653b5e52223e808ec052d04cc48a659d69ff1825c24fb2c87cadf5f1a4cb1", func := "slatewall/slatewalllaw04.RationalField", spec := "rationalField", unfollowed := true, recurses := true, apart := false }
def RationalFieldSaid : Prop := rationalFieldRow.holds Try.pinned (OpenSpec.ofChange rationalFieldSpec)

/-- ITS FALSE NEIGHBOUR: 'it returns false'. Refute it at one input. -/
def rationalFieldWrong : ChangeSpec := { name := "rationalField", fn := fun _ => fun
  | [d1, d2, d3, d4] => { results := [.lit (.bool false)], args := [d1, d2, d3, d4] }
  | _ => none }
def RationalFieldWrongFalsely : Prop := rationalFieldRow.holds Try.pinned (OpenSpec.ofChange rationalFieldWrong)

/-- 'slatewalllaw04.RationalOrder': WHATEVER THE INPUT: true; the input reads as it did. -/
def rationalOrderSpec : ChangeSpec := { name := "rationalOrder", fn := fun _ => fun
  | [d1, d2, d3, d4] => { results := [.lit (.bool true)], args := [d1, d2, d3, d4] }
  | _ => none }
def rationalOrderRow : OpenClaim := { program := "ytnacgdkihkfjkaa", sum := "b75653b5e52223e808ec052d04cc48a659d69ff1825c24fb2c87cadf5f1a4cb1", func := "slatewall/slatewalllaw04.RationalOrder", spec := "rationalOrder", unfollowed := true, recurses := true, apart := false }
def RationalOrderSaid : Prop := rationalOrderRow.holds Try.pinned (OpenSpec.ofChange rationalOrderSpec)

/-- ITS FALSE NEIGHBOUR: 'it returns false'. Refute it at one input. -/
def rationalOrderWrong : ChangeSpec := { name := "rationalOrder", fn := fun _ => fun
  | [d1, d2, d3, d4] => { results := [.lit (.bool false)], args := [d1, d2, d3, d4] }
  | _ => none }
def RationalOrderWrongFalsely : Prop := rationalOrderRow.holds Try.pinned (OpenSpec.ofChange rationalOrderWrong)

/-- 'slatewalllaw04.RationalGrid': WHATEVER THE INPUT: true; the input reads as it did. -/
def rationalGridSpec : ChangeSpec := { name := "rationalGrid", fn := fun _ => fun
  | [d1, d2] => { results := [.lit (.bool true)], args := [d1, d2] }
  | _ => none }
def rationalGridRow : OpenClaim := { program := "ytnacgdkihkfjkaa", sum := "b75653b5e52223e808ec052d04cc48a659d69ff1825c24fb2c87cadf5f1a4cb1", func := "slatewall/slatewalllaw04.RationalGrid", spec := "rationalGrid", unfollowed := true, recurses := true, apart := false }
def RationalGridSaid : Prop := rationalGridRow.holds Try.pinned (OpenSpec.ofChange rationalGridSpec)

/-- ITS FALSE NEIGHBOUR: 'it returns false'. Refute it at one input. -/
def rationalGridWrong : ChangeSpec := { name := "rationalGrid", fn := fun _ => fun
  | [d1, d2] => { results := [.lit (.bool false)], args := [d1, d2] }
  | _ => none }
def RationalGridWrongFalsely : Prop := rationalGridRow.holds Try.pinned (OpenSpec.ofChange rationalGridWrong)

/-- 'slatewalllaw04.RationalLowest': WHATEVER THE INPUT: true; the input reads as it did. -/
def rationalLowestSpec : ChangeSpec := { name := "rationalLowest", fn := fun _ => fun
  | [d1, d2, d3] => { results := [.lit (.bool true)], args := [d1, d2, d3] }
  | _ => none }
def rationalLowestRow : OpenClaim := { program := "ytnacgdkihkfjkaa", sum := "b75653b5e52223e808ec052d04cc48a659d69ff1825c24fb2c87cadf5f1a4cb1", func := "slatewall/slatewalllaw04.RationalLowest", spec := "rationalLowest", unfollowed := true, recurses := true, apart := false }
def RationalLowestSaid : Prop := rationalLowestRow.holds Try.pinned (OpenSpec.ofChange rationalLowestSpec)

/-- ITS FALSE NEIGHBOUR: 'it returns false'. Refute it at one input. -/
def rationalLowestWrong : ChangeSpec := { name := "rationalLowest", fn := fun _ => fun
  | [d1, d2, d3] => { results := [.lit (.bool false)], args := [d1, d2, d3] }
  | _ => none }
def RationalLowestWrongFalsely : Prop := rationalLowestRow.holds Try.pinned (OpenSpec.ofChange rationalLowestWrong)

/-- 'slatewalllaw04.RationalLimits': WHATEVER THE INPUT: true; the input reads as it did. -/
def rationalLimitsSpec : ChangeSpec := { name := "rationalLimits", fn := fun _ => fun
  | [d1, d2] => { results := [.lit (.bool true)], args := [d1, d2] }
  | _ => none }
def rationalLimitsRow : OpenClaim := { program := "ytnacgdkihkfjkaa", sum := "b75653b5e52223e808ec052d04cc48a659d69ff1825c24fb2c87cadf5f1a4cb1", func := "slatewall/slatewalllaw04.RationalLimits", spec := "rationalLimits", unfollowed := true, recurses := true, apart := false }
def RationalLimitsSaid : Prop := rationalLimitsRow.holds Try.pinned (OpenSpec.ofChange rationalLimitsSpec)

/-- ITS FALSE NEIGHBOUR: 'it returns false'. Refute it at one input. -/
def rationalLimitsWrong : ChangeSpec := { name := "rationalLimits", fn := fun _ => fun
  | [d1, d2] => { results := [.lit (.bool false)], args := [d1, d2] }
  | _ => none }
def RationalLimitsWrongFalsely : Prop := rationalLimitsRow.holds Try.pinned (OpenSpec.ofChange rationalLimitsWrong)

/- THE SECOND FORM. 'bulk': how many values and letters a reading holds, each counted each time it is reached (what is shared counts as often as it is met; a slice's spare places count too). A statement '..UptoSaid' is the law's where the arguments, and the package variables that the reading takes, are together of bulk at most 1048576: NARROWER than '..Said'. Prove '..Said' where nothing that the law and all that it calls make is longer than what came in: it says more and counts as full. Else prove '..UptoSaid'. A law counts once. -/
mutual
def uptoBulk {H : Type} : DataW H → Nat
  | .lit (.string bytes) => bytes.length + 1
  | .lit _ => 1
  | .nil => 1
  | .ptr d => uptoBulk d + 1
  | .slice elems spare => uptoBulkAll elems + uptoBulkAll spare + 1
  | .agg parts => uptoBulkAll parts + 1
  | .iface _ d => uptoBulk d + 1
  | .map entries => uptoBulkEntries entries + 1
  | .held _ => 1
def uptoBulkAll {H : Type} : List (DataW H) → Nat
  | [] => 0
  | d :: r => uptoBulk d + uptoBulkAll r
def uptoBulkEntries {H : Type} : List (Lit × DataW H) → Nat
  | [] => 0
  | x :: r => uptoBulkEntry x + uptoBulkEntries r
def uptoBulkEntry {H : Type} : Lit × DataW H → Nat
  | (.string bytes, d) => bytes.length + uptoBulk d + 1
  | (_, d) => uptoBulk d + 1
 end
def uptoSmall : (H : Type) → List (DataW H) → Bool := fun _ ds => decide (uptoBulkAll ds ≤ 1048576)
def OpenSpec.upto (s : _root_.Go.ChangeSpec) : _root_.Go.OpenSpec := { _root_.Go.OpenSpec.ofChange s with cond := some uptoSmall }

/-- 'slatewalllaw04.RationalTextMatchesReference', WHERE WHAT IT READS IS OF BULK AT MOST 1048576: true; the input reads as it did. -/
def rationalTextMatchesReferenceUptoRow : OpenClaim := { program := "ytnacgdkihkfjkaa", sum := "b75653b5e52223e808ec052d04cc48a659d69ff1825c24fb2c87cadf5f1a4cb1", func := "slatewall/slatewalllaw04.RationalTextMatchesReference", spec := "rationalTextMatchesReference", unfollowed := true, recurses := true, apart := false, narrowed := true }
def RationalTextMatchesReferenceUptoSaid : Prop := rationalTextMatchesReferenceUptoRow.holds Try.pinned (OpenSpec.upto rationalTextMatchesReferenceSpec)

/-- 'slatewalllaw04.RationalMachine', WHERE WHAT IT READS IS OF BULK AT MOST 1048576: true; the input reads as it did. -/
def rationalMachineUptoRow : OpenClaim := { program := "ytnacgdkihkfjkaa", sum := "b75653b5e52223e808ec052d04cc48a659d69ff1825c24fb2c87cadf5f1a4cb1", func := "slatewall/slatewalllaw04.RationalMachine", spec := "rationalMachine", unfollowed := true, recurses := true, apart := false, narrowed := true }
def RationalMachineUptoSaid : Prop := rationalMachineUptoRow.holds Try.pinned (OpenSpec.upto rationalMachineSpec)

/-- 'slatewalllaw04.RationalField', WHERE WHAT IT READS IS OF BULK AT MOST 1048576: true; the input reads as it did. -/
def rationalFieldUptoRow : OpenClaim := { program := "ytnacgdkihkfjkaa", sum := "b75653b5e52223e808ec052d04cc48a659d69ff1825c24fb2c87cadf5f1a4cb1", func := "slatewall/slatewalllaw04.RationalField", spec := "rationalField", unfollowed := true, recurses := true, apart := false, narrowed := true }
def RationalFieldUptoSaid : Prop := rationalFieldUptoRow.holds Try.pinned (OpenSpec.upto rationalFieldSpec)

/-- 'slatewalllaw04.RationalOrder', WHERE WHAT IT READS IS OF BULK AT MOST 1048576: true; the input reads as it did. -/
def rationalOrderUptoRow : OpenClaim := { program := "ytnacgdkihkfjkaa", sum := "b75653b5e52223e808ec052d04cc48a659d69ff1825c24fb2c87cadf5f1a4cb1", func := "slatewall/slatewalllaw04.RationalOrder", spec := "rationalOrder", unfollowed := true, recurses := true, apart := false, narrowed := true }
def RationalOrderUptoSaid : Prop := rationalOrderUptoRow.holds Try.pinned (OpenSpec.upto rationalOrderSpec)

/-- 'slatewalllaw04.RationalGrid', WHERE WHAT IT READS IS OF BULK AT MOST 1048576: true; the input reads as it did. -/
def rationalGridUptoRow : OpenClaim := { program := "ytnacgdkihkfjkaa", sum := "b75653b5e52223e808ec052d04cc48a659d69ff1825c24fb2c87cadf5f1a4cb1", func := "slatewall/slatewalllaw04.RationalGrid", spec := "rationalGrid", unfollowed := true, recurses := true, apart := false, narrowed := true }
def RationalGridUptoSaid : Prop := rationalGridUptoRow.holds Try.pinned (OpenSpec.upto rationalGridSpec)

/-- 'slatewalllaw04.RationalLowest', WHERE WHAT IT READS IS OF BULK AT MOST 1048576: true; the input reads as it did. -/
def rationalLowestUptoRow : OpenClaim := { program := "ytnacgdkihkfjkaa", sum := "b75653b5e52223e808ec052d04cc48a659d69ff1825c24fb2c87cadf5f1a4cb1", func := "slatewall/slatewalllaw04.RationalLowest", spec := "rationalLowest", unfollowed := true, recurses := true, apart := false, narrowed := true }
def RationalLowestUptoSaid : Prop := rationalLowestUptoRow.holds Try.pinned (OpenSpec.upto rationalLowestSpec)

/-- 'slatewalllaw04.RationalLimits', WHERE WHAT IT READS IS OF BULK AT MOST 1048576: true; the input reads as it did. -/
def rationalLimitsUptoRow : OpenClaim := { program := "ytnacgdkihkfjkaa", sum := "b75653b5e52223e808ec052d04cc48a659d69ff1825c24fb2c87cadf5f1a4cb1", func := "slatewall/slatewalllaw04.RationalLimits", spec := "rationalLimits", unfollowed := true, recurses := true, apart := false, narrowed := true }
def RationalLimitsUptoSaid : Prop := rationalLimitsUptoRow.holds Try.pinned (OpenSpec.upto rationalLimitsSpec)

end Rows
end Go.Proofs.Ytnacgdkihkfjkaa
