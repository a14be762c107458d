/-
  No cell of these rows narrows 'for every input' (looked for: loops, veiled, ifaces, maps, wideKeys, modest, calm, conditions, laid).
  DERIVED. THE GIVEN ROWS OF THIS SEAT. 9 by the template 'for every input the law returns true; each argument reads behind the call as it read before'; 0 by the template 'total and deterministic' (their statements: YtgpppjfgdbloiaaTotals.lean).
  GIVEN WITH THE SEED: the statements are not yours to turn. If you find one false, say at which input.
  Laid BY PROGRAM, IN A SANDBOX (cutbox-rows.mjs): the forced cells as the released guide's own fill.sh prints them over the translation 195ae1ae1f0f0eaa… (all of the seat's roots in one cut). By AI agents, Wed Nov 11 2026. No macro, syntax, notation, axiom, sorry.
-/
import Derived.Test.YtgpppjfgdbloiaaChecked
import GoSem.Claim
import GoSem.ClaimJoined
import GoSem.ClaimMapViews
import Derived.JoinedTies
import Derived.KernelRfl
namespace Go.Proofs.Ytgpppjfgdbloiaa
/- THE CELL 'sum', in the pinned program and in every row, IS THE sha256 OF THE DUMP (.gsa) THAT YtgpppjfgdbloiaaProg.lean LOADS. Nothing in Lean hashes anything: it is a label: what it is worth is what the hold of that sum in a sandbox is worth. -/
noncomputable def Try.pinned : Pinned := { name := "ytgpppjfgdbloiaa", sum := "195ae1ae1f0f0eaa3d671ef00e03ef8aaecac8669899404830b665d25c5c8f76", checked := Try.checked }
namespace Rows
def none {H : Type} : Left H := { results := [], args := [] }

/-- 'slatewalllaw03.IntegerMatchesReference': WHATEVER THE INPUT: true; the input reads as it did. -/
def integerMatchesReferenceSpec : ChangeSpec := { name := "integerMatchesReference", fn := fun _ => fun
  | [d1, d2, d3] => { results := [.lit (.bool true)], args := [d1, d2, d3] }
  | _ => none }
def integerMatchesReferenceRow : OpenClaim := { program := "ytgpppjfgdbloiaa", sum := "195ae1ae1f0f0eaa3d671ef00e03ef8aaecac8669899404830b665d25c5c8f76", func := "slatewall/slatewalllaw03.IntegerMatchesReference", spec := "integerMatchesReference", unfollowed := true, recurses := true, apart := false }
def IntegerMatchesReferenceSaid : Prop := integerMatchesReferenceRow.holds Try.pinned (OpenSpec.ofChange integerMatchesReferenceSpec)

/-- ITS FALSE NEIGHBOUR: 'it returns false'. Refute it at one input. -/
def integerMatchesReferenceWrong : ChangeSpec := { name := "integerMatchesReference", fn := fun _ => fun
  | [d1, d2, d3] => { results := [.lit (.bool false)], args := [d1, d2, d3] }
  | _ => none }
def IntegerMatchesReferenceWrongFalsely : Prop := integerMatchesReferenceRow.holds Try.pinned (OpenSpec.ofChange integerMatchesReferenceWrong)

/-- 'slatewalllaw03.IntegerMachine': WHATEVER THE INPUT: true; the input reads as it did. -/
def integerMachineSpec : ChangeSpec := { name := "integerMachine", fn := fun _ => fun
  | [d1, d2] => { results := [.lit (.bool true)], args := [d1, d2] }
  | _ => none }
def integerMachineRow : OpenClaim := { program := "ytgpppjfgdbloiaa", sum := "195ae1ae1f0f0eaa3d671ef00e03ef8aaecac8669899404830b665d25c5c8f76", func := "slatewall/slatewalllaw03.IntegerMachine", spec := "integerMachine", unfollowed := true, recurses := true, apart := false }
def IntegerMachineSaid : Prop := integerMachineRow.holds Try.pinned (OpenSpec.ofChange integerMachineSpec)

/-- ITS FALSE NEIGHBOUR: 'it returns false'. Refute it at one input. -/
def integerMachineWrong : ChangeSpec := { name := "integerMachine", fn := fun _ => fun
  | [d1, d2] => { results := [.lit (.bool false)], args := [d1, d2] }
  | _ => none }
def IntegerMachineWrongFalsely : Prop := integerMachineRow.holds Try.pinned (OpenSpec.ofChange integerMachineWrong)

/-- 'slatewalllaw03.IntegerText': WHATEVER THE INPUT: true; the input reads as it did. -/
def integerTextSpec : ChangeSpec := { name := "integerText", fn := fun _ => fun
  | [d1, d2] => { results := [.lit (.bool true)], args := [d1, d2] }
  | _ => none }
def integerTextRow : OpenClaim := { program := "ytgpppjfgdbloiaa", sum := "195ae1ae1f0f0eaa3d671ef00e03ef8aaecac8669899404830b665d25c5c8f76", func := "slatewall/slatewalllaw03.IntegerText", spec := "integerText", unfollowed := true, recurses := true, apart := false }
def IntegerTextSaid : Prop := integerTextRow.holds Try.pinned (OpenSpec.ofChange integerTextSpec)

/-- ITS FALSE NEIGHBOUR: 'it returns false'. Refute it at one input. -/
def integerTextWrong : ChangeSpec := { name := "integerText", fn := fun _ => fun
  | [d1, d2] => { results := [.lit (.bool false)], args := [d1, d2] }
  | _ => none }
def IntegerTextWrongFalsely : Prop := integerTextRow.holds Try.pinned (OpenSpec.ofChange integerTextWrong)

/-- 'slatewalllaw03.IntegerRing': WHATEVER THE INPUT: true; the input reads as it did. -/
def integerRingSpec : ChangeSpec := { name := "integerRing", fn := fun _ => fun
  | [d1, d2, d3] => { results := [.lit (.bool true)], args := [d1, d2, d3] }
  | _ => none }
def integerRingRow : OpenClaim := { program := "ytgpppjfgdbloiaa", sum := "195ae1ae1f0f0eaa3d671ef00e03ef8aaecac8669899404830b665d25c5c8f76", func := "slatewall/slatewalllaw03.IntegerRing", spec := "integerRing", unfollowed := true, recurses := true, apart := false }
def IntegerRingSaid : Prop := integerRingRow.holds Try.pinned (OpenSpec.ofChange integerRingSpec)

/-- ITS FALSE NEIGHBOUR: 'it returns false'. Refute it at one input. -/
def integerRingWrong : ChangeSpec := { name := "integerRing", fn := fun _ => fun
  | [d1, d2, d3] => { results := [.lit (.bool false)], args := [d1, d2, d3] }
  | _ => none }
def IntegerRingWrongFalsely : Prop := integerRingRow.holds Try.pinned (OpenSpec.ofChange integerRingWrong)

/-- 'slatewalllaw03.IntegerDivided': WHATEVER THE INPUT: true; the input reads as it did. -/
def integerDividedSpec : ChangeSpec := { name := "integerDivided", fn := fun _ => fun
  | [d1, d2] => { results := [.lit (.bool true)], args := [d1, d2] }
  | _ => none }
def integerDividedRow : OpenClaim := { program := "ytgpppjfgdbloiaa", sum := "195ae1ae1f0f0eaa3d671ef00e03ef8aaecac8669899404830b665d25c5c8f76", func := "slatewall/slatewalllaw03.IntegerDivided", spec := "integerDivided", unfollowed := true, recurses := true, apart := false }
def IntegerDividedSaid : Prop := integerDividedRow.holds Try.pinned (OpenSpec.ofChange integerDividedSpec)

/-- ITS FALSE NEIGHBOUR: 'it returns false'. Refute it at one input. -/
def integerDividedWrong : ChangeSpec := { name := "integerDivided", fn := fun _ => fun
  | [d1, d2] => { results := [.lit (.bool false)], args := [d1, d2] }
  | _ => none }
def IntegerDividedWrongFalsely : Prop := integerDividedRow.holds Try.pinned (OpenSpec.ofChange integerDividedWrong)

/-- 'slatewalllaw03.IntegerCommon': WHATEVER THE INPUT: true; the input reads as it did. -/
def integerCommonSpec : ChangeSpec := { name := "integerCommon", fn := fun _ => fun
  | [d1, d2, d3] => { results := [.lit (.bool true)], args := [d1, d2, d3] }
  | _ => none }
def integerCommonRow : OpenClaim := { program := "ytgpppjfgdbloiaa", sum := "195ae1ae1f0f0eaa3d671ef00e03ef8aaecac8669899404830b665d25c5c8f76", func := "slatewall/slatewalllaw03.IntegerCommon", spec := "integerCommon", unfollowed := true, recurses := true, apart := false }
def IntegerCommonSaid : Prop := integerCommonRow.holds Try.pinned (OpenSpec.ofChange integerCommonSpec)

/-- ITS FALSE NEIGHBOUR: 'it returns false'. Refute it at one input. -/
def integerCommonWrong : ChangeSpec := { name := "integerCommon", fn := fun _ => fun
  | [d1, d2, d3] => { results := [.lit (.bool false)], args := [d1, d2, d3] }
  | _ => none }
def IntegerCommonWrongFalsely : Prop := integerCommonRow.holds Try.pinned (OpenSpec.ofChange integerCommonWrong)

/-- 'slatewalllaw03.IntegerRoot': WHATEVER THE INPUT: true; the input reads as it did. -/
def integerRootSpec : ChangeSpec := { name := "integerRoot", fn := fun _ => fun
  | [d] => { results := [.lit (.bool true)], args := [d] }
  | _ => none }
def integerRootRow : OpenClaim := { program := "ytgpppjfgdbloiaa", sum := "195ae1ae1f0f0eaa3d671ef00e03ef8aaecac8669899404830b665d25c5c8f76", func := "slatewall/slatewalllaw03.IntegerRoot", spec := "integerRoot", unfollowed := true, recurses := true, apart := false }
def IntegerRootSaid : Prop := integerRootRow.holds Try.pinned (OpenSpec.ofChange integerRootSpec)

/-- ITS FALSE NEIGHBOUR: 'it returns false'. Refute it at one input. -/
def integerRootWrong : ChangeSpec := { name := "integerRoot", fn := fun _ => fun
  | [d] => { results := [.lit (.bool false)], args := [d] }
  | _ => none }
def IntegerRootWrongFalsely : Prop := integerRootRow.holds Try.pinned (OpenSpec.ofChange integerRootWrong)

/-- 'slatewalllaw03.IntegerOrder': WHATEVER THE INPUT: true; the input reads as it did. -/
def integerOrderSpec : ChangeSpec := { name := "integerOrder", fn := fun _ => fun
  | [d1, d2, d3] => { results := [.lit (.bool true)], args := [d1, d2, d3] }
  | _ => none }
def integerOrderRow : OpenClaim := { program := "ytgpppjfgdbloiaa", sum := "195ae1ae1f0f0eaa3d671ef00e03ef8aaecac8669899404830b665d25c5c8f76", func := "slatewall/slatewalllaw03.IntegerOrder", spec := "integerOrder", unfollowed := true, recurses := true, apart := false }
def IntegerOrderSaid : Prop := integerOrderRow.holds Try.pinned (OpenSpec.ofChange integerOrderSpec)

/-- ITS FALSE NEIGHBOUR: 'it returns false'. Refute it at one input. -/
def integerOrderWrong : ChangeSpec := { name := "integerOrder", fn := fun _ => fun
  | [d1, d2, d3] => { results := [.lit (.bool false)], args := [d1, d2, d3] }
  | _ => none }
def IntegerOrderWrongFalsely : Prop := integerOrderRow.holds Try.pinned (OpenSpec.ofChange integerOrderWrong)

/-- 'slatewalllaw03.IntegerLimits': WHATEVER THE INPUT: true; the input reads as it did. -/
def integerLimitsSpec : ChangeSpec := { name := "integerLimits", fn := fun _ => fun
  | [d1, d2, d3] => { results := [.lit (.bool true)], args := [d1, d2, d3] }
  | _ => none }
def integerLimitsRow : OpenClaim := { program := "ytgpppjfgdbloiaa", sum := "195ae1ae1f0f0eaa3d671ef00e03ef8aaecac8669899404830b665d25c5c8f76", func := "slatewall/slatewalllaw03.IntegerLimits", spec := "integerLimits", unfollowed := true, recurses := true, apart := false }
def IntegerLimitsSaid : Prop := integerLimitsRow.holds Try.pinned (OpenSpec.ofChange integerLimitsSpec)

/-- ITS FALSE NEIGHBOUR: 'it returns false'. Refute it at one input. -/
def integerLimitsWrong : ChangeSpec := { name := "integerLimits", fn := fun _ => fun
  | [d1, d2, d3] => { results := [.lit (.bool false)], args := [d1, d2, d3] }
  | _ => none }
def IntegerLimitsWrongFalsely : Prop := integerLimitsRow.holds Try.pinned (OpenSpec.ofChange integerLimitsWrong)

/- THE SECOND FORM. 'bulk': how many values and letters a reading holds, each counted each time it is reached (what is shared counts as often as it is met; a slice's spare places count too). A statement '..UptoSaid' is the law's where the arguments, and the package variables that the reading takes, are together of bulk at most 1048576: NARROWER than '..Said'. Prove '..Said' where nothing that the law and all that it calls make is longer than what came in: it says more and counts as full. Else prove '..UptoSaid'. A law counts once. -/
mutual
def uptoBulk {H : Type} : DataW H → Nat
  | .lit (.string bytes) => bytes.length + 1
  | .lit _ => 1
  | .nil => 1
  | .ptr d => uptoBulk d + 1
  | .slice elems spare => uptoBulkAll elems + uptoBulkAll spare + 1
  | .agg parts => uptoBulkAll parts + 1
  | .iface _ d => uptoBulk d + 1
  | .map entries => uptoBulkEntries entries + 1
  | .held _ => 1
def uptoBulkAll {H : Type} : List (DataW H) → Nat
  | [] => 0
  | d :: r => uptoBulk d + uptoBulkAll r
def uptoBulkEntries {H : Type} : List (Lit × DataW H) → Nat
  | [] => 0
  | x :: r => uptoBulkEntry x + uptoBulkEntries r
def uptoBulkEntry {H : Type} : Lit × DataW H → Nat
  | (.string bytes, d) => bytes.length + uptoBulk d + 1
  | (_, d) => uptoBulk d + 1
 end
def uptoSmall : (H : Type) → List (DataW H) → Bool := fun _ ds => decide (uptoBulkAll ds ≤ 1048576)
def OpenSpec.upto (s : _root_.Go.ChangeSpec) : _root_.Go.OpenSpec := { _root_.Go.OpenSpec.ofChange s with cond := some uptoSmall }

/-- 'slatewalllaw03.IntegerMatchesReference', WHERE WHAT IT READS IS OF BULK AT MOST 1048576: true; the input reads as it did. -/
def integerMatchesReferenceUptoRow : OpenClaim := { program := "ytgpppjfgdbloiaa", sum := "195ae1ae1f0f0eaa3d671ef00e03ef8aaecac8669899404830b665d25c5c8f76", func := "slatewall/slatewalllaw03.IntegerMatchesReference", spec := "integerMatchesReference", unfollowed := true, recurses := true, apart := false, narrowed := true }
def IntegerMatchesReferenceUptoSaid : Prop := integerMatchesReferenceUptoRow.holds Try.pinned (OpenSpec.upto integerMatchesReferenceSpec)

/-- 'slatewalllaw03.IntegerMachine', WHERE WHAT IT READS IS OF BULK AT MOST 1048576: true; the input reads as it did. -/
def integerMachineUptoRow : OpenClaim := { program := "ytgpppjfgdbloiaa", sum := "195ae1ae1f0f0eaa3d671ef00e03ef8aaecac8669899404830b665d25c5c8f76", func := "slatewall/slatewalllaw03.IntegerMachine", spec := "integerMachine", unfollowed := true, recurses := true, apart := false, narrowed := true }
def IntegerMachineUptoSaid : Prop := integerMachineUptoRow.holds Try.pinned (OpenSpec.upto integerMachineSpec)

/-- 'slatewalllaw03.IntegerText', WHERE WHAT IT READS IS OF BULK AT MOST 1048576: true; the input reads as it did. -/
def integerTextUptoRow : OpenClaim := { program := "ytgpppjfgdbloiaa", sum := "195ae1ae1f0f0eaa3d671ef00e03ef8aaecac8669899404830b665d25c5c8f76", func := "slatewall/slatewalllaw03.IntegerText", spec := "integerText", unfollowed := true, recurses := true, apart := false, narrowed := true }
def IntegerTextUptoSaid : Prop := integerTextUptoRow.holds Try.pinned (OpenSpec.upto integerTextSpec)

/-- 'slatewalllaw03.IntegerRing', WHERE WHAT IT READS IS OF BULK AT MOST 1048576: true; the input reads as it did. -/
def integerRingUptoRow : OpenClaim := { program := "ytgpppjfgdbloiaa", sum := "195ae1ae1f0f0eaa3d671ef00e03ef8aaecac8669899404830b665d25c5c8f76", func := "slatewall/slatewalllaw03.IntegerRing", spec := "integerRing", unfollowed := true, recurses := true, apart := false, narrowed := true }
def IntegerRingUptoSaid : Prop := integerRingUptoRow.holds Try.pinned (OpenSpec.upto integerRingSpec)

/-- 'slatewalllaw03.IntegerDivided', WHERE WHAT IT READS IS OF BULK AT MOST 1048576: true; the input reads as it did. -/
def integerDividedUptoRow : OpenClaim := { program := "ytgpppjfgdbloiaa", sum := "195ae1ae1f0f0eaa3d671ef00e03ef8aaecac8669899404830b665d25c5c8f76", func := "slatewall/slatewalllaw03.IntegerDivided", spec := "integerDivided", unfollowed := true, recurses := true, apart := false, narrowed := true }
def IntegerDividedUptoSaid : Prop := integerDividedUptoRow.holds Try.pinned (OpenSpec.upto integerDividedSpec)

/-- 'slatewalllaw03.IntegerCommon', WHERE WHAT IT READS IS OF BULK AT MOST 1048576: true; the input reads as it did. -/
def integerCommonUptoRow : OpenClaim := { program := "ytgpppjfgdbloiaa", sum := "195ae1ae1f0f0eaa3d671ef00e03ef8aaecac8669899404830b665d25c5c8f76", func := "slatewall/slatewalllaw03.IntegerCommon", spec := "integerCommon", unfollowed := true, recurses := true, apart := false, narrowed := true }
def IntegerCommonUptoSaid : Prop := integerCommonUptoRow.holds Try.pinned (OpenSpec.upto integerCommonSpec)

/-- 'slatewalllaw03.IntegerRoot', WHERE WHAT IT READS IS OF BULK AT MOST 1048576: true; the input reads as it did. -/
def integerRootUptoRow : OpenClaim := { program := "ytgpppjfgdbloiaa", sum := "195ae1ae1f0f0eaa3d671ef00e03ef8aaecac8669899404830b665d25c5c8f76", func := "slatewall/slatewalllaw03.IntegerRoot", spec := "integerRoot", unfollowed := true, recurses := true, apart := false, narrowed := true }
def IntegerRootUptoSaid : Prop := integerRootUptoRow.holds Try.pinned (OpenSpec.upto integerRootSpec)

/-- 'slatewalllaw03.IntegerOrder', WHERE WHAT IT READS IS OF BULK AT MOST 1048576: true; the input reads as it did. -/
def integerOrderUptoRow : OpenClaim := { program := "ytgpppjfgdbloiaa", sum := "195ae1ae1f0f0eaa3d671ef00e03ef8aaecac8669899404830b665d25c5c8f76", func := "slatewall/slatewalllaw03.IntegerOrder", spec := "integerOrder", unfollowed := true, recurses := true, apart := false, narrowed := true }
def IntegerOrderUptoSaid : Prop := integerOrderUptoRow.holds Try.pinned (OpenSpec.upto integerOrderSpec)

/-- 'slatewalllaw03.IntegerLimits', WHERE WHAT IT READS IS OF BULK AT MOST 1048576: true; the input reads as it did. -/
def integerLimitsUptoRow : OpenClaim := { program := "ytgpppjfgdbloiaa", sum := "195ae1ae1f0f0eaa3d671ef00e03ef8aaecac8669899404830b665d25c5c8f76", func := "slatewall/slatewalllaw03.IntegerLimits", spec := "integerLimits", unfollowed := true, recurses := true, apart := false, narrowed := true }
def IntegerLimitsUptoSaid : Prop := integerLimitsUptoRow.holds Try.pinned (OpenSpec.upto integerLimitsSpec)

end Rows
end Go.Proofs.Ytgpppjfgdbloiaa
