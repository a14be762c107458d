/-
  NARROWER THAN 'FOR EVERY INPUT', by the rows' own cells (each row's printed sentence says how): TemplateMatchesReference: laid · TemplateFar: laid · TemplateMoved: laid · TemplateCheapest: laid · TemplateShape: laid · TemplateLook: laid · TemplateExact: laid.
  DERIVED. THE GIVEN ROWS OF THIS SEAT. 7 by the template 'for every input the law returns true; each argument reads behind the call as it read before'; 0 by the template 'total and deterministic' (their statements: YtmjcjaecaigahaaDoorTotals.lean).
  GIVEN WITH THE SEED: the statements are not yours to turn. If you find one false, say at which input.
  Laid BY PROGRAM, IN A SANDBOX (cutbox-rows.mjs): the forced cells as the released guide's own fill.sh prints them over the translation 9dd57de0c31a8413… (all of the seat's roots in one cut). By AI agents, Wed Nov 11 2026. No macro, syntax, notation, axiom, sorry.
-/
import Derived.Test.YtmjcjaecaigahaaDoorChecked
import GoSem.Claim
import GoSem.ClaimJoined
import GoSem.ClaimMapViews
import Derived.JoinedTies
import Derived.KernelRfl
namespace Go.Proofs.YtmjcjaecaigahaaDoor
/- THE CELL 'sum', in the pinned program and in every row, IS THE sha256 OF THE DUMP (.gsa) THAT YtmjcjaecaigahaaDoorProg.lean LOADS. Nothing in Lean hashes anything: it is a label: what it is worth is what the hold of that sum in a sandbox is worth. -/
noncomputable def Tryd.pinned : Pinned := { name := "ytmjcjaecaigahaadoor", sum := "9dd57de0c31a84131113d0e8198d34b55d68cad6b3607bde413a24c3e1c02597", checked := Tryd.checked }
namespace Rows
def none {H : Type} : Left H := { results := [], args := [] }

/- WHAT THE LISTED PACKAGE-LEVEL VARIABLES READ AS WHEN THE CALL BEGINS. Each datum BY PROGRAM (the guide's laid-datum.mjs) off the statement by which the dump's own 'gosem.cut.vars' lays the variable. In a bare row this is a premise. The card (YtmjcjaecaigahaaDoorCards.lean) ties it to the program's text. -/
def laid_slatewall_template_letters {H : Type} : DataW H := .agg [.agg [.lit (.string [73]), .slice [.slice [.lit (.int .i64 2)] []] []], .agg [.lit (.string [76]), .slice [.slice [.lit (.int .i64 2), .lit (.int .i64 0)] []] []], .agg [.lit (.string [77]), .slice [.slice [.lit (.int .i64 6), .lit (.int .i64 1), .lit (.int .i64 7), .lit (.int .i64 2)] []] []], .agg [.lit (.string [78]), .slice [.slice [.lit (.int .i64 6), .lit (.int .i64 1), .lit (.int .i64 6)] []] []], .agg [.lit (.string [84]), .slice [.slice [.lit (.int .i64 0)] [], .slice [.lit (.int .i64 2)] []] []], .agg [.lit (.string [86]), .slice [.slice [.lit (.int .i64 1), .lit (.int .i64 7)] []] []], .agg [.lit (.string [88]), .slice [.slice [.lit (.int .i64 1)] [], .slice [.lit (.int .i64 3)] []] []], .agg [.lit (.string [90]), .slice [.slice [.lit (.int .i64 0), .lit (.int .i64 3), .lit (.int .i64 0)] []] []]]
def laid_slatewall_template_rings {H : Type} : DataW H := .agg [.agg [.lit (.int .i64 0), .lit (.int .i64 2), .lit (.int .i64 4), .lit (.int .i64 6)], .agg [.lit (.int .i64 0), .lit (.int .i64 6), .lit (.int .i64 4), .lit (.int .i64 2)]]
def laid_slatewall_template_compass {H : Type} : DataW H := .agg [.agg [.lit (.int .i64 5), .lit (.int .i64 6), .lit (.int .i64 7)], .agg [.lit (.int .i64 4), .lit (.int .i64 0), .lit (.int .i64 0)], .agg [.lit (.int .i64 3), .lit (.int .i64 2), .lit (.int .i64 1)]]

/-- 'slatewalllaw08.TemplateMatchesReference': WHATEVER THE INPUT: true; the input reads as it did. -/
def templateMatchesReferenceSpec : ChangeSpec := { name := "templateMatchesReference", fn := fun _ => fun
  | [d1, d2, d3, d4, d5, d6, d7, d8, d9, d10, d11] => { results := [.lit (.bool true)], args := [d1, d2, d3, d4, d5, d6, d7, d8, d9, d10, d11] }
  | _ => none }
def templateMatchesReferenceRow : OpenClaim := { program := "ytmjcjaecaigahaadoor", sum := "9dd57de0c31a84131113d0e8198d34b55d68cad6b3607bde413a24c3e1c02597", func := "slatewall/slatewalllaw08.TemplateMatchesReference", spec := "templateMatchesReference", unfollowed := true, recurses := true, named := ["slatewall/template.compass", "slatewall/template.rings", "slatewall/template.letters"], apart := false, laid := [("slatewall/template.letters", laid_slatewall_template_letters), ("slatewall/template.rings", laid_slatewall_template_rings), ("slatewall/template.compass", laid_slatewall_template_compass)] }
def TemplateMatchesReferenceSaid : Prop := templateMatchesReferenceRow.holds Tryd.pinned (OpenSpec.ofChange templateMatchesReferenceSpec)

/-- ITS FALSE NEIGHBOUR: 'it returns false'. Refute it at one input. -/
def templateMatchesReferenceWrong : ChangeSpec := { name := "templateMatchesReference", fn := fun _ => fun
  | [d1, d2, d3, d4, d5, d6, d7, d8, d9, d10, d11] => { results := [.lit (.bool false)], args := [d1, d2, d3, d4, d5, d6, d7, d8, d9, d10, d11] }
  | _ => none }
def TemplateMatchesReferenceWrongFalsely : Prop := templateMatchesReferenceRow.holds Tryd.pinned (OpenSpec.ofChange templateMatchesReferenceWrong)

/-- 'slatewalllaw08.TemplateFar': WHATEVER THE INPUT: true; the input reads as it did. -/
def templateFarSpec : ChangeSpec := { name := "templateFar", fn := fun _ => fun
  | [d1, d2, d3, d4] => { results := [.lit (.bool true)], args := [d1, d2, d3, d4] }
  | _ => none }
def templateFarRow : OpenClaim := { program := "ytmjcjaecaigahaadoor", sum := "9dd57de0c31a84131113d0e8198d34b55d68cad6b3607bde413a24c3e1c02597", func := "slatewall/slatewalllaw08.TemplateFar", spec := "templateFar", unfollowed := true, recurses := true, named := ["slatewall/template.compass", "slatewall/template.rings", "slatewall/template.letters"], apart := false, laid := [("slatewall/template.letters", laid_slatewall_template_letters), ("slatewall/template.rings", laid_slatewall_template_rings), ("slatewall/template.compass", laid_slatewall_template_compass)] }
def TemplateFarSaid : Prop := templateFarRow.holds Tryd.pinned (OpenSpec.ofChange templateFarSpec)

/-- ITS FALSE NEIGHBOUR: 'it returns false'. Refute it at one input. -/
def templateFarWrong : ChangeSpec := { name := "templateFar", fn := fun _ => fun
  | [d1, d2, d3, d4] => { results := [.lit (.bool false)], args := [d1, d2, d3, d4] }
  | _ => none }
def TemplateFarWrongFalsely : Prop := templateFarRow.holds Tryd.pinned (OpenSpec.ofChange templateFarWrong)

/-- 'slatewalllaw08.TemplateMoved': WHATEVER THE INPUT: true; the input reads as it did. -/
def templateMovedSpec : ChangeSpec := { name := "templateMoved", fn := fun _ => fun
  | [d1, d2, d3, d4, d5, d6, d7, d8] => { results := [.lit (.bool true)], args := [d1, d2, d3, d4, d5, d6, d7, d8] }
  | _ => none }
def templateMovedRow : OpenClaim := { program := "ytmjcjaecaigahaadoor", sum := "9dd57de0c31a84131113d0e8198d34b55d68cad6b3607bde413a24c3e1c02597", func := "slatewall/slatewalllaw08.TemplateMoved", spec := "templateMoved", unfollowed := true, recurses := true, named := ["slatewall/template.compass", "slatewall/template.rings", "slatewall/template.letters"], apart := false, laid := [("slatewall/template.letters", laid_slatewall_template_letters), ("slatewall/template.rings", laid_slatewall_template_rings), ("slatewall/template.compass", laid_slatewall_template_compass)] }
def TemplateMovedSaid : Prop := templateMovedRow.holds Tryd.pinned (OpenSpec.ofChange templateMovedSpec)

/-- ITS FALSE NEIGHBOUR: 'it returns false'. Refute it at one input. -/
def templateMovedWrong : ChangeSpec := { name := "templateMoved", fn := fun _ => fun
  | [d1, d2, d3, d4, d5, d6, d7, d8] => { results := [.lit (.bool false)], args := [d1, d2, d3, d4, d5, d6, d7, d8] }
  | _ => none }
def TemplateMovedWrongFalsely : Prop := templateMovedRow.holds Tryd.pinned (OpenSpec.ofChange templateMovedWrong)

/-- 'slatewalllaw08.TemplateCheapest': WHATEVER THE INPUT: true; the input reads as it did. -/
def templateCheapestSpec : ChangeSpec := { name := "templateCheapest", fn := fun _ => fun
  | [d1, d2, d3, d4, d5, d6] => { results := [.lit (.bool true)], args := [d1, d2, d3, d4, d5, d6] }
  | _ => none }
def templateCheapestRow : OpenClaim := { program := "ytmjcjaecaigahaadoor", sum := "9dd57de0c31a84131113d0e8198d34b55d68cad6b3607bde413a24c3e1c02597", func := "slatewall/slatewalllaw08.TemplateCheapest", spec := "templateCheapest", unfollowed := true, recurses := true, named := ["slatewall/template.compass", "slatewall/template.rings", "slatewall/template.letters"], apart := false, laid := [("slatewall/template.letters", laid_slatewall_template_letters), ("slatewall/template.rings", laid_slatewall_template_rings), ("slatewall/template.compass", laid_slatewall_template_compass)] }
def TemplateCheapestSaid : Prop := templateCheapestRow.holds Tryd.pinned (OpenSpec.ofChange templateCheapestSpec)

/-- ITS FALSE NEIGHBOUR: 'it returns false'. Refute it at one input. -/
def templateCheapestWrong : ChangeSpec := { name := "templateCheapest", fn := fun _ => fun
  | [d1, d2, d3, d4, d5, d6] => { results := [.lit (.bool false)], args := [d1, d2, d3, d4, d5, d6] }
  | _ => none }
def TemplateCheapestWrongFalsely : Prop := templateCheapestRow.holds Tryd.pinned (OpenSpec.ofChange templateCheapestWrong)

/-- 'slatewalllaw08.TemplateShape': WHATEVER THE INPUT: true; the input reads as it did. -/
def templateShapeSpec : ChangeSpec := { name := "templateShape", fn := fun _ => fun
  | [d1, d2, d3, d4, d5, d6, d7] => { results := [.lit (.bool true)], args := [d1, d2, d3, d4, d5, d6, d7] }
  | _ => none }
def templateShapeRow : OpenClaim := { program := "ytmjcjaecaigahaadoor", sum := "9dd57de0c31a84131113d0e8198d34b55d68cad6b3607bde413a24c3e1c02597", func := "slatewall/slatewalllaw08.TemplateShape", spec := "templateShape", unfollowed := true, recurses := true, named := ["slatewall/template.compass", "slatewall/template.rings", "slatewall/template.letters"], apart := false, laid := [("slatewall/template.letters", laid_slatewall_template_letters), ("slatewall/template.rings", laid_slatewall_template_rings), ("slatewall/template.compass", laid_slatewall_template_compass)] }
def TemplateShapeSaid : Prop := templateShapeRow.holds Tryd.pinned (OpenSpec.ofChange templateShapeSpec)

/-- ITS FALSE NEIGHBOUR: 'it returns false'. Refute it at one input. -/
def templateShapeWrong : ChangeSpec := { name := "templateShape", fn := fun _ => fun
  | [d1, d2, d3, d4, d5, d6, d7] => { results := [.lit (.bool false)], args := [d1, d2, d3, d4, d5, d6, d7] }
  | _ => none }
def TemplateShapeWrongFalsely : Prop := templateShapeRow.holds Tryd.pinned (OpenSpec.ofChange templateShapeWrong)

/-- 'slatewalllaw08.TemplateLook': WHATEVER THE INPUT: true; the input reads as it did. -/
def templateLookSpec : ChangeSpec := { name := "templateLook", fn := fun _ => fun
  | [d1, d2, d3, d4] => { results := [.lit (.bool true)], args := [d1, d2, d3, d4] }
  | _ => none }
def templateLookRow : OpenClaim := { program := "ytmjcjaecaigahaadoor", sum := "9dd57de0c31a84131113d0e8198d34b55d68cad6b3607bde413a24c3e1c02597", func := "slatewall/slatewalllaw08.TemplateLook", spec := "templateLook", unfollowed := true, recurses := true, named := ["slatewall/template.compass", "slatewall/template.rings", "slatewall/template.letters"], apart := false, laid := [("slatewall/template.letters", laid_slatewall_template_letters), ("slatewall/template.rings", laid_slatewall_template_rings), ("slatewall/template.compass", laid_slatewall_template_compass)] }
def TemplateLookSaid : Prop := templateLookRow.holds Tryd.pinned (OpenSpec.ofChange templateLookSpec)

/-- ITS FALSE NEIGHBOUR: 'it returns false'. Refute it at one input. -/
def templateLookWrong : ChangeSpec := { name := "templateLook", fn := fun _ => fun
  | [d1, d2, d3, d4] => { results := [.lit (.bool false)], args := [d1, d2, d3, d4] }
  | _ => none }
def TemplateLookWrongFalsely : Prop := templateLookRow.holds Tryd.pinned (OpenSpec.ofChange templateLookWrong)

/-- 'slatewalllaw08.TemplateExact': WHATEVER THE INPUT: true; the input reads as it did. -/
def templateExactSpec : ChangeSpec := { name := "templateExact", fn := fun _ => fun
  | [d1, d2, d3, d4, d5, d6] => { results := [.lit (.bool true)], args := [d1, d2, d3, d4, d5, d6] }
  | _ => none }
def templateExactRow : OpenClaim := { program := "ytmjcjaecaigahaadoor", sum := "9dd57de0c31a84131113d0e8198d34b55d68cad6b3607bde413a24c3e1c02597", func := "slatewall/slatewalllaw08.TemplateExact", spec := "templateExact", unfollowed := true, recurses := true, named := ["slatewall/template.compass", "slatewall/template.rings", "slatewall/template.letters"], apart := false, laid := [("slatewall/template.letters", laid_slatewall_template_letters), ("slatewall/template.rings", laid_slatewall_template_rings), ("slatewall/template.compass", laid_slatewall_template_compass)] }
def TemplateExactSaid : Prop := templateExactRow.holds Tryd.pinned (OpenSpec.ofChange templateExactSpec)

/-- ITS FALSE NEIGHBOUR: 'it returns false'. Refute it at one input. -/
def templateExactWrong : ChangeSpec := { name := "templateExact", fn := fun _ => fun
  | [d1, d2, d3, d4, d5, d6] => { results := [.lit (.bool false)], args := [d1, d2, d3, d4, d5, d6] }
  | _ => none }
def TemplateExactWrongFalsely : Prop := templateExactRow.holds Tryd.pinned (OpenSpec.ofChange templateExactWrong)

/- THE SECOND FORM. 'bulk': how many values and letters a reading holds, each counted each time it is reached (what is shared counts as often as it is met; a slice's spare places count too). A statement '..UptoSaid' is the law's where the arguments, and the package variables that the reading takes, are together of bulk at most 1048576: NARROWER than '..Said'. Prove '..Said' where nothing that the law and all that it calls make is longer than what came in: it says more and counts as full. Else prove '..UptoSaid'. A law counts once. -/
mutual
def uptoBulk {H : Type} : DataW H → Nat
  | .lit (.string bytes) => bytes.length + 1
  | .lit _ => 1
  | .nil => 1
  | .ptr d => uptoBulk d + 1
  | .slice elems spare => uptoBulkAll elems + uptoBulkAll spare + 1
  | .agg parts => uptoBulkAll parts + 1
  | .iface _ d => uptoBulk d + 1
  | .map entries => uptoBulkEntries entries + 1
  | .held _ => 1
def uptoBulkAll {H : Type} : List (DataW H) → Nat
  | [] => 0
  | d :: r => uptoBulk d + uptoBulkAll r
def uptoBulkEntries {H : Type} : List (Lit × DataW H) → Nat
  | [] => 0
  | x :: r => uptoBulkEntry x + uptoBulkEntries r
def uptoBulkEntry {H : Type} : Lit × DataW H → Nat
  | (.string bytes, d) => bytes.length + uptoBulk d + 1
  | (_, d) => uptoBulk d + 1
 end
def uptoSmall : (H : Type) → List (DataW H) → Bool := fun _ ds => decide (uptoBulkAll ds ≤ 1048576)
def OpenSpec.upto (s : _root_.Go.ChangeSpec) : _root_.Go.OpenSpec := { _root_.Go.OpenSpec.ofChange s with cond := some uptoSmall }

/-- 'slatewalllaw08.TemplateMatchesReference', WHERE WHAT IT READS IS OF BULK AT MOST 1048576: true; the input reads as it did. -/
def templateMatchesReferenceUptoRow : OpenClaim := { program := "ytmjcjaecaigahaadoor", sum := "9dd57de0c31a84131113d0e8198d34b55d68cad6b3607bde413a24c3e1c02597", func := "slatewall/slatewalllaw08.TemplateMatchesReference", spec := "templateMatchesReference", unfollowed := true, recurses := true, named := ["slatewall/template.compass", "slatewall/template.rings", "slatewall/template.letters"], apart := false, laid := [("slatewall/template.letters", laid_slatewall_template_letters), ("slatewall/template.rings", laid_slatewall_template_rings), ("slatewall/template.compass", laid_slatewall_template_compass)], narrowed := true }
def TemplateMatchesReferenceUptoSaid : Prop := templateMatchesReferenceUptoRow.holds Tryd.pinned (OpenSpec.upto templateMatchesReferenceSpec)

/-- 'slatewalllaw08.TemplateFar', WHERE WHAT IT READS IS OF BULK AT MOST 1048576: true; the input reads as it did. -/
def templateFarUptoRow : OpenClaim := { program := "ytmjcjaecaigahaadoor", sum := "9dd57de0c31a84131113d0e8198d34b55d68cad6b3607bde413a24c3e1c02597", func := "slatewall/slatewalllaw08.TemplateFar", spec := "templateFar", unfollowed := true, recurses := true, named := ["slatewall/template.compass", "slatewall/template.rings", "slatewall/template.letters"], apart := false, laid := [("slatewall/template.letters", laid_slatewall_template_letters), ("slatewall/template.rings", laid_slatewall_template_rings), ("slatewall/template.compass", laid_slatewall_template_compass)], narrowed := true }
def TemplateFarUptoSaid : Prop := templateFarUptoRow.holds Tryd.pinned (OpenSpec.upto templateFarSpec)

/-- 'slatewalllaw08.TemplateMoved', WHERE WHAT IT READS IS OF BULK AT MOST 1048576: true; the input reads as it did. -/
def templateMovedUptoRow : OpenClaim := { program := "ytmjcjaecaigahaadoor", sum := "9dd57de0c31a84131113d0e8198d34b55d68cad6b3607bde413a24c3e1c02597", func := "slatewall/slatewalllaw08.TemplateMoved", spec := "templateMoved", unfollowed := true, recurses := true, named := ["slatewall/template.compass", "slatewall/template.rings", "slatewall/template.letters"], apart := false, laid := [("slatewall/template.letters", laid_slatewall_template_letters), ("slatewall/template.rings", laid_slatewall_template_rings), ("slatewall/template.compass", laid_slatewall_template_compass)], narrowed := true }
def TemplateMovedUptoSaid : Prop := templateMovedUptoRow.holds Tryd.pinned (OpenSpec.upto templateMovedSpec)

/-- 'slatewalllaw08.TemplateCheapest', WHERE WHAT IT READS IS OF BULK AT MOST 1048576: true; the input reads as it did. -/
def templateCheapestUptoRow : OpenClaim := { program := "ytmjcjaecaigahaadoor", sum := "9dd57de0c31a84131113d0e8198d34b55d68cad6b3607bde413a24c3e1c02597", func := "slatewall/slatewalllaw08.TemplateCheapest", spec := "templateCheapest", unfollowed := true, recurses := true, named := ["slatewall/template.compass", "slatewall/template.rings", "slatewall/template.letters"], apart := false, laid := [("slatewall/template.letters", laid_slatewall_template_letters), ("slatewall/template.rings", laid_slatewall_template_rings), ("slatewall/template.compass", laid_slatewall_template_compass)], narrowed := true }
def TemplateCheapestUptoSaid : Prop := templateCheapestUptoRow.holds Tryd.pinned (OpenSpec.upto templateCheapestSpec)

/-- 'slatewalllaw08.TemplateShape', WHERE WHAT IT READS IS OF BULK AT MOST 1048576: true; the input reads as it did. -/
def templateShapeUptoRow : OpenClaim := { program := "ytmjcjaecaigahaadoor", sum := "9dd57de0c31a84131113d0e8198d34b55d68cad6b3607bde413a24c3e1c02597", func := "slatewall/slatewalllaw08.TemplateShape", spec := "templateShape", unfollowed := true, recurses := true, named := ["slatewall/template.compass", "slatewall/template.rings", "slatewall/template.letters"], apart := false, laid := [("slatewall/template.letters", laid_slatewall_template_letters), ("slatewall/template.rings", laid_slatewall_template_rings), ("slatewall/template.compass", laid_slatewall_template_compass)], narrowed := true }
def TemplateShapeUptoSaid : Prop := templateShapeUptoRow.holds Tryd.pinned (OpenSpec.upto templateShapeSpec)

/-- 'slatewalllaw08.TemplateLook', WHERE WHAT IT READS IS OF BULK AT MOST 1048576: true; the input reads as it did. -/
def templateLookUptoRow : OpenClaim := { program := "ytmjcjaecaigahaadoor", sum := "9dd57de0c31a84131113d0e8198d34b55d68cad6b3607bde413a24c3e1c02597", func := "slatewall/slatewalllaw08.TemplateLook", spec := "templateLook", unfollowed := true, recurses := true, named := ["slatewall/template.compass", "slatewall/template.rings", "slatewall/template.letters"], apart := false, laid := [("slatewall/template.letters", laid_slatewall_template_letters), ("slatewall/template.rings", laid_slatewall_template_rings), ("slatewall/template.compass", laid_slatewall_template_compass)], narrowed := true }
def TemplateLookUptoSaid : Prop := templateLookUptoRow.holds Tryd.pinned (OpenSpec.upto templateLookSpec)

/-- 'slatewalllaw08.TemplateExact', WHERE WHAT IT READS IS OF BULK AT MOST 1048576: true; the input reads as it did. -/
def templateExactUptoRow : OpenClaim := { program := "ytmjcjaecaigahaadoor", sum := "9dd57de0c31a84131113d0e8198d34b55d68cad6b3607bde413a24c3e1c02597", func := "slatewall/slatewalllaw08.TemplateExact", spec := "templateExact", unfollowed := true, recurses := true, named := ["slatewall/template.compass", "slatewall/template.rings", "slatewall/template.letters"], apart := false, laid := [("slatewall/template.letters", laid_slatewall_template_letters), ("slatewall/template.rings", laid_slatewall_template_rings), ("slatewall/template.compass", laid_slatewall_template_compass)], narrowed := true }
def TemplateExactUptoSaid : Prop := templateExactUptoRow.holds Tryd.pinned (OpenSpec.upto templateExactSpec)

end Rows
end Go.Proofs.YtmjcjaecaigahaaDoor
