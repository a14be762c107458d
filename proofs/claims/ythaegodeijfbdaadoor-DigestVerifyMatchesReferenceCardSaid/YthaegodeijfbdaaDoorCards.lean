/-
  DERIVED. GIVEN WITH THE SEED: THE CARDS: each row of YthaegodeijfbdaaDoorRows.lean that lists a variable, with what it lists TIED to the program's text (the seventh form; the later family's looks); each row that meets fmt, with fmt's text TOLD by the authors' own Lean function (tested against real Go, not proved from fmt's source: count such statements apart). THE CARD IS WHAT COUNTS. Prove the row's statement (the work); the ties are given (YthaegodeijfbdaaDoorTie.lean); close each card by the builder's one call (the guide's Derived/Test/ToyasCard.lean, 'card_holds'). Laid BY PROGRAM, IN A SANDBOX (cutbox-door.mjs). By AI agents, Wed Nov 11 2026. No macro, syntax, notation, axiom, sorry.
-/
import Derived.Test.YthaegodeijfbdaaDoorRows
import GoSem.ClaimSeven
namespace Go.Proofs.YthaegodeijfbdaaDoor
namespace Rows

/-- THE TIED CARD OF 'slatewalllaw02.DigestSumMatchesReference'. -/
def digestSumMatchesReferenceCard : Claim7 := { stood := { row := digestSumMatchesReferenceRow, standIns := [], harness := (true, "e96827cb27a40c8a68c16dbf4b4d268e9c6779fac66184454bafd8770202818f"), looks := false }, kinds := [], alts := [], laidByText := true, laidKinds := [.data], laidTests := true, laidLooks := .later }
def DigestSumMatchesReferenceCardSaid : Prop := Claim7.holds Tryd.pinned (.plain (OpenSpec.ofChange digestSumMatchesReferenceSpec)) digestSumMatchesReferenceCard

/-- THE TIED CARD OF 'slatewalllaw02.DigestTreeMatchesReference'. -/
def digestTreeMatchesReferenceCard : Claim7 := { stood := { row := digestTreeMatchesReferenceRow, standIns := [], harness := (true, "e96827cb27a40c8a68c16dbf4b4d268e9c6779fac66184454bafd8770202818f"), looks := false }, kinds := [], alts := [], laidByText := true, laidKinds := [.data], laidTests := true, laidLooks := .later }
def DigestTreeMatchesReferenceCardSaid : Prop := Claim7.holds Tryd.pinned (.plain (OpenSpec.ofChange digestTreeMatchesReferenceSpec)) digestTreeMatchesReferenceCard

/-- THE TIED CARD OF 'slatewalllaw02.DigestVerifyMatchesReference'. -/
def digestVerifyMatchesReferenceCard : Claim7 := { stood := { row := digestVerifyMatchesReferenceRow, standIns := [], harness := (true, "e96827cb27a40c8a68c16dbf4b4d268e9c6779fac66184454bafd8770202818f"), looks := false }, kinds := [], alts := [], laidByText := true, laidKinds := [.data], laidTests := true, laidLooks := .later }
def DigestVerifyMatchesReferenceCardSaid : Prop := Claim7.holds Tryd.pinned (.plain (OpenSpec.ofChange digestVerifyMatchesReferenceSpec)) digestVerifyMatchesReferenceCard

/-- THE SECOND FORM's CARD OF 'slatewalllaw02.DigestSumMatchesReference'. -/
def digestSumMatchesReferenceUptoCard : Claim7 := { stood := { row := digestSumMatchesReferenceUptoRow, standIns := [], harness := (true, "e96827cb27a40c8a68c16dbf4b4d268e9c6779fac66184454bafd8770202818f"), looks := false }, kinds := [], alts := [], laidByText := true, laidKinds := [.data], laidTests := true, laidLooks := .later }
def DigestSumMatchesReferenceUptoCardSaid : Prop := Claim7.holds Tryd.pinned (.plain (OpenSpec.upto digestSumMatchesReferenceSpec)) digestSumMatchesReferenceUptoCard

/-- THE SECOND FORM's CARD OF 'slatewalllaw02.DigestTreeMatchesReference'. -/
def digestTreeMatchesReferenceUptoCard : Claim7 := { stood := { row := digestTreeMatchesReferenceUptoRow, standIns := [], harness := (true, "e96827cb27a40c8a68c16dbf4b4d268e9c6779fac66184454bafd8770202818f"), looks := false }, kinds := [], alts := [], laidByText := true, laidKinds := [.data], laidTests := true, laidLooks := .later }
def DigestTreeMatchesReferenceUptoCardSaid : Prop := Claim7.holds Tryd.pinned (.plain (OpenSpec.upto digestTreeMatchesReferenceSpec)) digestTreeMatchesReferenceUptoCard

/-- THE SECOND FORM's CARD OF 'slatewalllaw02.DigestVerifyMatchesReference'. -/
def digestVerifyMatchesReferenceUptoCard : Claim7 := { stood := { row := digestVerifyMatchesReferenceUptoRow, standIns := [], harness := (true, "e96827cb27a40c8a68c16dbf4b4d268e9c6779fac66184454bafd8770202818f"), looks := false }, kinds := [], alts := [], laidByText := true, laidKinds := [.data], laidTests := true, laidLooks := .later }
def DigestVerifyMatchesReferenceUptoCardSaid : Prop := Claim7.holds Tryd.pinned (.plain (OpenSpec.upto digestVerifyMatchesReferenceSpec)) digestVerifyMatchesReferenceUptoCard
end Rows
end Go.Proofs.YthaegodeijfbdaaDoor
