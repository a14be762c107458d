/-
  DERIVED. GIVEN WITH THE SEED: THE CARDS: each row of YtmjcjaecaigahaaDoorRows.lean that lists a variable, with what it lists TIED to the program's text (the seventh form; the later family's looks); each row that meets fmt, with fmt's text TOLD by the authors' own Lean function (tested against real Go, not proved from fmt's source: count such statements apart). THE CARD IS WHAT COUNTS. Prove the row's statement (the work); the ties are given (YtmjcjaecaigahaaDoorTie.lean); close each card by the builder's one call (the guide's Derived/Test/ToyasCard.lean, 'card_holds'). Laid BY PROGRAM, IN A SANDBOX (cutbox-door.mjs). By AI agents, Wed Nov 11 2026. No macro, syntax, notation, axiom, sorry.
-/
import Derived.Test.YtmjcjaecaigahaaDoorRows
import GoSem.ClaimSeven
namespace Go.Proofs.YtmjcjaecaigahaaDoor
namespace Rows

/-- THE TIED CARD OF 'slatewalllaw08.TemplateMatchesReference'. -/
def templateMatchesReferenceCard : Claim7 := { stood := { row := templateMatchesReferenceRow, standIns := [], harness := (true, "6355297c5e62a9db746ebaa0003f26d9d86412bdaf1b2e0ccd094d4bf87cf092"), looks := false }, kinds := [], alts := [], laidByText := true, laidKinds := [.widerDeep, .data, .data], laidTests := true, laidLooks := .later }
def TemplateMatchesReferenceCardSaid : Prop := Claim7.holds Tryd.pinned (.plain (OpenSpec.ofChange templateMatchesReferenceSpec)) templateMatchesReferenceCard

/-- THE TIED CARD OF 'slatewalllaw08.TemplateFar'. -/
def templateFarCard : Claim7 := { stood := { row := templateFarRow, standIns := [], harness := (true, "6355297c5e62a9db746ebaa0003f26d9d86412bdaf1b2e0ccd094d4bf87cf092"), looks := false }, kinds := [], alts := [], laidByText := true, laidKinds := [.widerDeep, .data, .data], laidTests := true, laidLooks := .later }
def TemplateFarCardSaid : Prop := Claim7.holds Tryd.pinned (.plain (OpenSpec.ofChange templateFarSpec)) templateFarCard

/-- THE TIED CARD OF 'slatewalllaw08.TemplateMoved'. -/
def templateMovedCard : Claim7 := { stood := { row := templateMovedRow, standIns := [], harness := (true, "6355297c5e62a9db746ebaa0003f26d9d86412bdaf1b2e0ccd094d4bf87cf092"), looks := false }, kinds := [], alts := [], laidByText := true, laidKinds := [.widerDeep, .data, .data], laidTests := true, laidLooks := .later }
def TemplateMovedCardSaid : Prop := Claim7.holds Tryd.pinned (.plain (OpenSpec.ofChange templateMovedSpec)) templateMovedCard

/-- THE TIED CARD OF 'slatewalllaw08.TemplateCheapest'. -/
def templateCheapestCard : Claim7 := { stood := { row := templateCheapestRow, standIns := [], harness := (true, "6355297c5e62a9db746ebaa0003f26d9d86412bdaf1b2e0ccd094d4bf87cf092"), looks := false }, kinds := [], alts := [], laidByText := true, laidKinds := [.widerDeep, .data, .data], laidTests := true, laidLooks := .later }
def TemplateCheapestCardSaid : Prop := Claim7.holds Tryd.pinned (.plain (OpenSpec.ofChange templateCheapestSpec)) templateCheapestCard

/-- THE TIED CARD OF 'slatewalllaw08.TemplateShape'. -/
def templateShapeCard : Claim7 := { stood := { row := templateShapeRow, standIns := [], harness := (true, "6355297c5e62a9db746ebaa0003f26d9d86412bdaf1b2e0ccd094d4bf87cf092"), looks := false }, kinds := [], alts := [], laidByText := true, laidKinds := [.widerDeep, .data, .data], laidTests := true, laidLooks := .later }
def TemplateShapeCardSaid : Prop := Claim7.holds Tryd.pinned (.plain (OpenSpec.ofChange templateShapeSpec)) templateShapeCard

/-- THE TIED CARD OF 'slatewalllaw08.TemplateLook'. -/
def templateLookCard : Claim7 := { stood := { row := templateLookRow, standIns := [], harness := (true, "6355297c5e62a9db746ebaa0003f26d9d86412bdaf1b2e0ccd094d4bf87cf092"), looks := false }, kinds := [], alts := [], laidByText := true, laidKinds := [.widerDeep, .data, .data], laidTests := true, laidLooks := .later }
def TemplateLookCardSaid : Prop := Claim7.holds Tryd.pinned (.plain (OpenSpec.ofChange templateLookSpec)) templateLookCard

/-- THE TIED CARD OF 'slatewalllaw08.TemplateExact'. -/
def templateExactCard : Claim7 := { stood := { row := templateExactRow, standIns := [], harness := (true, "6355297c5e62a9db746ebaa0003f26d9d86412bdaf1b2e0ccd094d4bf87cf092"), looks := false }, kinds := [], alts := [], laidByText := true, laidKinds := [.widerDeep, .data, .data], laidTests := true, laidLooks := .later }
def TemplateExactCardSaid : Prop := Claim7.holds Tryd.pinned (.plain (OpenSpec.ofChange templateExactSpec)) templateExactCard

/-- THE SECOND FORM's CARD OF 'slatewalllaw08.TemplateMatchesReference'. -/
def templateMatchesReferenceUptoCard : Claim7 := { stood := { row := templateMatchesReferenceUptoRow, standIns := [], harness := (true, "6355297c5e62a9db746ebaa0003f26d9d86412bdaf1b2e0ccd094d4bf87cf092"), looks := false }, kinds := [], alts := [], laidByText := true, laidKinds := [.widerDeep, .data, .data], laidTests := true, laidLooks := .later }
def TemplateMatchesReferenceUptoCardSaid : Prop := Claim7.holds Tryd.pinned (.plain (OpenSpec.upto templateMatchesReferenceSpec)) templateMatchesReferenceUptoCard

/-- THE SECOND FORM's CARD OF 'slatewalllaw08.TemplateFar'. -/
def templateFarUptoCard : Claim7 := { stood := { row := templateFarUptoRow, standIns := [], harness := (true, "6355297c5e62a9db746ebaa0003f26d9d86412bdaf1b2e0ccd094d4bf87cf092"), looks := false }, kinds := [], alts := [], laidByText := true, laidKinds := [.widerDeep, .data, .data], laidTests := true, laidLooks := .later }
def TemplateFarUptoCardSaid : Prop := Claim7.holds Tryd.pinned (.plain (OpenSpec.upto templateFarSpec)) templateFarUptoCard

/-- THE SECOND FORM's CARD OF 'slatewalllaw08.TemplateMoved'. -/
def templateMovedUptoCard : Claim7 := { stood := { row := templateMovedUptoRow, standIns := [], harness := (true, "6355297c5e62a9db746ebaa0003f26d9d86412bdaf1b2e0ccd094d4bf87cf092"), looks := false }, kinds := [], alts := [], laidByText := true, laidKinds := [.widerDeep, .data, .data], laidTests := true, laidLooks := .later }
def TemplateMovedUptoCardSaid : Prop := Claim7.holds Tryd.pinned (.plain (OpenSpec.upto templateMovedSpec)) templateMovedUptoCard

/-- THE SECOND FORM's CARD OF 'slatewalllaw08.TemplateCheapest'. -/
def templateCheapestUptoCard : Claim7 := { stood := { row := templateCheapestUptoRow, standIns := [], harness := (true, "6355297c5e62a9db746ebaa0003f26d9d86412bdaf1b2e0ccd094d4bf87cf092"), looks := false }, kinds := [], alts := [], laidByText := true, laidKinds := [.widerDeep, .data, .data], laidTests := true, laidLooks := .later }
def TemplateCheapestUptoCardSaid : Prop := Claim7.holds Tryd.pinned (.plain (OpenSpec.upto templateCheapestSpec)) templateCheapestUptoCard

/-- THE SECOND FORM's CARD OF 'slatewalllaw08.TemplateShape'. -/
def templateShapeUptoCard : Claim7 := { stood := { row := templateShapeUptoRow, standIns := [], harness := (true, "6355297c5e62a9db746ebaa0003f26d9d86412bdaf1b2e0ccd094d4bf87cf092"), looks := false }, kinds := [], alts := [], laidByText := true, laidKinds := [.widerDeep, .data, .data], laidTests := true, laidLooks := .later }
def TemplateShapeUptoCardSaid : Prop := Claim7.holds Tryd.pinned (.plain (OpenSpec.upto templateShapeSpec)) templateShapeUptoCard

/-- THE SECOND FORM's CARD OF 'slatewalllaw08.TemplateLook'. -/
def templateLookUptoCard : Claim7 := { stood := { row := templateLookUptoRow, standIns := [], harness := (true, "6355297c5e62a9db746ebaa0003f26d9d86412bdaf1b2e0ccd094d4bf87cf092"), looks := false }, kinds := [], alts := [], laidByText := true, laidKinds := [.widerDeep, .data, .data], laidTests := true, laidLooks := .later }
def TemplateLookUptoCardSaid : Prop := Claim7.holds Tryd.pinned (.plain (OpenSpec.upto templateLookSpec)) templateLookUptoCard

/-- THE SECOND FORM's CARD OF 'slatewalllaw08.TemplateExact'. -/
def templateExactUptoCard : Claim7 := { stood := { row := templateExactUptoRow, standIns := [], harness := (true, "6355297c5e62a9db746ebaa0003f26d9d86412bdaf1b2e0ccd094d4bf87cf092"), looks := false }, kinds := [], alts := [], laidByText := true, laidKinds := [.widerDeep, .data, .data], laidTests := true, laidLooks := .later }
def TemplateExactUptoCardSaid : Prop := Claim7.holds Tryd.pinned (.plain (OpenSpec.upto templateExactSpec)) templateExactUptoCard
end Rows
end Go.Proofs.YtmjcjaecaigahaaDoor
