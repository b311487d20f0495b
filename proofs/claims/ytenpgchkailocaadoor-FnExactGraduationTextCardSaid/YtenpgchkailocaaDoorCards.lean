/-
  DERIVED. GIVEN WITH THE SEED: THE CARDS: each row of YtenpgchkailocaaDoorRows.lean that lists a variable, with what it lists TIED to the program's text (the seventh form; the later family's looks); each row that meets fmt, with fmt's text TOLD by the authors' own Lean function (tested against real Go, not proved from fmt's source: count such statements apart). THE CARD IS WHAT COUNTS. Prove the row's statement (the work); the ties are given (YtenpgchkailocaaDoorTie.lean); close each card by the builder's one call (the guide's Derived/Test/ToyasCard.lean, 'card_holds'). Laid BY PROGRAM, IN A SANDBOX (cutbox-door.mjs). By AI agents, Wed Nov 11 2026. No macro, syntax, notation, axiom, sorry.
-/
import Derived.Test.YtenpgchkailocaaDoorRows
import GoSem.ClaimSeven
namespace Go.Proofs.YtenpgchkailocaaDoor
namespace Rows

/-- THE TIED CARD OF 'laws.FnChosen'. -/
def fnChosenCard : Claim7 := { stood := { row := fnChosenRow, standIns := [], harness := (true, "b17c93c4d72f889186b6466e3ae0316f6aadac7313a955a943465ebd6821ea4a"), looks := true }, kinds := [], alts := [], laidByText := true, laidKinds := [.data, .data, .data], laidTests := true, laidLooks := .later }
def FnChosenCardSaid : Prop := Claim7.holds Tryd.pinned (.plain (OpenSpec.ofChange fnChosenSpec)) fnChosenCard

/-- THE TIED CARD OF 'laws.FnGraduationTexts'. -/
def fnGraduationTextsCard : Claim7 := { stood := { row := fnGraduationTextsRow, standIns := [], harness := (true, "b17c93c4d72f889186b6466e3ae0316f6aadac7313a955a943465ebd6821ea4a"), looks := true }, kinds := [], alts := [], laidByText := true, laidKinds := [.data, .data, .data, .data, .sentinel, .sentinel, .pinned], laidTests := true, laidLooks := .later }
def FnGraduationTextsCardSaid : Prop := Claim7.holds Tryd.pinned (.plain (OpenSpec.ofChange fnGraduationTextsSpec)) fnGraduationTextsCard

/-- THE TIED CARD OF 'laws.FnTicks'. -/
def fnTicksCard : Claim7 := { stood := { row := fnTicksRow, standIns := [], harness := (true, "b17c93c4d72f889186b6466e3ae0316f6aadac7313a955a943465ebd6821ea4a"), looks := true }, kinds := [], alts := [], laidByText := true, laidKinds := [.data, .data], laidTests := true, laidLooks := .later }
def FnTicksCardSaid : Prop := Claim7.holds Tryd.pinned (.plain (OpenSpec.ofChange fnTicksSpec)) fnTicksCard

/-- THE TIED CARD OF 'laws.FnExactChooseGraduation'. -/
def fnExactChooseGraduationCard : Claim7 := { stood := { row := fnExactChooseGraduationRow, standIns := [], harness := (true, "b17c93c4d72f889186b6466e3ae0316f6aadac7313a955a943465ebd6821ea4a"), looks := true }, kinds := [], alts := [], laidByText := true, laidKinds := [.data, .data, .data], laidTests := true, laidLooks := .later }
def FnExactChooseGraduationCardSaid : Prop := Claim7.holds Tryd.pinned (.plain (OpenSpec.ofChange fnExactChooseGraduationSpec)) fnExactChooseGraduationCard

/-- THE TIED CARD OF 'laws.FnExactGraduationText'. -/
def fnExactGraduationTextCard : Claim7 := { stood := { row := fnExactGraduationTextRow, standIns := [], harness := (true, "b17c93c4d72f889186b6466e3ae0316f6aadac7313a955a943465ebd6821ea4a"), looks := true }, kinds := [], alts := [], laidByText := true, laidKinds := [.data, .data, .data], laidTests := true, laidLooks := .later }
def FnExactGraduationTextCardSaid : Prop := Claim7.holds Tryd.pinned (.plain (OpenSpec.ofChange fnExactGraduationTextSpec)) fnExactGraduationTextCard

/-- THE TIED CARD OF 'laws.FnExactReadGraduation'. -/
def fnExactReadGraduationCard : Claim7 := { stood := { row := fnExactReadGraduationRow, standIns := [], harness := (true, "b17c93c4d72f889186b6466e3ae0316f6aadac7313a955a943465ebd6821ea4a"), looks := true }, kinds := [], alts := [], laidByText := true, laidKinds := [.data, .data, .data, .data, .sentinel, .sentinel, .pinned], laidTests := true, laidLooks := .later }
def FnExactReadGraduationCardSaid : Prop := Claim7.holds Tryd.pinned (.plain (OpenSpec.ofChange fnExactReadGraduationSpec)) fnExactReadGraduationCard

/-- THE TIED CARD OF 'laws.FnExactTickHeight'. -/
def fnExactTickHeightCard : Claim7 := { stood := { row := fnExactTickHeightRow, standIns := [], harness := (true, "b17c93c4d72f889186b6466e3ae0316f6aadac7313a955a943465ebd6821ea4a"), looks := true }, kinds := [], alts := [], laidByText := true, laidKinds := [.data], laidTests := true, laidLooks := .later }
def FnExactTickHeightCardSaid : Prop := Claim7.holds Tryd.pinned (.plain (OpenSpec.ofChange fnExactTickHeightSpec)) fnExactTickHeightCard

/-- THE TIED CARD OF 'laws.FnExactTicksOf'. -/
def fnExactTicksOfCard : Claim7 := { stood := { row := fnExactTicksOfRow, standIns := [], harness := (true, "b17c93c4d72f889186b6466e3ae0316f6aadac7313a955a943465ebd6821ea4a"), looks := true }, kinds := [], alts := [], laidByText := true, laidKinds := [.data, .data], laidTests := true, laidLooks := .later }
def FnExactTicksOfCardSaid : Prop := Claim7.holds Tryd.pinned (.plain (OpenSpec.ofChange fnExactTicksOfSpec)) fnExactTicksOfCard

/-- THE TIED CARD OF 'laws.FnExactCountHeights'. -/
def fnExactCountHeightsCard : Claim7 := { stood := { row := fnExactCountHeightsRow, standIns := [], harness := (true, "b17c93c4d72f889186b6466e3ae0316f6aadac7313a955a943465ebd6821ea4a"), looks := true }, kinds := [], alts := [], laidByText := true, laidKinds := [.data], laidTests := true, laidLooks := .later }
def FnExactCountHeightsCardSaid : Prop := Claim7.holds Tryd.pinned (.plain (OpenSpec.ofChange fnExactCountHeightsSpec)) fnExactCountHeightsCard

/-- THE SECOND FORM's CARD OF 'laws.FnChosen'. -/
def fnChosenUptoCard : Claim7 := { stood := { row := fnChosenUptoRow, standIns := [], harness := (true, "b17c93c4d72f889186b6466e3ae0316f6aadac7313a955a943465ebd6821ea4a"), looks := true }, kinds := [], alts := [], laidByText := true, laidKinds := [.data, .data, .data], laidTests := true, laidLooks := .later }
def FnChosenUptoCardSaid : Prop := Claim7.holds Tryd.pinned (.plain (OpenSpec.upto fnChosenSpec)) fnChosenUptoCard

/-- THE SECOND FORM's CARD OF 'laws.FnGraduationTexts'. -/
def fnGraduationTextsUptoCard : Claim7 := { stood := { row := fnGraduationTextsUptoRow, standIns := [], harness := (true, "b17c93c4d72f889186b6466e3ae0316f6aadac7313a955a943465ebd6821ea4a"), looks := true }, kinds := [], alts := [], laidByText := true, laidKinds := [.data, .data, .data, .data, .sentinel, .sentinel, .pinned], laidTests := true, laidLooks := .later }
def FnGraduationTextsUptoCardSaid : Prop := Claim7.holds Tryd.pinned (.plain (OpenSpec.upto fnGraduationTextsSpec)) fnGraduationTextsUptoCard

/-- THE SECOND FORM's CARD OF 'laws.FnTicks'. -/
def fnTicksUptoCard : Claim7 := { stood := { row := fnTicksUptoRow, standIns := [], harness := (true, "b17c93c4d72f889186b6466e3ae0316f6aadac7313a955a943465ebd6821ea4a"), looks := true }, kinds := [], alts := [], laidByText := true, laidKinds := [.data, .data], laidTests := true, laidLooks := .later }
def FnTicksUptoCardSaid : Prop := Claim7.holds Tryd.pinned (.plain (OpenSpec.upto fnTicksSpec)) fnTicksUptoCard

/-- THE SECOND FORM's CARD OF 'laws.FnExactChooseGraduation'. -/
def fnExactChooseGraduationUptoCard : Claim7 := { stood := { row := fnExactChooseGraduationUptoRow, standIns := [], harness := (true, "b17c93c4d72f889186b6466e3ae0316f6aadac7313a955a943465ebd6821ea4a"), looks := true }, kinds := [], alts := [], laidByText := true, laidKinds := [.data, .data, .data], laidTests := true, laidLooks := .later }
def FnExactChooseGraduationUptoCardSaid : Prop := Claim7.holds Tryd.pinned (.plain (OpenSpec.upto fnExactChooseGraduationSpec)) fnExactChooseGraduationUptoCard

/-- THE SECOND FORM's CARD OF 'laws.FnExactGraduationText'. -/
def fnExactGraduationTextUptoCard : Claim7 := { stood := { row := fnExactGraduationTextUptoRow, standIns := [], harness := (true, "b17c93c4d72f889186b6466e3ae0316f6aadac7313a955a943465ebd6821ea4a"), looks := true }, kinds := [], alts := [], laidByText := true, laidKinds := [.data, .data, .data], laidTests := true, laidLooks := .later }
def FnExactGraduationTextUptoCardSaid : Prop := Claim7.holds Tryd.pinned (.plain (OpenSpec.upto fnExactGraduationTextSpec)) fnExactGraduationTextUptoCard

/-- THE SECOND FORM's CARD OF 'laws.FnExactReadGraduation'. -/
def fnExactReadGraduationUptoCard : Claim7 := { stood := { row := fnExactReadGraduationUptoRow, standIns := [], harness := (true, "b17c93c4d72f889186b6466e3ae0316f6aadac7313a955a943465ebd6821ea4a"), looks := true }, kinds := [], alts := [], laidByText := true, laidKinds := [.data, .data, .data, .data, .sentinel, .sentinel, .pinned], laidTests := true, laidLooks := .later }
def FnExactReadGraduationUptoCardSaid : Prop := Claim7.holds Tryd.pinned (.plain (OpenSpec.upto fnExactReadGraduationSpec)) fnExactReadGraduationUptoCard

/-- THE SECOND FORM's CARD OF 'laws.FnExactTickHeight'. -/
def fnExactTickHeightUptoCard : Claim7 := { stood := { row := fnExactTickHeightUptoRow, standIns := [], harness := (true, "b17c93c4d72f889186b6466e3ae0316f6aadac7313a955a943465ebd6821ea4a"), looks := true }, kinds := [], alts := [], laidByText := true, laidKinds := [.data], laidTests := true, laidLooks := .later }
def FnExactTickHeightUptoCardSaid : Prop := Claim7.holds Tryd.pinned (.plain (OpenSpec.upto fnExactTickHeightSpec)) fnExactTickHeightUptoCard

/-- THE SECOND FORM's CARD OF 'laws.FnExactTicksOf'. -/
def fnExactTicksOfUptoCard : Claim7 := { stood := { row := fnExactTicksOfUptoRow, standIns := [], harness := (true, "b17c93c4d72f889186b6466e3ae0316f6aadac7313a955a943465ebd6821ea4a"), looks := true }, kinds := [], alts := [], laidByText := true, laidKinds := [.data, .data], laidTests := true, laidLooks := .later }
def FnExactTicksOfUptoCardSaid : Prop := Claim7.holds Tryd.pinned (.plain (OpenSpec.upto fnExactTicksOfSpec)) fnExactTicksOfUptoCard

/-- THE SECOND FORM's CARD OF 'laws.FnExactCountHeights'. -/
def fnExactCountHeightsUptoCard : Claim7 := { stood := { row := fnExactCountHeightsUptoRow, standIns := [], harness := (true, "b17c93c4d72f889186b6466e3ae0316f6aadac7313a955a943465ebd6821ea4a"), looks := true }, kinds := [], alts := [], laidByText := true, laidKinds := [.data], laidTests := true, laidLooks := .later }
def FnExactCountHeightsUptoCardSaid : Prop := Claim7.holds Tryd.pinned (.plain (OpenSpec.upto fnExactCountHeightsSpec)) fnExactCountHeightsUptoCard
end Rows
end Go.Proofs.YtenpgchkailocaaDoor
