/-
  DERIVED. GIVEN WITH THE SEED: THE CARDS: each row of YtggflladheemoaaDoorRows.lean that lists a variable, with what it lists TIED to the program's text (the seventh form; the later family's looks); each row that meets fmt, with fmt's text TOLD by the authors' own Lean function (tested against real Go, not proved from fmt's source: count such statements apart). THE CARD IS WHAT COUNTS. Prove the row's statement (the work); the ties are given (YtggflladheemoaaDoorTie.lean); close each card by the builder's one call (the guide's Derived/Test/ToyasCard.lean, 'card_holds'). Laid BY PROGRAM, IN A SANDBOX (cutbox-door.mjs). By AI agents, Wed Nov 11 2026. No macro, syntax, notation, axiom, sorry.
-/
import Derived.Test.YtggflladheemoaaDoorRows
import GoSem.ClaimSeven
namespace Go.Proofs.YtggflladheemoaaDoor
namespace Rows

/-- THE TIED CARD OF 'laws.FnChosen'. -/
def fnChosenCard : Claim7 := { stood := { row := fnChosenRow, standIns := [], harness := (true, "b0ed8a3c8693c09467bd20d9c733e65d80662e299654ed19ed78e00dd3d4980e"), looks := true }, kinds := [], alts := [], laidByText := true, laidKinds := [.data, .data, .data], laidTests := true, laidLooks := .later }
def FnChosenCardSaid : Prop := Claim7.holds Tryd.pinned (.plain (OpenSpec.ofChange fnChosenSpec)) fnChosenCard

/-- THE TIED CARD OF 'laws.FnGraduationTexts'. -/
def fnGraduationTextsCard : Claim7 := { stood := { row := fnGraduationTextsRow, standIns := [], harness := (true, "b0ed8a3c8693c09467bd20d9c733e65d80662e299654ed19ed78e00dd3d4980e"), looks := true }, kinds := [], alts := [], laidByText := true, laidKinds := [.data, .data, .data, .data, .sentinel, .sentinel, .pinned], laidTests := true, laidLooks := .later }
def FnGraduationTextsCardSaid : Prop := Claim7.holds Tryd.pinned (.plain (OpenSpec.ofChange fnGraduationTextsSpec)) fnGraduationTextsCard

/-- THE TIED CARD OF 'laws.FnTicks'. -/
def fnTicksCard : Claim7 := { stood := { row := fnTicksRow, standIns := [], harness := (true, "b0ed8a3c8693c09467bd20d9c733e65d80662e299654ed19ed78e00dd3d4980e"), looks := true }, kinds := [], alts := [], laidByText := true, laidKinds := [.data, .data], laidTests := true, laidLooks := .later }
def FnTicksCardSaid : Prop := Claim7.holds Tryd.pinned (.plain (OpenSpec.ofChange fnTicksSpec)) fnTicksCard

/-- THE TIED CARD OF 'laws.FnLabels'. -/
def fnLabelsCard : Claim7 := { stood := { row := fnLabelsRow, standIns := [], harness := (true, "b0ed8a3c8693c09467bd20d9c733e65d80662e299654ed19ed78e00dd3d4980e"), looks := true }, kinds := [], alts := [], laidByText := true, laidKinds := [.data, .data, .data, .data, .pinned], laidTests := true, laidLooks := .later }
def FnLabelsCardSaid : Prop := Claim7.holds Tryd.pinned (.plain (OpenSpec.ofChange fnLabelsSpec)) fnLabelsCard

/-- THE TIED CARD OF 'laws.FnProofs'. -/
def fnProofsCard : Claim7 := { stood := { row := fnProofsRow, standIns := [], harness := (true, "b0ed8a3c8693c09467bd20d9c733e65d80662e299654ed19ed78e00dd3d4980e"), looks := true }, kinds := [], alts := [], laidByText := true, laidKinds := [.data, .data, .data, .data, .pinned], laidTests := true, laidLooks := .later }
def FnProofsCardSaid : Prop := Claim7.holds Tryd.pinned (.plain (OpenSpec.ofChange fnProofsSpec)) fnProofsCard

/-- THE TIED CARD OF 'laws.FnExactReadGraduation'. -/
def fnExactReadGraduationCard : Claim7 := { stood := { row := fnExactReadGraduationRow, standIns := [], harness := (true, "b0ed8a3c8693c09467bd20d9c733e65d80662e299654ed19ed78e00dd3d4980e"), looks := true }, kinds := [], alts := [], laidByText := true, laidKinds := [.data, .data, .data, .data, .sentinel, .sentinel, .pinned], laidTests := true, laidLooks := .later }
def FnExactReadGraduationCardSaid : Prop := Claim7.holds Tryd.pinned (.plain (OpenSpec.ofChange fnExactReadGraduationSpec)) fnExactReadGraduationCard

/-- THE TIED CARD OF 'laws.FnExactTicksOf'. -/
def fnExactTicksOfCard : Claim7 := { stood := { row := fnExactTicksOfRow, standIns := [], harness := (true, "b0ed8a3c8693c09467bd20d9c733e65d80662e299654ed19ed78e00dd3d4980e"), looks := true }, kinds := [], alts := [], laidByText := true, laidKinds := [.data, .data], laidTests := true, laidLooks := .later }
def FnExactTicksOfCardSaid : Prop := Claim7.holds Tryd.pinned (.plain (OpenSpec.ofChange fnExactTicksOfSpec)) fnExactTicksOfCard

/-- THE TIED CARD OF 'laws.FnExactLabelText'. -/
def fnExactLabelTextCard : Claim7 := { stood := { row := fnExactLabelTextRow, standIns := [], harness := (true, "b0ed8a3c8693c09467bd20d9c733e65d80662e299654ed19ed78e00dd3d4980e"), looks := true }, kinds := [], alts := [], laidByText := true, laidKinds := [.data, .data, .data, .data, .pinned], laidTests := true, laidLooks := .later }
def FnExactLabelTextCardSaid : Prop := Claim7.holds Tryd.pinned (.plain (OpenSpec.ofChange fnExactLabelTextSpec)) fnExactLabelTextCard

/-- THE SECOND FORM's CARD OF 'laws.FnChosen'. -/
def fnChosenUptoCard : Claim7 := { stood := { row := fnChosenUptoRow, standIns := [], harness := (true, "b0ed8a3c8693c09467bd20d9c733e65d80662e299654ed19ed78e00dd3d4980e"), looks := true }, kinds := [], alts := [], laidByText := true, laidKinds := [.data, .data, .data], laidTests := true, laidLooks := .later }
def FnChosenUptoCardSaid : Prop := Claim7.holds Tryd.pinned (.plain (OpenSpec.upto fnChosenSpec)) fnChosenUptoCard

/-- THE SECOND FORM's CARD OF 'laws.FnGraduationTexts'. -/
def fnGraduationTextsUptoCard : Claim7 := { stood := { row := fnGraduationTextsUptoRow, standIns := [], harness := (true, "b0ed8a3c8693c09467bd20d9c733e65d80662e299654ed19ed78e00dd3d4980e"), looks := true }, kinds := [], alts := [], laidByText := true, laidKinds := [.data, .data, .data, .data, .sentinel, .sentinel, .pinned], laidTests := true, laidLooks := .later }
def FnGraduationTextsUptoCardSaid : Prop := Claim7.holds Tryd.pinned (.plain (OpenSpec.upto fnGraduationTextsSpec)) fnGraduationTextsUptoCard

/-- THE SECOND FORM's CARD OF 'laws.FnTicks'. -/
def fnTicksUptoCard : Claim7 := { stood := { row := fnTicksUptoRow, standIns := [], harness := (true, "b0ed8a3c8693c09467bd20d9c733e65d80662e299654ed19ed78e00dd3d4980e"), looks := true }, kinds := [], alts := [], laidByText := true, laidKinds := [.data, .data], laidTests := true, laidLooks := .later }
def FnTicksUptoCardSaid : Prop := Claim7.holds Tryd.pinned (.plain (OpenSpec.upto fnTicksSpec)) fnTicksUptoCard

/-- THE SECOND FORM's CARD OF 'laws.FnLabels'. -/
def fnLabelsUptoCard : Claim7 := { stood := { row := fnLabelsUptoRow, standIns := [], harness := (true, "b0ed8a3c8693c09467bd20d9c733e65d80662e299654ed19ed78e00dd3d4980e"), looks := true }, kinds := [], alts := [], laidByText := true, laidKinds := [.data, .data, .data, .data, .pinned], laidTests := true, laidLooks := .later }
def FnLabelsUptoCardSaid : Prop := Claim7.holds Tryd.pinned (.plain (OpenSpec.upto fnLabelsSpec)) fnLabelsUptoCard

/-- THE SECOND FORM's CARD OF 'laws.FnProofs'. -/
def fnProofsUptoCard : Claim7 := { stood := { row := fnProofsUptoRow, standIns := [], harness := (true, "b0ed8a3c8693c09467bd20d9c733e65d80662e299654ed19ed78e00dd3d4980e"), looks := true }, kinds := [], alts := [], laidByText := true, laidKinds := [.data, .data, .data, .data, .pinned], laidTests := true, laidLooks := .later }
def FnProofsUptoCardSaid : Prop := Claim7.holds Tryd.pinned (.plain (OpenSpec.upto fnProofsSpec)) fnProofsUptoCard

/-- THE SECOND FORM's CARD OF 'laws.FnExactReadGraduation'. -/
def fnExactReadGraduationUptoCard : Claim7 := { stood := { row := fnExactReadGraduationUptoRow, standIns := [], harness := (true, "b0ed8a3c8693c09467bd20d9c733e65d80662e299654ed19ed78e00dd3d4980e"), looks := true }, kinds := [], alts := [], laidByText := true, laidKinds := [.data, .data, .data, .data, .sentinel, .sentinel, .pinned], laidTests := true, laidLooks := .later }
def FnExactReadGraduationUptoCardSaid : Prop := Claim7.holds Tryd.pinned (.plain (OpenSpec.upto fnExactReadGraduationSpec)) fnExactReadGraduationUptoCard

/-- THE SECOND FORM's CARD OF 'laws.FnExactTicksOf'. -/
def fnExactTicksOfUptoCard : Claim7 := { stood := { row := fnExactTicksOfUptoRow, standIns := [], harness := (true, "b0ed8a3c8693c09467bd20d9c733e65d80662e299654ed19ed78e00dd3d4980e"), looks := true }, kinds := [], alts := [], laidByText := true, laidKinds := [.data, .data], laidTests := true, laidLooks := .later }
def FnExactTicksOfUptoCardSaid : Prop := Claim7.holds Tryd.pinned (.plain (OpenSpec.upto fnExactTicksOfSpec)) fnExactTicksOfUptoCard

/-- THE SECOND FORM's CARD OF 'laws.FnExactLabelText'. -/
def fnExactLabelTextUptoCard : Claim7 := { stood := { row := fnExactLabelTextUptoRow, standIns := [], harness := (true, "b0ed8a3c8693c09467bd20d9c733e65d80662e299654ed19ed78e00dd3d4980e"), looks := true }, kinds := [], alts := [], laidByText := true, laidKinds := [.data, .data, .data, .data, .pinned], laidTests := true, laidLooks := .later }
def FnExactLabelTextUptoCardSaid : Prop := Claim7.holds Tryd.pinned (.plain (OpenSpec.upto fnExactLabelTextSpec)) fnExactLabelTextUptoCard
end Rows
end Go.Proofs.YtggflladheemoaaDoor
