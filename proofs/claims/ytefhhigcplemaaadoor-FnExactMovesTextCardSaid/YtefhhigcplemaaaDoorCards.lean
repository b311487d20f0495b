/-
  DERIVED. GIVEN WITH THE SEED: THE CARDS: each row of YtefhhigcplemaaaDoorRows.lean that lists a variable, with what it lists TIED to the program's text (the seventh form; the later family's looks); each row that meets fmt, with fmt's text TOLD by the authors' own Lean function (tested against real Go, not proved from fmt's source: count such statements apart). THE CARD IS WHAT COUNTS. Prove the row's statement (the work); the ties are given (YtefhhigcplemaaaDoorTie.lean); close each card by the builder's one call (the guide's Derived/Test/ToyasCard.lean, 'card_holds'). Laid BY PROGRAM, IN A SANDBOX (cutbox-door.mjs). By AI agents, Wed Nov 11 2026. No macro, syntax, notation, axiom, sorry.
-/
import Derived.Test.YtefhhigcplemaaaDoorRows
import GoSem.ClaimSeven
namespace Go.Proofs.YtefhhigcplemaaaDoor
namespace Rows

/-- THE TIED CARD OF 'laws.FnExactAreMoves'. -/
def fnExactAreMovesCard : Claim7 := { stood := { row := fnExactAreMovesRow, standIns := [], harness := (true, "1375c6d4f94d7fa8155c9ced1520541439c572bfe5374d1b13668a9fe1976f10"), looks := true }, kinds := [], alts := [], laidByText := true, laidKinds := [.data], laidTests := true, laidLooks := .later }
def FnExactAreMovesCardSaid : Prop := Claim7.holds Tryd.pinned (.plain (OpenSpec.ofChange fnExactAreMovesSpec)) fnExactAreMovesCard

/-- THE TIED CARD OF 'laws.FnExactApplyMove'. -/
def fnExactApplyMoveCard : Claim7 := { stood := { row := fnExactApplyMoveRow, standIns := [], harness := (true, "1375c6d4f94d7fa8155c9ced1520541439c572bfe5374d1b13668a9fe1976f10"), looks := true }, kinds := [], alts := [], laidByText := true, laidKinds := [.data], laidTests := true, laidLooks := .later }
def FnExactApplyMoveCardSaid : Prop := Claim7.holds Tryd.pinned (.plain (OpenSpec.ofChange fnExactApplyMoveSpec)) fnExactApplyMoveCard

/-- THE TIED CARD OF 'laws.FnExactRunMoves'. -/
def fnExactRunMovesCard : Claim7 := { stood := { row := fnExactRunMovesRow, standIns := [], harness := (true, "1375c6d4f94d7fa8155c9ced1520541439c572bfe5374d1b13668a9fe1976f10"), looks := true }, kinds := [], alts := [], laidByText := true, laidKinds := [.data], laidTests := true, laidLooks := .later }
def FnExactRunMovesCardSaid : Prop := Claim7.holds Tryd.pinned (.plain (OpenSpec.ofChange fnExactRunMovesSpec)) fnExactRunMovesCard

/-- THE TIED CARD OF 'laws.FnExactFirstImpossible'. -/
def fnExactFirstImpossibleCard : Claim7 := { stood := { row := fnExactFirstImpossibleRow, standIns := [], harness := (true, "1375c6d4f94d7fa8155c9ced1520541439c572bfe5374d1b13668a9fe1976f10"), looks := true }, kinds := [], alts := [], laidByText := true, laidKinds := [.data], laidTests := true, laidLooks := .later }
def FnExactFirstImpossibleCardSaid : Prop := Claim7.holds Tryd.pinned (.plain (OpenSpec.ofChange fnExactFirstImpossibleSpec)) fnExactFirstImpossibleCard

/-- THE TIED CARD OF 'laws.FnExactTravelOf'. -/
def fnExactTravelOfCard : Claim7 := { stood := { row := fnExactTravelOfRow, standIns := [], harness := (true, "1375c6d4f94d7fa8155c9ced1520541439c572bfe5374d1b13668a9fe1976f10"), looks := true }, kinds := [], alts := [], laidByText := true, laidKinds := [.data], laidTests := true, laidLooks := .later }
def FnExactTravelOfCardSaid : Prop := Claim7.holds Tryd.pinned (.plain (OpenSpec.ofChange fnExactTravelOfSpec)) fnExactTravelOfCard

/-- THE TIED CARD OF 'laws.FnExactCountSettings'. -/
def fnExactCountSettingsCard : Claim7 := { stood := { row := fnExactCountSettingsRow, standIns := [], harness := (true, "1375c6d4f94d7fa8155c9ced1520541439c572bfe5374d1b13668a9fe1976f10"), looks := true }, kinds := [], alts := [], laidByText := true, laidKinds := [.data], laidTests := true, laidLooks := .later }
def FnExactCountSettingsCardSaid : Prop := Claim7.holds Tryd.pinned (.plain (OpenSpec.ofChange fnExactCountSettingsSpec)) fnExactCountSettingsCard

/-- THE TIED CARD OF 'laws.FnExactMovesText'. -/
def fnExactMovesTextCard : Claim7 := { stood := { row := fnExactMovesTextRow, standIns := [], harness := (true, "1375c6d4f94d7fa8155c9ced1520541439c572bfe5374d1b13668a9fe1976f10"), looks := true }, kinds := [], alts := [], laidByText := true, laidKinds := [.data, .data, .data, .data, .data], laidTests := true, laidLooks := .later }
def FnExactMovesTextCardSaid : Prop := Claim7.holds Tryd.pinned (.plain (OpenSpec.ofChange fnExactMovesTextSpec)) fnExactMovesTextCard

/-- THE TIED CARD OF 'laws.FnExactReadRule'. -/
def fnExactReadRuleCard : Claim7 := { stood := { row := fnExactReadRuleRow, standIns := [], harness := (true, "1375c6d4f94d7fa8155c9ced1520541439c572bfe5374d1b13668a9fe1976f10"), looks := true }, kinds := [], alts := [], laidByText := true, laidKinds := [.data, .data, .data, .data, .sentinel, .sentinel, .data, .pinned], laidTests := true, laidLooks := .later }
def FnExactReadRuleCardSaid : Prop := Claim7.holds Tryd.pinned (.plain (OpenSpec.ofChange fnExactReadRuleSpec)) fnExactReadRuleCard

/-- THE SECOND FORM's CARD OF 'laws.FnExactAreMoves'. -/
def fnExactAreMovesUptoCard : Claim7 := { stood := { row := fnExactAreMovesUptoRow, standIns := [], harness := (true, "1375c6d4f94d7fa8155c9ced1520541439c572bfe5374d1b13668a9fe1976f10"), looks := true }, kinds := [], alts := [], laidByText := true, laidKinds := [.data], laidTests := true, laidLooks := .later }
def FnExactAreMovesUptoCardSaid : Prop := Claim7.holds Tryd.pinned (.plain (OpenSpec.upto fnExactAreMovesSpec)) fnExactAreMovesUptoCard

/-- THE SECOND FORM's CARD OF 'laws.FnExactApplyMove'. -/
def fnExactApplyMoveUptoCard : Claim7 := { stood := { row := fnExactApplyMoveUptoRow, standIns := [], harness := (true, "1375c6d4f94d7fa8155c9ced1520541439c572bfe5374d1b13668a9fe1976f10"), looks := true }, kinds := [], alts := [], laidByText := true, laidKinds := [.data], laidTests := true, laidLooks := .later }
def FnExactApplyMoveUptoCardSaid : Prop := Claim7.holds Tryd.pinned (.plain (OpenSpec.upto fnExactApplyMoveSpec)) fnExactApplyMoveUptoCard

/-- THE SECOND FORM's CARD OF 'laws.FnExactRunMoves'. -/
def fnExactRunMovesUptoCard : Claim7 := { stood := { row := fnExactRunMovesUptoRow, standIns := [], harness := (true, "1375c6d4f94d7fa8155c9ced1520541439c572bfe5374d1b13668a9fe1976f10"), looks := true }, kinds := [], alts := [], laidByText := true, laidKinds := [.data], laidTests := true, laidLooks := .later }
def FnExactRunMovesUptoCardSaid : Prop := Claim7.holds Tryd.pinned (.plain (OpenSpec.upto fnExactRunMovesSpec)) fnExactRunMovesUptoCard

/-- THE SECOND FORM's CARD OF 'laws.FnExactFirstImpossible'. -/
def fnExactFirstImpossibleUptoCard : Claim7 := { stood := { row := fnExactFirstImpossibleUptoRow, standIns := [], harness := (true, "1375c6d4f94d7fa8155c9ced1520541439c572bfe5374d1b13668a9fe1976f10"), looks := true }, kinds := [], alts := [], laidByText := true, laidKinds := [.data], laidTests := true, laidLooks := .later }
def FnExactFirstImpossibleUptoCardSaid : Prop := Claim7.holds Tryd.pinned (.plain (OpenSpec.upto fnExactFirstImpossibleSpec)) fnExactFirstImpossibleUptoCard

/-- THE SECOND FORM's CARD OF 'laws.FnExactTravelOf'. -/
def fnExactTravelOfUptoCard : Claim7 := { stood := { row := fnExactTravelOfUptoRow, standIns := [], harness := (true, "1375c6d4f94d7fa8155c9ced1520541439c572bfe5374d1b13668a9fe1976f10"), looks := true }, kinds := [], alts := [], laidByText := true, laidKinds := [.data], laidTests := true, laidLooks := .later }
def FnExactTravelOfUptoCardSaid : Prop := Claim7.holds Tryd.pinned (.plain (OpenSpec.upto fnExactTravelOfSpec)) fnExactTravelOfUptoCard

/-- THE SECOND FORM's CARD OF 'laws.FnExactCountSettings'. -/
def fnExactCountSettingsUptoCard : Claim7 := { stood := { row := fnExactCountSettingsUptoRow, standIns := [], harness := (true, "1375c6d4f94d7fa8155c9ced1520541439c572bfe5374d1b13668a9fe1976f10"), looks := true }, kinds := [], alts := [], laidByText := true, laidKinds := [.data], laidTests := true, laidLooks := .later }
def FnExactCountSettingsUptoCardSaid : Prop := Claim7.holds Tryd.pinned (.plain (OpenSpec.upto fnExactCountSettingsSpec)) fnExactCountSettingsUptoCard

/-- THE SECOND FORM's CARD OF 'laws.FnExactMovesText'. -/
def fnExactMovesTextUptoCard : Claim7 := { stood := { row := fnExactMovesTextUptoRow, standIns := [], harness := (true, "1375c6d4f94d7fa8155c9ced1520541439c572bfe5374d1b13668a9fe1976f10"), looks := true }, kinds := [], alts := [], laidByText := true, laidKinds := [.data, .data, .data, .data, .data], laidTests := true, laidLooks := .later }
def FnExactMovesTextUptoCardSaid : Prop := Claim7.holds Tryd.pinned (.plain (OpenSpec.upto fnExactMovesTextSpec)) fnExactMovesTextUptoCard

/-- THE SECOND FORM's CARD OF 'laws.FnExactReadRule'. -/
def fnExactReadRuleUptoCard : Claim7 := { stood := { row := fnExactReadRuleUptoRow, standIns := [], harness := (true, "1375c6d4f94d7fa8155c9ced1520541439c572bfe5374d1b13668a9fe1976f10"), looks := true }, kinds := [], alts := [], laidByText := true, laidKinds := [.data, .data, .data, .data, .sentinel, .sentinel, .data, .pinned], laidTests := true, laidLooks := .later }
def FnExactReadRuleUptoCardSaid : Prop := Claim7.holds Tryd.pinned (.plain (OpenSpec.upto fnExactReadRuleSpec)) fnExactReadRuleUptoCard
end Rows
end Go.Proofs.YtefhhigcplemaaaDoor
