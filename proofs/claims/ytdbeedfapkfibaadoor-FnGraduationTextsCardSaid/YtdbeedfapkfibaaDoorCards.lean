/-
  DERIVED. GIVEN WITH THE SEED: THE CARDS: each row of YtdbeedfapkfibaaDoorRows.lean that lists a variable, with what it lists TIED to the program's text (the seventh form; the later family's looks); each row that meets fmt, with fmt's text TOLD by the authors' own Lean function (tested against real Go, not proved from fmt's source: count such statements apart). THE CARD IS WHAT COUNTS. Prove the row's statement (the work); the ties are given (YtdbeedfapkfibaaDoorTie.lean); close each card by the builder's one call (the guide's Derived/Test/ToyasCard.lean, 'card_holds'). Laid BY PROGRAM, IN A SANDBOX (cutbox-door.mjs). By AI agents, Wed Nov 11 2026. No macro, syntax, notation, axiom, sorry.
-/
import Derived.Test.YtdbeedfapkfibaaDoorRows
import GoSem.ClaimSeven
namespace Go.Proofs.YtdbeedfapkfibaaDoor
namespace Rows

/-- THE TIED CARD OF 'laws.FnGraduationTexts'. -/
def fnGraduationTextsCard : Claim7 := { stood := { row := fnGraduationTextsRow, standIns := [], harness := (true, "4a5d95414eaec6b73a95ddd41a691a8ec1a3064382ba356f48dcb162f43eb798"), looks := true }, kinds := [], alts := [], laidByText := true, laidKinds := [.data, .data, .data, .data, .sentinel, .sentinel, .pinned], laidTests := true, laidLooks := .later }
def FnGraduationTextsCardSaid : Prop := Claim7.holds Tryd.pinned (.plain (OpenSpec.ofChange fnGraduationTextsSpec)) fnGraduationTextsCard

/-- THE TIED CARD OF 'laws.FnErrors'. -/
def fnErrorsCard : Claim7 := { stood := { row := fnErrorsRow, standIns := [], harness := (true, "4a5d95414eaec6b73a95ddd41a691a8ec1a3064382ba356f48dcb162f43eb798"), looks := true }, kinds := [], alts := [], laidByText := true, laidKinds := [.data], laidTests := true, laidLooks := .later }
def FnErrorsCardSaid : Prop := Claim7.holds Tryd.pinned (.plain (OpenSpec.ofChange fnErrorsSpec)) fnErrorsCard

/-- THE TIED CARD OF 'laws.FnExactReadGraduation'. -/
def fnExactReadGraduationCard : Claim7 := { stood := { row := fnExactReadGraduationRow, standIns := [], harness := (true, "4a5d95414eaec6b73a95ddd41a691a8ec1a3064382ba356f48dcb162f43eb798"), looks := true }, kinds := [], alts := [], laidByText := true, laidKinds := [.data, .data, .data, .data, .sentinel, .sentinel, .pinned], laidTests := true, laidLooks := .later }
def FnExactReadGraduationCardSaid : Prop := Claim7.holds Tryd.pinned (.plain (OpenSpec.ofChange fnExactReadGraduationSpec)) fnExactReadGraduationCard

/-- THE TIED CARD OF 'laws.FnExactErrorUnits'. -/
def fnExactErrorUnitsCard : Claim7 := { stood := { row := fnExactErrorUnitsRow, standIns := [], harness := (true, "4a5d95414eaec6b73a95ddd41a691a8ec1a3064382ba356f48dcb162f43eb798"), looks := true }, kinds := [], alts := [], laidByText := true, laidKinds := [.data], laidTests := true, laidLooks := .later }
def FnExactErrorUnitsCardSaid : Prop := Claim7.holds Tryd.pinned (.plain (OpenSpec.ofChange fnExactErrorUnitsSpec)) fnExactErrorUnitsCard

/-- THE TIED CARD OF 'laws.FnExactReadingBound'. -/
def fnExactReadingBoundCard : Claim7 := { stood := { row := fnExactReadingBoundRow, standIns := [], harness := (true, "4a5d95414eaec6b73a95ddd41a691a8ec1a3064382ba356f48dcb162f43eb798"), looks := true }, kinds := [], alts := [], laidByText := true, laidKinds := [.data], laidTests := true, laidLooks := .later }
def FnExactReadingBoundCardSaid : Prop := Claim7.holds Tryd.pinned (.plain (OpenSpec.ofChange fnExactReadingBoundSpec)) fnExactReadingBoundCard

/-- THE TIED CARD OF 'laws.FnExactWorstDigits'. -/
def fnExactWorstDigitsCard : Claim7 := { stood := { row := fnExactWorstDigitsRow, standIns := [], harness := (true, "4a5d95414eaec6b73a95ddd41a691a8ec1a3064382ba356f48dcb162f43eb798"), looks := true }, kinds := [], alts := [], laidByText := true, laidKinds := [.data], laidTests := true, laidLooks := .later }
def FnExactWorstDigitsCardSaid : Prop := Claim7.holds Tryd.pinned (.plain (OpenSpec.ofChange fnExactWorstDigitsSpec)) fnExactWorstDigitsCard

/-- THE TIED CARD OF 'laws.FnExactLengthFor'. -/
def fnExactLengthForCard : Claim7 := { stood := { row := fnExactLengthForRow, standIns := [], harness := (true, "4a5d95414eaec6b73a95ddd41a691a8ec1a3064382ba356f48dcb162f43eb798"), looks := true }, kinds := [], alts := [], laidByText := true, laidKinds := [.data], laidTests := true, laidLooks := .later }
def FnExactLengthForCardSaid : Prop := Claim7.holds Tryd.pinned (.plain (OpenSpec.ofChange fnExactLengthForSpec)) fnExactLengthForCard

/-- THE SECOND FORM's CARD OF 'laws.FnGraduationTexts'. -/
def fnGraduationTextsUptoCard : Claim7 := { stood := { row := fnGraduationTextsUptoRow, standIns := [], harness := (true, "4a5d95414eaec6b73a95ddd41a691a8ec1a3064382ba356f48dcb162f43eb798"), looks := true }, kinds := [], alts := [], laidByText := true, laidKinds := [.data, .data, .data, .data, .sentinel, .sentinel, .pinned], laidTests := true, laidLooks := .later }
def FnGraduationTextsUptoCardSaid : Prop := Claim7.holds Tryd.pinned (.plain (OpenSpec.upto fnGraduationTextsSpec)) fnGraduationTextsUptoCard

/-- THE SECOND FORM's CARD OF 'laws.FnErrors'. -/
def fnErrorsUptoCard : Claim7 := { stood := { row := fnErrorsUptoRow, standIns := [], harness := (true, "4a5d95414eaec6b73a95ddd41a691a8ec1a3064382ba356f48dcb162f43eb798"), looks := true }, kinds := [], alts := [], laidByText := true, laidKinds := [.data], laidTests := true, laidLooks := .later }
def FnErrorsUptoCardSaid : Prop := Claim7.holds Tryd.pinned (.plain (OpenSpec.upto fnErrorsSpec)) fnErrorsUptoCard

/-- THE SECOND FORM's CARD OF 'laws.FnExactReadGraduation'. -/
def fnExactReadGraduationUptoCard : Claim7 := { stood := { row := fnExactReadGraduationUptoRow, standIns := [], harness := (true, "4a5d95414eaec6b73a95ddd41a691a8ec1a3064382ba356f48dcb162f43eb798"), looks := true }, kinds := [], alts := [], laidByText := true, laidKinds := [.data, .data, .data, .data, .sentinel, .sentinel, .pinned], laidTests := true, laidLooks := .later }
def FnExactReadGraduationUptoCardSaid : Prop := Claim7.holds Tryd.pinned (.plain (OpenSpec.upto fnExactReadGraduationSpec)) fnExactReadGraduationUptoCard

/-- THE SECOND FORM's CARD OF 'laws.FnExactErrorUnits'. -/
def fnExactErrorUnitsUptoCard : Claim7 := { stood := { row := fnExactErrorUnitsUptoRow, standIns := [], harness := (true, "4a5d95414eaec6b73a95ddd41a691a8ec1a3064382ba356f48dcb162f43eb798"), looks := true }, kinds := [], alts := [], laidByText := true, laidKinds := [.data], laidTests := true, laidLooks := .later }
def FnExactErrorUnitsUptoCardSaid : Prop := Claim7.holds Tryd.pinned (.plain (OpenSpec.upto fnExactErrorUnitsSpec)) fnExactErrorUnitsUptoCard

/-- THE SECOND FORM's CARD OF 'laws.FnExactReadingBound'. -/
def fnExactReadingBoundUptoCard : Claim7 := { stood := { row := fnExactReadingBoundUptoRow, standIns := [], harness := (true, "4a5d95414eaec6b73a95ddd41a691a8ec1a3064382ba356f48dcb162f43eb798"), looks := true }, kinds := [], alts := [], laidByText := true, laidKinds := [.data], laidTests := true, laidLooks := .later }
def FnExactReadingBoundUptoCardSaid : Prop := Claim7.holds Tryd.pinned (.plain (OpenSpec.upto fnExactReadingBoundSpec)) fnExactReadingBoundUptoCard

/-- THE SECOND FORM's CARD OF 'laws.FnExactWorstDigits'. -/
def fnExactWorstDigitsUptoCard : Claim7 := { stood := { row := fnExactWorstDigitsUptoRow, standIns := [], harness := (true, "4a5d95414eaec6b73a95ddd41a691a8ec1a3064382ba356f48dcb162f43eb798"), looks := true }, kinds := [], alts := [], laidByText := true, laidKinds := [.data], laidTests := true, laidLooks := .later }
def FnExactWorstDigitsUptoCardSaid : Prop := Claim7.holds Tryd.pinned (.plain (OpenSpec.upto fnExactWorstDigitsSpec)) fnExactWorstDigitsUptoCard

/-- THE SECOND FORM's CARD OF 'laws.FnExactLengthFor'. -/
def fnExactLengthForUptoCard : Claim7 := { stood := { row := fnExactLengthForUptoRow, standIns := [], harness := (true, "4a5d95414eaec6b73a95ddd41a691a8ec1a3064382ba356f48dcb162f43eb798"), looks := true }, kinds := [], alts := [], laidByText := true, laidKinds := [.data], laidTests := true, laidLooks := .later }
def FnExactLengthForUptoCardSaid : Prop := Claim7.holds Tryd.pinned (.plain (OpenSpec.upto fnExactLengthForSpec)) fnExactLengthForUptoCard
end Rows
end Go.Proofs.YtdbeedfapkfibaaDoor
