/-
  DERIVED. GIVEN WITH THE SEED: THE CARDS: each row of YtddcdodbmbmdnaaDoorRows.lean that lists a variable, with what it lists TIED to the program's text (the seventh form; the later family's looks); each row that meets fmt, with fmt's text TOLD by the authors' own Lean function (tested against real Go, not proved from fmt's source: count such statements apart). THE CARD IS WHAT COUNTS. Prove the row's statement (the work); the ties are given (YtddcdodbmbmdnaaDoorTie.lean); close each card by the builder's one call (the guide's Derived/Test/ToyasCard.lean, 'card_holds'). Laid BY PROGRAM, IN A SANDBOX (cutbox-door.mjs). By AI agents, Wed Nov 11 2026. No macro, syntax, notation, axiom, sorry.
-/
import Derived.Test.YtddcdodbmbmdnaaDoorRows
import GoSem.ClaimSeven
namespace Go.Proofs.YtddcdodbmbmdnaaDoor
namespace Rows

/-- THE TIED CARD OF 'laws.FnExactPointOf'. -/
def fnExactPointOfCard : Claim7 := { stood := { row := fnExactPointOfRow, standIns := [], harness := (true, "6412f3f3d1e34560822108f4b5f9a67aee83148448e49b34d48a44f8a2f7b8ea"), looks := true }, kinds := [], alts := [], laidByText := true, laidKinds := [.data], laidTests := true, laidLooks := .later }
def FnExactPointOfCardSaid : Prop := Claim7.holds Tryd.pinned (.plain (OpenSpec.ofChange fnExactPointOfSpec)) fnExactPointOfCard

/-- THE TIED CARD OF 'laws.FnExactReadStock'. -/
def fnExactReadStockCard : Claim7 := { stood := { row := fnExactReadStockRow, standIns := [], harness := (true, "6412f3f3d1e34560822108f4b5f9a67aee83148448e49b34d48a44f8a2f7b8ea"), looks := true }, kinds := [], alts := [], laidByText := true, laidKinds := [.data], laidTests := true, laidLooks := .later }
def FnExactReadStockCardSaid : Prop := Claim7.holds Tryd.pinned (.plain (OpenSpec.ofChange fnExactReadStockSpec)) fnExactReadStockCard

/-- THE TIED CARD OF 'laws.FnExactReadSlide'. -/
def fnExactReadSlideCard : Claim7 := { stood := { row := fnExactReadSlideRow, standIns := [], harness := (true, "6412f3f3d1e34560822108f4b5f9a67aee83148448e49b34d48a44f8a2f7b8ea"), looks := true }, kinds := [], alts := [], laidByText := true, laidKinds := [.data], laidTests := true, laidLooks := .later }
def FnExactReadSlideCardSaid : Prop := Claim7.holds Tryd.pinned (.plain (OpenSpec.ofChange fnExactReadSlideSpec)) fnExactReadSlideCard

/-- THE TIED CARD OF 'laws.FnExactSetCursor'. -/
def fnExactSetCursorCard : Claim7 := { stood := { row := fnExactSetCursorRow, standIns := [], harness := (true, "6412f3f3d1e34560822108f4b5f9a67aee83148448e49b34d48a44f8a2f7b8ea"), looks := true }, kinds := [], alts := [], laidByText := true, laidKinds := [.data], laidTests := true, laidLooks := .later }
def FnExactSetCursorCardSaid : Prop := Claim7.holds Tryd.pinned (.plain (OpenSpec.ofChange fnExactSetCursorSpec)) fnExactSetCursorCard

/-- THE TIED CARD OF 'laws.FnExactSetSlide'. -/
def fnExactSetSlideCard : Claim7 := { stood := { row := fnExactSetSlideRow, standIns := [], harness := (true, "6412f3f3d1e34560822108f4b5f9a67aee83148448e49b34d48a44f8a2f7b8ea"), looks := true }, kinds := [], alts := [], laidByText := true, laidKinds := [.data], laidTests := true, laidLooks := .later }
def FnExactSetSlideCardSaid : Prop := Claim7.holds Tryd.pinned (.plain (OpenSpec.ofChange fnExactSetSlideSpec)) fnExactSetSlideCard

/-- THE TIED CARD OF 'laws.FnExactRuleText'. -/
def fnExactRuleTextCard : Claim7 := { stood := { row := fnExactRuleTextRow, standIns := [], harness := (true, "6412f3f3d1e34560822108f4b5f9a67aee83148448e49b34d48a44f8a2f7b8ea"), looks := true }, kinds := [], alts := [], laidByText := true, laidKinds := [.data, .data, .data, .data], laidTests := true, laidLooks := .later }
def FnExactRuleTextCardSaid : Prop := Claim7.holds Tryd.pinned (.plain (OpenSpec.ofChange fnExactRuleTextSpec)) fnExactRuleTextCard

/-- THE TIED CARD OF 'laws.FnExactReadRule'. -/
def fnExactReadRuleCard : Claim7 := { stood := { row := fnExactReadRuleRow, standIns := [], harness := (true, "6412f3f3d1e34560822108f4b5f9a67aee83148448e49b34d48a44f8a2f7b8ea"), looks := true }, kinds := [], alts := [], laidByText := true, laidKinds := [.data, .data, .data, .data, .sentinel, .sentinel, .data, .pinned], laidTests := true, laidLooks := .later }
def FnExactReadRuleCardSaid : Prop := Claim7.holds Tryd.pinned (.plain (OpenSpec.ofChange fnExactReadRuleSpec)) fnExactReadRuleCard

/-- THE SECOND FORM's CARD OF 'laws.FnExactPointOf'. -/
def fnExactPointOfUptoCard : Claim7 := { stood := { row := fnExactPointOfUptoRow, standIns := [], harness := (true, "6412f3f3d1e34560822108f4b5f9a67aee83148448e49b34d48a44f8a2f7b8ea"), looks := true }, kinds := [], alts := [], laidByText := true, laidKinds := [.data], laidTests := true, laidLooks := .later }
def FnExactPointOfUptoCardSaid : Prop := Claim7.holds Tryd.pinned (.plain (OpenSpec.upto fnExactPointOfSpec)) fnExactPointOfUptoCard

/-- THE SECOND FORM's CARD OF 'laws.FnExactReadStock'. -/
def fnExactReadStockUptoCard : Claim7 := { stood := { row := fnExactReadStockUptoRow, standIns := [], harness := (true, "6412f3f3d1e34560822108f4b5f9a67aee83148448e49b34d48a44f8a2f7b8ea"), looks := true }, kinds := [], alts := [], laidByText := true, laidKinds := [.data], laidTests := true, laidLooks := .later }
def FnExactReadStockUptoCardSaid : Prop := Claim7.holds Tryd.pinned (.plain (OpenSpec.upto fnExactReadStockSpec)) fnExactReadStockUptoCard

/-- THE SECOND FORM's CARD OF 'laws.FnExactReadSlide'. -/
def fnExactReadSlideUptoCard : Claim7 := { stood := { row := fnExactReadSlideUptoRow, standIns := [], harness := (true, "6412f3f3d1e34560822108f4b5f9a67aee83148448e49b34d48a44f8a2f7b8ea"), looks := true }, kinds := [], alts := [], laidByText := true, laidKinds := [.data], laidTests := true, laidLooks := .later }
def FnExactReadSlideUptoCardSaid : Prop := Claim7.holds Tryd.pinned (.plain (OpenSpec.upto fnExactReadSlideSpec)) fnExactReadSlideUptoCard

/-- THE SECOND FORM's CARD OF 'laws.FnExactSetCursor'. -/
def fnExactSetCursorUptoCard : Claim7 := { stood := { row := fnExactSetCursorUptoRow, standIns := [], harness := (true, "6412f3f3d1e34560822108f4b5f9a67aee83148448e49b34d48a44f8a2f7b8ea"), looks := true }, kinds := [], alts := [], laidByText := true, laidKinds := [.data], laidTests := true, laidLooks := .later }
def FnExactSetCursorUptoCardSaid : Prop := Claim7.holds Tryd.pinned (.plain (OpenSpec.upto fnExactSetCursorSpec)) fnExactSetCursorUptoCard

/-- THE SECOND FORM's CARD OF 'laws.FnExactSetSlide'. -/
def fnExactSetSlideUptoCard : Claim7 := { stood := { row := fnExactSetSlideUptoRow, standIns := [], harness := (true, "6412f3f3d1e34560822108f4b5f9a67aee83148448e49b34d48a44f8a2f7b8ea"), looks := true }, kinds := [], alts := [], laidByText := true, laidKinds := [.data], laidTests := true, laidLooks := .later }
def FnExactSetSlideUptoCardSaid : Prop := Claim7.holds Tryd.pinned (.plain (OpenSpec.upto fnExactSetSlideSpec)) fnExactSetSlideUptoCard

/-- THE SECOND FORM's CARD OF 'laws.FnExactRuleText'. -/
def fnExactRuleTextUptoCard : Claim7 := { stood := { row := fnExactRuleTextUptoRow, standIns := [], harness := (true, "6412f3f3d1e34560822108f4b5f9a67aee83148448e49b34d48a44f8a2f7b8ea"), looks := true }, kinds := [], alts := [], laidByText := true, laidKinds := [.data, .data, .data, .data], laidTests := true, laidLooks := .later }
def FnExactRuleTextUptoCardSaid : Prop := Claim7.holds Tryd.pinned (.plain (OpenSpec.upto fnExactRuleTextSpec)) fnExactRuleTextUptoCard

/-- THE SECOND FORM's CARD OF 'laws.FnExactReadRule'. -/
def fnExactReadRuleUptoCard : Claim7 := { stood := { row := fnExactReadRuleUptoRow, standIns := [], harness := (true, "6412f3f3d1e34560822108f4b5f9a67aee83148448e49b34d48a44f8a2f7b8ea"), looks := true }, kinds := [], alts := [], laidByText := true, laidKinds := [.data, .data, .data, .data, .sentinel, .sentinel, .data, .pinned], laidTests := true, laidLooks := .later }
def FnExactReadRuleUptoCardSaid : Prop := Claim7.holds Tryd.pinned (.plain (OpenSpec.upto fnExactReadRuleSpec)) fnExactReadRuleUptoCard
end Rows
end Go.Proofs.YtddcdodbmbmdnaaDoor
