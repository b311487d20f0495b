/-
  DERIVED. GIVEN WITH THE SEED: THE CARDS: each row of YtlimfpdibohioabDoorRows.lean that lists a variable, with what it lists TIED to the program's text (the seventh form; the later family's looks); each row that meets fmt, with fmt's text TOLD by the authors' own Lean function (tested against real Go, not proved from fmt's source: count such statements apart). THE CARD IS WHAT COUNTS. Prove the row's statement (the work); the ties are given (YtlimfpdibohioabDoorTie.lean); close each card by the builder's one call (the guide's Derived/Test/ToyasCard.lean, 'card_holds'). Laid BY PROGRAM, IN A SANDBOX (cutbox-door.mjs). By AI agents, Wed Nov 11 2026. No macro, syntax, notation, axiom, sorry.
-/
import Derived.Test.YtlimfpdibohioabDoorRows
import GoSem.ClaimSeven
namespace Go.Proofs.YtlimfpdibohioabDoor
namespace Rows

/-- THE TIED CARD OF 'laws.FnExactDoCollide'. -/
def fnExactDoCollideCard : Claim7 := { stood := { row := fnExactDoCollideRow, standIns := [], harness := (true, "dfea9173e0e783678087d93edb6cc6e4f4949ff7e582c91125670782dd5a4550"), looks := false }, kinds := [], alts := [], laidByText := true, laidKinds := [.data, .data, .data, .data, .pinned], laidTests := true, laidLooks := .later }
def FnExactDoCollideCardSaid : Prop := Claim7.holds Tryd.pinned (.plain (OpenSpec.ofChange fnExactDoCollideSpec)) fnExactDoCollideCard

/-- THE TIED CARD OF 'laws.FnExactIsChoice'. -/
def fnExactIsChoiceCard : Claim7 := { stood := { row := fnExactIsChoiceRow, standIns := [], harness := (true, "dfea9173e0e783678087d93edb6cc6e4f4949ff7e582c91125670782dd5a4550"), looks := false }, kinds := [], alts := [], laidByText := true, laidKinds := [.data, .data, .data, .data, .pinned], laidTests := true, laidLooks := .later }
def FnExactIsChoiceCardSaid : Prop := Claim7.holds Tryd.pinned (.plain (OpenSpec.ofChange fnExactIsChoiceSpec)) fnExactIsChoiceCard

/-- THE TIED CARD OF 'laws.FnExactWorthOf'. -/
def fnExactWorthOfCard : Claim7 := { stood := { row := fnExactWorthOfRow, standIns := [], harness := (true, "dfea9173e0e783678087d93edb6cc6e4f4949ff7e582c91125670782dd5a4550"), looks := false }, kinds := [], alts := [], laidByText := true, laidKinds := [.data, .data, .data, .data, .pinned], laidTests := true, laidLooks := .later }
def FnExactWorthOfCardSaid : Prop := Claim7.holds Tryd.pinned (.plain (OpenSpec.ofChange fnExactWorthOfSpec)) fnExactWorthOfCard

/-- THE TIED CARD OF 'laws.FnExactBestChoice'. -/
def fnExactBestChoiceCard : Claim7 := { stood := { row := fnExactBestChoiceRow, standIns := [], harness := (true, "dfea9173e0e783678087d93edb6cc6e4f4949ff7e582c91125670782dd5a4550"), looks := false }, kinds := [], alts := [], laidByText := true, laidKinds := [.data, .data, .data, .data, .pinned], laidTests := true, laidLooks := .later }
def FnExactBestChoiceCardSaid : Prop := Claim7.holds Tryd.pinned (.plain (OpenSpec.ofChange fnExactBestChoiceSpec)) fnExactBestChoiceCard

/-- THE TIED CARD OF 'laws.FnExactLabelProof'. -/
def fnExactLabelProofCard : Claim7 := { stood := { row := fnExactLabelProofRow, standIns := [], harness := (true, "dfea9173e0e783678087d93edb6cc6e4f4949ff7e582c91125670782dd5a4550"), looks := false }, kinds := [], alts := [], laidByText := true, laidKinds := [.data, .data, .data, .data, .pinned], laidTests := true, laidLooks := .later }
def FnExactLabelProofCardSaid : Prop := Claim7.holds Tryd.pinned (.plain (OpenSpec.ofChange fnExactLabelProofSpec)) fnExactLabelProofCard

/-- THE TIED CARD OF 'laws.FnExactIsProof'. -/
def fnExactIsProofCard : Claim7 := { stood := { row := fnExactIsProofRow, standIns := [], harness := (true, "dfea9173e0e783678087d93edb6cc6e4f4949ff7e582c91125670782dd5a4550"), looks := false }, kinds := [], alts := [], laidByText := true, laidKinds := [.data, .data, .data, .data, .pinned], laidTests := true, laidLooks := .later }
def FnExactIsProofCardSaid : Prop := Claim7.holds Tryd.pinned (.plain (OpenSpec.ofChange fnExactIsProofSpec)) fnExactIsProofCard

/-- THE TIED CARD OF 'laws.FnExactGreedyChoice'. -/
def fnExactGreedyChoiceCard : Claim7 := { stood := { row := fnExactGreedyChoiceRow, standIns := [], harness := (true, "dfea9173e0e783678087d93edb6cc6e4f4949ff7e582c91125670782dd5a4550"), looks := false }, kinds := [], alts := [], laidByText := true, laidKinds := [.data, .data, .data, .data, .pinned], laidTests := true, laidLooks := .later }
def FnExactGreedyChoiceCardSaid : Prop := Claim7.holds Tryd.pinned (.plain (OpenSpec.ofChange fnExactGreedyChoiceSpec)) fnExactGreedyChoiceCard

/-- THE SECOND FORM's CARD OF 'laws.FnExactDoCollide'. -/
def fnExactDoCollideUptoCard : Claim7 := { stood := { row := fnExactDoCollideUptoRow, standIns := [], harness := (true, "dfea9173e0e783678087d93edb6cc6e4f4949ff7e582c91125670782dd5a4550"), looks := false }, kinds := [], alts := [], laidByText := true, laidKinds := [.data, .data, .data, .data, .pinned], laidTests := true, laidLooks := .later }
def FnExactDoCollideUptoCardSaid : Prop := Claim7.holds Tryd.pinned (.plain (OpenSpec.upto fnExactDoCollideSpec)) fnExactDoCollideUptoCard

/-- THE SECOND FORM's CARD OF 'laws.FnExactIsChoice'. -/
def fnExactIsChoiceUptoCard : Claim7 := { stood := { row := fnExactIsChoiceUptoRow, standIns := [], harness := (true, "dfea9173e0e783678087d93edb6cc6e4f4949ff7e582c91125670782dd5a4550"), looks := false }, kinds := [], alts := [], laidByText := true, laidKinds := [.data, .data, .data, .data, .pinned], laidTests := true, laidLooks := .later }
def FnExactIsChoiceUptoCardSaid : Prop := Claim7.holds Tryd.pinned (.plain (OpenSpec.upto fnExactIsChoiceSpec)) fnExactIsChoiceUptoCard

/-- THE SECOND FORM's CARD OF 'laws.FnExactWorthOf'. -/
def fnExactWorthOfUptoCard : Claim7 := { stood := { row := fnExactWorthOfUptoRow, standIns := [], harness := (true, "dfea9173e0e783678087d93edb6cc6e4f4949ff7e582c91125670782dd5a4550"), looks := false }, kinds := [], alts := [], laidByText := true, laidKinds := [.data, .data, .data, .data, .pinned], laidTests := true, laidLooks := .later }
def FnExactWorthOfUptoCardSaid : Prop := Claim7.holds Tryd.pinned (.plain (OpenSpec.upto fnExactWorthOfSpec)) fnExactWorthOfUptoCard

/-- THE SECOND FORM's CARD OF 'laws.FnExactBestChoice'. -/
def fnExactBestChoiceUptoCard : Claim7 := { stood := { row := fnExactBestChoiceUptoRow, standIns := [], harness := (true, "dfea9173e0e783678087d93edb6cc6e4f4949ff7e582c91125670782dd5a4550"), looks := false }, kinds := [], alts := [], laidByText := true, laidKinds := [.data, .data, .data, .data, .pinned], laidTests := true, laidLooks := .later }
def FnExactBestChoiceUptoCardSaid : Prop := Claim7.holds Tryd.pinned (.plain (OpenSpec.upto fnExactBestChoiceSpec)) fnExactBestChoiceUptoCard

/-- THE SECOND FORM's CARD OF 'laws.FnExactLabelProof'. -/
def fnExactLabelProofUptoCard : Claim7 := { stood := { row := fnExactLabelProofUptoRow, standIns := [], harness := (true, "dfea9173e0e783678087d93edb6cc6e4f4949ff7e582c91125670782dd5a4550"), looks := false }, kinds := [], alts := [], laidByText := true, laidKinds := [.data, .data, .data, .data, .pinned], laidTests := true, laidLooks := .later }
def FnExactLabelProofUptoCardSaid : Prop := Claim7.holds Tryd.pinned (.plain (OpenSpec.upto fnExactLabelProofSpec)) fnExactLabelProofUptoCard

/-- THE SECOND FORM's CARD OF 'laws.FnExactIsProof'. -/
def fnExactIsProofUptoCard : Claim7 := { stood := { row := fnExactIsProofUptoRow, standIns := [], harness := (true, "dfea9173e0e783678087d93edb6cc6e4f4949ff7e582c91125670782dd5a4550"), looks := false }, kinds := [], alts := [], laidByText := true, laidKinds := [.data, .data, .data, .data, .pinned], laidTests := true, laidLooks := .later }
def FnExactIsProofUptoCardSaid : Prop := Claim7.holds Tryd.pinned (.plain (OpenSpec.upto fnExactIsProofSpec)) fnExactIsProofUptoCard

/-- THE SECOND FORM's CARD OF 'laws.FnExactGreedyChoice'. -/
def fnExactGreedyChoiceUptoCard : Claim7 := { stood := { row := fnExactGreedyChoiceUptoRow, standIns := [], harness := (true, "dfea9173e0e783678087d93edb6cc6e4f4949ff7e582c91125670782dd5a4550"), looks := false }, kinds := [], alts := [], laidByText := true, laidKinds := [.data, .data, .data, .data, .pinned], laidTests := true, laidLooks := .later }
def FnExactGreedyChoiceUptoCardSaid : Prop := Claim7.holds Tryd.pinned (.plain (OpenSpec.upto fnExactGreedyChoiceSpec)) fnExactGreedyChoiceUptoCard
end Rows
end Go.Proofs.YtlimfpdibohioabDoor
