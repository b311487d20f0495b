/-
  DERIVED. GIVEN WITH THE SEED: THE CARDS: each row of YtgadkpkpdpphbaaGreatDoorRows.lean that lists a variable, with what it lists TIED to the program's text (the seventh form; the later family's looks); each row that meets fmt, with fmt's text TOLD by the authors' own Lean function (tested against real Go, not proved from fmt's source: count such statements apart). THE CARD IS WHAT COUNTS. Prove the row's statement (the work); the ties are given (YtgadkpkpdpphbaaGreatDoorTie.lean); close each card by the builder's one call (the guide's Derived/Test/ToyasCard.lean, 'card_holds'). Laid BY PROGRAM, IN A SANDBOX (cutbox-door.mjs). By AI agents, Wed Nov 11 2026. No macro, syntax, notation, axiom, sorry.
-/
import Derived.Test.YtgadkpkpdpphbaaGreatDoorRows
import GoSem.ClaimSeven
namespace Go.Proofs.YtgadkpkpdpphbaaGreatDoor
namespace Rows

/-- THE TIED CARD OF 'laws.FnBestReadings'. -/
def fnBestReadingsCard : Claim7 := { stood := { row := fnBestReadingsRow, standIns := [], harness := (true, "e88e9dc279810659db3f90560935e9bfb643cb474f2490bae68d466e5c3008c9"), looks := false }, kinds := [], alts := [], laidByText := true, laidKinds := [.data], laidTests := true, laidLooks := .later }
def FnBestReadingsCardSaid : Prop := Claim7.holds Tryz.pinned (.plain (OpenSpec.ofChange fnBestReadingsSpec)) fnBestReadingsCard

/-- THE SECOND FORM's CARD OF 'laws.FnBestReadings'. -/
def fnBestReadingsUptoCard : Claim7 := { stood := { row := fnBestReadingsUptoRow, standIns := [], harness := (true, "e88e9dc279810659db3f90560935e9bfb643cb474f2490bae68d466e5c3008c9"), looks := false }, kinds := [], alts := [], laidByText := true, laidKinds := [.data], laidTests := true, laidLooks := .later }
def FnBestReadingsUptoCardSaid : Prop := Claim7.holds Tryz.pinned (.plain (OpenSpec.upto fnBestReadingsSpec)) fnBestReadingsUptoCard
end Rows
end Go.Proofs.YtgadkpkpdpphbaaGreatDoor
