/-
  DERIVED. GIVEN WITH THE SEED: THE CARDS: each row of YtdbeedfapkfibaaGreatDoorRows.lean that lists a variable, with what it lists TIED to the program's text (the seventh form; the later family's looks); each row that meets fmt, with fmt's text TOLD by the authors' own Lean function (tested against real Go, not proved from fmt's source: count such statements apart). THE CARD IS WHAT COUNTS. Prove the row's statement (the work); the ties are given (YtdbeedfapkfibaaGreatDoorTie.lean); close each card by the builder's one call (the guide's Derived/Test/ToyasCard.lean, 'card_holds'). Laid BY PROGRAM, IN A SANDBOX (cutbox-door.mjs). By AI agents, Wed Nov 11 2026. No macro, syntax, notation, axiom, sorry.
-/
import Derived.Test.YtdbeedfapkfibaaGreatDoorRows
import GoSem.ClaimSeven
namespace Go.Proofs.YtdbeedfapkfibaaGreatDoor
namespace Rows

/-- THE TIED CARD OF 'laws.FnReadingBounds'. -/
def fnReadingBoundsCard : Claim7 := { stood := { row := fnReadingBoundsRow, standIns := [], harness := (true, "07f0ba867bd9454c6deac09d19ef62531d7c2e4132ebf1c1f776fa6e172017c1"), looks := false }, kinds := [], alts := [], laidByText := true, laidKinds := [.data], laidTests := true, laidLooks := .later }
def FnReadingBoundsCardSaid : Prop := Claim7.holds Tryz.pinned (.plain (OpenSpec.ofChange fnReadingBoundsSpec)) fnReadingBoundsCard

/-- THE SECOND FORM's CARD OF 'laws.FnReadingBounds'. -/
def fnReadingBoundsUptoCard : Claim7 := { stood := { row := fnReadingBoundsUptoRow, standIns := [], harness := (true, "07f0ba867bd9454c6deac09d19ef62531d7c2e4132ebf1c1f776fa6e172017c1"), looks := false }, kinds := [], alts := [], laidByText := true, laidKinds := [.data], laidTests := true, laidLooks := .later }
def FnReadingBoundsUptoCardSaid : Prop := Claim7.holds Tryz.pinned (.plain (OpenSpec.upto fnReadingBoundsSpec)) fnReadingBoundsUptoCard
end Rows
end Go.Proofs.YtdbeedfapkfibaaGreatDoor
