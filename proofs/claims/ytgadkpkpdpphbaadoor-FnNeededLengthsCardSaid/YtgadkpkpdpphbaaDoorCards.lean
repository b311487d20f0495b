/-
  DERIVED. GIVEN WITH THE SEED: THE CARDS: each row of YtgadkpkpdpphbaaDoorRows.lean that lists a variable, with what it lists TIED to the program's text (the seventh form; the later family's looks); each row that meets fmt, with fmt's text TOLD by the authors' own Lean function (tested against real Go, not proved from fmt's source: count such statements apart). THE CARD IS WHAT COUNTS. Prove the row's statement (the work); the ties are given (YtgadkpkpdpphbaaDoorTie.lean); close each card by the builder's one call (the guide's Derived/Test/ToyasCard.lean, 'card_holds'). Laid BY PROGRAM, IN A SANDBOX (cutbox-door.mjs). By AI agents, Wed Nov 11 2026. No macro, syntax, notation, axiom, sorry.
-/
import Derived.Test.YtgadkpkpdpphbaaDoorRows
import GoSem.ClaimSeven
namespace Go.Proofs.YtgadkpkpdpphbaaDoor
namespace Rows

/-- THE TIED CARD OF 'laws.FnReadings'. -/
def fnReadingsCard : Claim7 := { stood := { row := fnReadingsRow, standIns := [], harness := (true, "372a71fd09bd6c378e9318919ff4f58f3523b9bf1ef18df0348537dae0b309c6"), looks := false }, kinds := [], alts := [], laidByText := true, laidKinds := [.data], laidTests := true, laidLooks := .later }
def FnReadingsCardSaid : Prop := Claim7.holds Tryd.pinned (.plain (OpenSpec.ofChange fnReadingsSpec)) fnReadingsCard

/-- THE TIED CARD OF 'laws.FnNeededLengths'. -/
def fnNeededLengthsCard : Claim7 := { stood := { row := fnNeededLengthsRow, standIns := [], harness := (true, "372a71fd09bd6c378e9318919ff4f58f3523b9bf1ef18df0348537dae0b309c6"), looks := false }, kinds := [], alts := [], laidByText := true, laidKinds := [.data], laidTests := true, laidLooks := .later }
def FnNeededLengthsCardSaid : Prop := Claim7.holds Tryd.pinned (.plain (OpenSpec.ofChange fnNeededLengthsSpec)) fnNeededLengthsCard

/-- THE TIED CARD OF 'laws.FnExactMayBeAt'. -/
def fnExactMayBeAtCard : Claim7 := { stood := { row := fnExactMayBeAtRow, standIns := [], harness := (true, "372a71fd09bd6c378e9318919ff4f58f3523b9bf1ef18df0348537dae0b309c6"), looks := false }, kinds := [], alts := [], laidByText := true, laidKinds := [.data], laidTests := true, laidLooks := .later }
def FnExactMayBeAtCardSaid : Prop := Claim7.holds Tryd.pinned (.plain (OpenSpec.ofChange fnExactMayBeAtSpec)) fnExactMayBeAtCard

/-- THE TIED CARD OF 'laws.FnExactFirstReading'. -/
def fnExactFirstReadingCard : Claim7 := { stood := { row := fnExactFirstReadingRow, standIns := [], harness := (true, "372a71fd09bd6c378e9318919ff4f58f3523b9bf1ef18df0348537dae0b309c6"), looks := false }, kinds := [], alts := [], laidByText := true, laidKinds := [.data], laidTests := true, laidLooks := .later }
def FnExactFirstReadingCardSaid : Prop := Claim7.holds Tryd.pinned (.plain (OpenSpec.ofChange fnExactFirstReadingSpec)) fnExactFirstReadingCard

/-- THE TIED CARD OF 'laws.FnExactLastReading'. -/
def fnExactLastReadingCard : Claim7 := { stood := { row := fnExactLastReadingRow, standIns := [], harness := (true, "372a71fd09bd6c378e9318919ff4f58f3523b9bf1ef18df0348537dae0b309c6"), looks := false }, kinds := [], alts := [], laidByText := true, laidKinds := [.data], laidTests := true, laidLooks := .later }
def FnExactLastReadingCardSaid : Prop := Claim7.holds Tryd.pinned (.plain (OpenSpec.ofChange fnExactLastReadingSpec)) fnExactLastReadingCard

/-- THE TIED CARD OF 'laws.FnExactCountReadings'. -/
def fnExactCountReadingsCard : Claim7 := { stood := { row := fnExactCountReadingsRow, standIns := [], harness := (true, "372a71fd09bd6c378e9318919ff4f58f3523b9bf1ef18df0348537dae0b309c6"), looks := false }, kinds := [], alts := [], laidByText := true, laidKinds := [.data], laidTests := true, laidLooks := .later }
def FnExactCountReadingsCardSaid : Prop := Claim7.holds Tryd.pinned (.plain (OpenSpec.ofChange fnExactCountReadingsSpec)) fnExactCountReadingsCard

/-- THE TIED CARD OF 'laws.FnExactBestReading'. -/
def fnExactBestReadingCard : Claim7 := { stood := { row := fnExactBestReadingRow, standIns := [], harness := (true, "372a71fd09bd6c378e9318919ff4f58f3523b9bf1ef18df0348537dae0b309c6"), looks := false }, kinds := [], alts := [], laidByText := true, laidKinds := [.data], laidTests := true, laidLooks := .later }
def FnExactBestReadingCardSaid : Prop := Claim7.holds Tryd.pinned (.plain (OpenSpec.ofChange fnExactBestReadingSpec)) fnExactBestReadingCard

/-- THE TIED CARD OF 'laws.FnExactReadError'. -/
def fnExactReadErrorCard : Claim7 := { stood := { row := fnExactReadErrorRow, standIns := [], harness := (true, "372a71fd09bd6c378e9318919ff4f58f3523b9bf1ef18df0348537dae0b309c6"), looks := false }, kinds := [], alts := [], laidByText := true, laidKinds := [.data], laidTests := true, laidLooks := .later }
def FnExactReadErrorCardSaid : Prop := Claim7.holds Tryd.pinned (.plain (OpenSpec.ofChange fnExactReadErrorSpec)) fnExactReadErrorCard

/-- THE TIED CARD OF 'laws.FnExactNeededLength'. -/
def fnExactNeededLengthCard : Claim7 := { stood := { row := fnExactNeededLengthRow, standIns := [], harness := (true, "372a71fd09bd6c378e9318919ff4f58f3523b9bf1ef18df0348537dae0b309c6"), looks := false }, kinds := [], alts := [], laidByText := true, laidKinds := [.data], laidTests := true, laidLooks := .later }
def FnExactNeededLengthCardSaid : Prop := Claim7.holds Tryd.pinned (.plain (OpenSpec.ofChange fnExactNeededLengthSpec)) fnExactNeededLengthCard

/-- THE SECOND FORM's CARD OF 'laws.FnReadings'. -/
def fnReadingsUptoCard : Claim7 := { stood := { row := fnReadingsUptoRow, standIns := [], harness := (true, "372a71fd09bd6c378e9318919ff4f58f3523b9bf1ef18df0348537dae0b309c6"), looks := false }, kinds := [], alts := [], laidByText := true, laidKinds := [.data], laidTests := true, laidLooks := .later }
def FnReadingsUptoCardSaid : Prop := Claim7.holds Tryd.pinned (.plain (OpenSpec.upto fnReadingsSpec)) fnReadingsUptoCard

/-- THE SECOND FORM's CARD OF 'laws.FnNeededLengths'. -/
def fnNeededLengthsUptoCard : Claim7 := { stood := { row := fnNeededLengthsUptoRow, standIns := [], harness := (true, "372a71fd09bd6c378e9318919ff4f58f3523b9bf1ef18df0348537dae0b309c6"), looks := false }, kinds := [], alts := [], laidByText := true, laidKinds := [.data], laidTests := true, laidLooks := .later }
def FnNeededLengthsUptoCardSaid : Prop := Claim7.holds Tryd.pinned (.plain (OpenSpec.upto fnNeededLengthsSpec)) fnNeededLengthsUptoCard

/-- THE SECOND FORM's CARD OF 'laws.FnExactMayBeAt'. -/
def fnExactMayBeAtUptoCard : Claim7 := { stood := { row := fnExactMayBeAtUptoRow, standIns := [], harness := (true, "372a71fd09bd6c378e9318919ff4f58f3523b9bf1ef18df0348537dae0b309c6"), looks := false }, kinds := [], alts := [], laidByText := true, laidKinds := [.data], laidTests := true, laidLooks := .later }
def FnExactMayBeAtUptoCardSaid : Prop := Claim7.holds Tryd.pinned (.plain (OpenSpec.upto fnExactMayBeAtSpec)) fnExactMayBeAtUptoCard

/-- THE SECOND FORM's CARD OF 'laws.FnExactFirstReading'. -/
def fnExactFirstReadingUptoCard : Claim7 := { stood := { row := fnExactFirstReadingUptoRow, standIns := [], harness := (true, "372a71fd09bd6c378e9318919ff4f58f3523b9bf1ef18df0348537dae0b309c6"), looks := false }, kinds := [], alts := [], laidByText := true, laidKinds := [.data], laidTests := true, laidLooks := .later }
def FnExactFirstReadingUptoCardSaid : Prop := Claim7.holds Tryd.pinned (.plain (OpenSpec.upto fnExactFirstReadingSpec)) fnExactFirstReadingUptoCard

/-- THE SECOND FORM's CARD OF 'laws.FnExactLastReading'. -/
def fnExactLastReadingUptoCard : Claim7 := { stood := { row := fnExactLastReadingUptoRow, standIns := [], harness := (true, "372a71fd09bd6c378e9318919ff4f58f3523b9bf1ef18df0348537dae0b309c6"), looks := false }, kinds := [], alts := [], laidByText := true, laidKinds := [.data], laidTests := true, laidLooks := .later }
def FnExactLastReadingUptoCardSaid : Prop := Claim7.holds Tryd.pinned (.plain (OpenSpec.upto fnExactLastReadingSpec)) fnExactLastReadingUptoCard

/-- THE SECOND FORM's CARD OF 'laws.FnExactCountReadings'. -/
def fnExactCountReadingsUptoCard : Claim7 := { stood := { row := fnExactCountReadingsUptoRow, standIns := [], harness := (true, "372a71fd09bd6c378e9318919ff4f58f3523b9bf1ef18df0348537dae0b309c6"), looks := false }, kinds := [], alts := [], laidByText := true, laidKinds := [.data], laidTests := true, laidLooks := .later }
def FnExactCountReadingsUptoCardSaid : Prop := Claim7.holds Tryd.pinned (.plain (OpenSpec.upto fnExactCountReadingsSpec)) fnExactCountReadingsUptoCard

/-- THE SECOND FORM's CARD OF 'laws.FnExactBestReading'. -/
def fnExactBestReadingUptoCard : Claim7 := { stood := { row := fnExactBestReadingUptoRow, standIns := [], harness := (true, "372a71fd09bd6c378e9318919ff4f58f3523b9bf1ef18df0348537dae0b309c6"), looks := false }, kinds := [], alts := [], laidByText := true, laidKinds := [.data], laidTests := true, laidLooks := .later }
def FnExactBestReadingUptoCardSaid : Prop := Claim7.holds Tryd.pinned (.plain (OpenSpec.upto fnExactBestReadingSpec)) fnExactBestReadingUptoCard

/-- THE SECOND FORM's CARD OF 'laws.FnExactReadError'. -/
def fnExactReadErrorUptoCard : Claim7 := { stood := { row := fnExactReadErrorUptoRow, standIns := [], harness := (true, "372a71fd09bd6c378e9318919ff4f58f3523b9bf1ef18df0348537dae0b309c6"), looks := false }, kinds := [], alts := [], laidByText := true, laidKinds := [.data], laidTests := true, laidLooks := .later }
def FnExactReadErrorUptoCardSaid : Prop := Claim7.holds Tryd.pinned (.plain (OpenSpec.upto fnExactReadErrorSpec)) fnExactReadErrorUptoCard

/-- THE SECOND FORM's CARD OF 'laws.FnExactNeededLength'. -/
def fnExactNeededLengthUptoCard : Claim7 := { stood := { row := fnExactNeededLengthUptoRow, standIns := [], harness := (true, "372a71fd09bd6c378e9318919ff4f58f3523b9bf1ef18df0348537dae0b309c6"), looks := false }, kinds := [], alts := [], laidByText := true, laidKinds := [.data], laidTests := true, laidLooks := .later }
def FnExactNeededLengthUptoCardSaid : Prop := Claim7.holds Tryd.pinned (.plain (OpenSpec.upto fnExactNeededLengthSpec)) fnExactNeededLengthUptoCard
end Rows
end Go.Proofs.YtgadkpkpdpphbaaDoor
