/- Contracts of chapter 10: errors, their total, spreads, errors multiplied, in the program and in the model. -/
import Derived.Test.YtefhhigcplemaaaGreatDoorMB
import Derived.Test.YtefhhigcplemaaaGreatDoorC04d
import Derived.Test.YtefhhigcplemaaaGreatDoor1A
namespace Go.Proofs.YtefhhigcplemaaaGreatDoor
open Go.RowKit Go.Shelf
set_option linter.unusedVariables false
set_option linter.unusedSimpArgs false


end Go.Proofs.YtefhhigcplemaaaGreatDoor
