/- Contracts of chapter 10: errors, their total, spreads, errors multiplied, in the program and in the model. -/
import Derived.Test.YtefhhigcplemaaaDoorMB
import Derived.Test.YtefhhigcplemaaaDoorC04d
import Derived.Test.YtefhhigcplemaaaDoor1A
namespace Go.Proofs.YtefhhigcplemaaaDoor
open Go.RowKit Go.Shelf
set_option linter.unusedVariables false
set_option linter.unusedSimpArgs false


end Go.Proofs.YtefhhigcplemaaaDoor
