/- Contracts of chapter 11: SetSlide, in the program and in the model. -/
import Derived.Test.YtefhhigcplemaaaDoorC11i
import Derived.Test.YtefhhigcplemaaaDoor11B
namespace Go.Proofs.YtefhhigcplemaaaDoor
open Go.RowKit
set_option linter.unusedVariables false
set_option linter.unusedSimpArgs false

end Go.Proofs.YtefhhigcplemaaaDoor
