/- Contracts of chapter 2: fractions rounded to a figure. -/
import Derived.Test.YtggflladheemoaaDoorC02a
namespace Go.Proofs.YtggflladheemoaaDoor
open Go.RowKit
set_option linter.unusedVariables false
set_option linter.unusedSimpArgs false

end Go.Proofs.YtggflladheemoaaDoor
