/- Contracts of chapter 2: fractions rounded to a figure. -/
import Derived.Test.YtggflladheemoaaC02a
namespace Go.Proofs.Ytggflladheemoaa
open Go.RowKit
set_option linter.unusedVariables false
set_option linter.unusedSimpArgs false

end Go.Proofs.Ytggflladheemoaa
