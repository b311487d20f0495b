/- Contracts of chapter 10: errors, their total, spreads, errors multiplied, in the program and in the model. -/
import Derived.Test.YtddcdodbmbmdnaaDoorMB
import Derived.Test.YtddcdodbmbmdnaaDoorC04d
import Derived.Test.YtddcdodbmbmdnaaDoor1A
namespace Go.Proofs.YtddcdodbmbmdnaaDoor
open Go.RowKit Go.Shelf
set_option linter.unusedVariables false
set_option linter.unusedSimpArgs false


end Go.Proofs.YtddcdodbmbmdnaaDoor
