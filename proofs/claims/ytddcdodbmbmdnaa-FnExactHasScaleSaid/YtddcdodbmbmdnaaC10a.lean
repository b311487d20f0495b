/- Contracts of chapter 10: errors, their total, spreads, errors multiplied, in the program and in the model. -/
import Derived.Test.YtddcdodbmbmdnaaMB
import Derived.Test.YtddcdodbmbmdnaaC04d
import Derived.Test.Ytddcdodbmbmdnaa1A
namespace Go.Proofs.Ytddcdodbmbmdnaa
open Go.RowKit Go.Shelf
set_option linter.unusedVariables false
set_option linter.unusedSimpArgs false


end Go.Proofs.Ytddcdodbmbmdnaa
