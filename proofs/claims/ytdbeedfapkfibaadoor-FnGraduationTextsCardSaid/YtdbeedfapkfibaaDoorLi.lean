/- Two lists with the same elements are alike. -/
import Derived.Test.YtdbeedfapkfibaaDoorDl
import Derived.RegionTactic
import Derived.Deep.RegionHeld3
namespace Go.Proofs.YtdbeedfapkfibaaDoor
open Go.RowKit Go.ChangeShapes Go.WideShapes Go.ChangeAt
set_option linter.unusedVariables false
set_option linter.unusedSimpArgs false

end Go.Proofs.YtdbeedfapkfibaaDoor
