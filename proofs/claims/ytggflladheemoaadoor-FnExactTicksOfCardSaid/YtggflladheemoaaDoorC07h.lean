/- Contracts of chapter 7: the program's nearest mark. -/
import Derived.Test.YtggflladheemoaaDoorC07g
import Derived.Test.YtggflladheemoaaDoorRq
namespace Go.Proofs.YtggflladheemoaaDoor
open Go.RowKit Go.Shelf
set_option linter.unusedVariables false
set_option linter.unusedSimpArgs false
attribute [local go_sem] Oper.semAt_some

end Go.Proofs.YtggflladheemoaaDoor
