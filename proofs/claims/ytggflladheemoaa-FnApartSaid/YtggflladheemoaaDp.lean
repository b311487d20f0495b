/- Lists of parts with room to spare, that a law marks and holds. -/
import Derived.Test.YtggflladheemoaaLX
import Derived.Test.YtggflladheemoaaC07a
namespace Go.Proofs.Ytggflladheemoaa
open Go.RowKit
set_option linter.unusedVariables false
set_option linter.unusedSimpArgs false

end Go.Proofs.Ytggflladheemoaa
