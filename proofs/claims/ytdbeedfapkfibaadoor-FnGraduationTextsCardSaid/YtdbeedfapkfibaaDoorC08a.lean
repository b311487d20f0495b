/- Contracts of chapter 8: ticks in the laws (copied, compared, written over). -/
import Derived.Test.YtdbeedfapkfibaaDoorC07a0
import Derived.Test.YtdbeedfapkfibaaDoorD1
import Derived.Test.YtdbeedfapkfibaaDoorMC
namespace Go.Proofs.YtdbeedfapkfibaaDoor
open Go.RowKit
set_option linter.unusedVariables false
set_option linter.unusedSimpArgs false

end Go.Proofs.YtdbeedfapkfibaaDoor
