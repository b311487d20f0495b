/- Contracts of chapter 8: ticks in the laws (copied, compared, written over). -/
import Derived.Test.Ytphebmbapllinaa7C
import Derived.Test.YtphebmbapllinaaD1
import Derived.Test.YtphebmbapllinaaMC
namespace Go.Proofs.Ytphebmbapllinaa
open Go.RowKit
set_option linter.unusedVariables false
set_option linter.unusedSimpArgs false

end Go.Proofs.Ytphebmbapllinaa
