/- Contracts of chapter 1: powers of ten and divisors. -/
import Derived.Test.YtjfcgkfgpemheaaDoorC01a
namespace Go.Proofs.YtjfcgkfgpemheaaDoor
open Go.RowKit
set_option linter.unusedVariables false
set_option linter.unusedSimpArgs false

end Go.Proofs.YtjfcgkfgpemheaaDoor
