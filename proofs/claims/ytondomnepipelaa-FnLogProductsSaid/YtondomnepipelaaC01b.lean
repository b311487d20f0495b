/- Contracts of chapter 1: powers of ten and divisors. -/
import Derived.Test.YtondomnepipelaaC01a
namespace Go.Proofs.Ytondomnepipelaa
open Go.RowKit
set_option linter.unusedVariables false
set_option linter.unusedSimpArgs false

end Go.Proofs.Ytondomnepipelaa
