/- Contracts of chapter 1: powers of ten and divisors. -/
import Derived.Test.YthigoankiobcmaaC01a
namespace Go.Proofs.Ythigoankiobcmaa
open Go.RowKit
set_option linter.unusedVariables false
set_option linter.unusedSimpArgs false

end Go.Proofs.Ythigoankiobcmaa
