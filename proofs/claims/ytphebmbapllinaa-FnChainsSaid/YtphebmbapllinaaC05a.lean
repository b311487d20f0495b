/- Contracts of chapter 5: scales, lengths, codes, in the program and in the model. -/
import Derived.Test.Ytphebmbapllinaa1A
import Derived.Test.YtphebmbapllinaaMB
import Derived.Test.YtphebmbapllinaaGr
namespace Go.Proofs.Ytphebmbapllinaa
open Go.RowKit
set_option linter.unusedVariables false
set_option linter.unusedSimpArgs false

theorem ret_bi {a b : Bool} {c d : Int} (h : a = b) (h' : c = d) : Ending.returned (.tuple #[.bool a, .int .i64 c]) = .returned (.tuple #[.bool b, .int .i64 d]) := by rw [h, h']

end Go.Proofs.Ytphebmbapllinaa
