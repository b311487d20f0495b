/- Draws of chapter 3: scalings. -/
import Derived.Test.YtondomnepipelaaD5
namespace Go.Proofs.Ytondomnepipelaa
open Go.RowKit
set_option linter.unusedVariables false
set_option linter.unusedSimpArgs false

/-- A drawn interval and two small numbers. -/
def ScaleN (w : World) (e : Ending) (w' : World) : Prop :=
  ∃ a s n d : Int, e = .returned (.tuple #[.agg #[.int .i64 a, .int .i64 s], .int .i64 n, .int .i64 d]) ∧ ItvN a s ∧ (-13 ≤ n ∧ n ≤ 13) ∧ (0 ≤ d ∧ d ≤ 13) ∧ Below w.heap.size w w'

end Go.Proofs.Ytondomnepipelaa
