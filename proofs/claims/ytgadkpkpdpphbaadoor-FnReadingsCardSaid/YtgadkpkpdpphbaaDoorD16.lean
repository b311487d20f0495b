/- Draws of chapter 6: what its laws draw. -/
import Derived.Test.YtgadkpkpdpphbaaDoorD15
import Derived.Test.YtgadkpkpdpphbaaDoorFd
namespace Go.Proofs.YtgadkpkpdpphbaaDoor
open Go.RowKit
set_option linter.unusedVariables false
set_option linter.unusedSimpArgs false
attribute [local go_sem high] run_imin run_imax

def BstR (w : World) (e : Ending) (w' : World) : Prop := ∃ s l p : Int, e = .returned (.tuple #[.int .i64 s, .int .i64 l, .int .i64 p]) ∧ ScaN s ∧ LenN l ∧ PtN p ∧ Below w.heap.size w w'
/-- A drawn scale, figure, length, point, eye. -/
def MbN (w : World) (e : Ending) (w' : World) : Prop := ∃ s a t l p k : Int, e = .returned (.tuple #[.int .i64 s, .agg #[.int .i64 a, .int .i64 t], .int .i64 l, .int .i64 p, .int .i64 k]) ∧ ScaN s ∧ FigN a t ∧ LenN l ∧ PtN p ∧ EyeN k ∧ Below w.heap.size w w'

end Go.Proofs.YtgadkpkpdpphbaaDoor
