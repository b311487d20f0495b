/- Contracts of chapter 8: the program's nearest tick. -/
import Derived.Test.YtggflladheemoaaDoorC08b
import Derived.BigQuiet
namespace Go.Proofs.YtggflladheemoaaDoor
open Go.RowKit
set_option linter.unusedVariables false
set_option linter.unusedSimpArgs false

theorem allv_one (p : Int) : allv [p] = vl p := by unfold allv; simp
theorem allv_two (p q : Int) : allv [p, q] = (vl p && vl q) := by unfold allv; simp
theorem Row.one (w : World) (t : TypeId) (x : Value) : Row (w.alloc (.cells #[x] t)) w.heap.size t [x] := Row.new w t [x]

end Go.Proofs.YtggflladheemoaaDoor
