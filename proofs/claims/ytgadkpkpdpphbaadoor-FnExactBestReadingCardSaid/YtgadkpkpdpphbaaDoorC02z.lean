/- A figure is equal to itself. -/
import Derived.Test.YtgadkpkpdpphbaaDoorC02a
namespace Go.Proofs.YtgadkpkpdpphbaaDoor
open Go.RowKit
theorem eqFigure_same (a s : Int) (w : World) :
    Calls Tryd.prog 33 #[.agg #[.int .i64 a, .int .i64 s], .agg #[.int .i64 a, .int .i64 s]] w fun e w' => e = .returned (.bool true) ∧ Gr w w' :=
  (eqFigure_any a s a s w).mono fun e w' ⟨he, h⟩ => ⟨by rw [he]; exact ret_bool (by simp), h⟩
end Go.Proofs.YtgadkpkpdpphbaaDoor
