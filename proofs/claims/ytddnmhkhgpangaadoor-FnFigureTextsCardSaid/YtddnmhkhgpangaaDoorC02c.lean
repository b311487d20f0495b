/- Contracts of chapter 2: what the public functions return, in the program and in the model. -/
import Derived.Test.YtddnmhkhgpangaaDoorC02b
import Derived.Deep.RegionHeld3
import Derived.IntWalk
namespace Go.Proofs.YtddnmhkhgpangaaDoor
open Go.RowKit
set_option linter.unusedVariables false
set_option linter.unusedSimpArgs false

/-- Two figures: both valid, or the first or the second not. -/
theorem two_cases (a s b t : Int) : ((fg a s && fg b t) = true ∧ fg a s = true ∧ fg b t = true) ∨ ((fg a s && fg b t) = false ∧ (fg a s = false ∨ (fg a s = true ∧ fg b t = false))) := by
  cases fg a s <;> cases fg b t <;> simp

theorem result_pair (p : Int × Int) (w : World) :
    Calls Tryd.prog 46 #[.agg #[.int .i64 p.1, .int .i64 p.2]] w fun e w' => e = .returned (.tuple #[.agg #[.int .i64 (rsl p).1.1, .int .i64 (rsl p).1.2], .int .i64 (rsl p).2]) ∧ Gr w w' := result_spec p.1 p.2 w

end Go.Proofs.YtddnmhkhgpangaaDoor
