/- Plain mathematics, merged. -/
import Derived.Test.YtggflladheemoaaDoor1A
import Derived.Test.YtggflladheemoaaDoorMA
import Derived.Test.YtggflladheemoaaDoorGr
import Derived.Deep.RegionHeld3
import Derived.IntWalk
/- Contracts of chapter 2: figures, in the program, in the model and in the law. -/
namespace Go.Proofs.YtggflladheemoaaDoor
open Go.RowKit
set_option linter.unusedVariables false
set_option linter.unusedSimpArgs false

/-- A figure and a code, as a result. -/
theorem ret_fig {a b c d e f : Int} (h : a = b) (h1 : c = d) (h2 : e = f) : Ending.returned (.tuple #[.agg #[.int .i64 a, .int .i64 c], .int .i64 e]) = .returned (.tuple #[.agg #[.int .i64 b, .int .i64 d], .int .i64 f]) := by rw [h, h1, h2]
theorem ret_agg {a b c d : Int} (h : a = b) (h1 : c = d) : Ending.returned (.agg #[.int .i64 a, .int .i64 c]) = .returned (.agg #[.int .i64 b, .int .i64 d]) := by rw [h, h1]

theorem isFigure_impl (d t : Int) (w : World) :
    Calls Tryd.prog 210 #[.agg #[.int .i64 d, .int .i64 t]] w fun e w' => e = .returned (.bool (fg d t)) ∧ Gr w w' := by
  have hc : d < 1000 ∨ (1000 ≤ d ∧ 9999 < d) ∨ (1000 ≤ d ∧ d ≤ 9999 ∧ t < -30) ∨ (1000 ≤ d ∧ d ≤ 9999 ∧ -30 ≤ t ∧ 30 < t) ∨ (1000 ≤ d ∧ d ≤ 9999 ∧ -30 ≤ t ∧ t ≤ 30) := by omega
  rcases hc with h | ⟨h, h1⟩ | ⟨h, h1, h2⟩ | ⟨h, h1, h2, h3⟩ | ⟨h, h1, h2, h3⟩
  all_goals
    go_enter Tryd.func210, Tryd.ntmps210
    go_wp2
    go_ret
    exact ⟨ret_bool (by unfold fg; first | exact (decide_eq_true (by omega)).symm | exact (decide_eq_false (by omega)).symm | exact decide_eq_decide.2 ⟨fun _ => by omega, fun _ => by omega⟩), (by repeat (first | with_reducible exact Gr.refl _ | with_reducible refine Gr.alloc ?_ _ | with_reducible refine Gr.gr ?_ _ _ | with_reducible refine Gr.drew ?_ | with_reducible refine Gr.drewN ?_ _))⟩

theorem nan_any (x : Int) (w : World) :
    Calls Tryd.prog 165 #[.int .i64 x] w fun e w' => e = .returned (.bool false) ∧ w = w' := by
  go_enter Tryd.func165, Tryd.ntmps165
  go_wp2
  go_ret
  exact ⟨ret_bool (by simp), rfl⟩

end Go.Proofs.YtggflladheemoaaDoor

/- A figure is equal to itself. -/
namespace Go.Proofs.YtggflladheemoaaDoor
open Go.RowKit
end Go.Proofs.YtggflladheemoaaDoor

/- Contracts of chapter 2: fractions rounded to a figure. -/
namespace Go.Proofs.YtggflladheemoaaDoor
open Go.RowKit
set_option linter.unusedVariables false
set_option linter.unusedSimpArgs false

end Go.Proofs.YtggflladheemoaaDoor

/- Contracts of chapter 2: what the public functions return, in the program and in the model. -/
namespace Go.Proofs.YtggflladheemoaaDoor
open Go.RowKit
set_option linter.unusedVariables false
set_option linter.unusedSimpArgs false

/-- Two figures: both valid, or the first or the second not. -/
theorem two_cases (a s b t : Int) : ((fg a s && fg b t) = true ∧ fg a s = true ∧ fg b t = true) ∨ ((fg a s && fg b t) = false ∧ (fg a s = false ∨ (fg a s = true ∧ fg b t = false))) := by
  cases fg a s <;> cases fg b t <;> simp

end Go.Proofs.YtggflladheemoaaDoor
