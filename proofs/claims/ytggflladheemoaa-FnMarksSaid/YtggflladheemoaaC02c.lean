/- Contracts of chapter 2: what the public functions return, in the program and in the model. -/
import Derived.Test.YtggflladheemoaaC02b
import Derived.Deep.RegionHeld3
import Derived.IntWalk
namespace Go.Proofs.Ytggflladheemoaa
open Go.RowKit
set_option linter.unusedVariables false
set_option linter.unusedSimpArgs false

/-- Two figures: both valid, or the first or the second not. -/
theorem two_cases (a s b t : Int) : ((fg a s && fg b t) = true ∧ fg a s = true ∧ fg b t = true) ∨ ((fg a s && fg b t) = false ∧ (fg a s = false ∨ (fg a s = true ∧ fg b t = false))) := by
  cases fg a s <;> cases fg b t <;> simp

end Go.Proofs.Ytggflladheemoaa
