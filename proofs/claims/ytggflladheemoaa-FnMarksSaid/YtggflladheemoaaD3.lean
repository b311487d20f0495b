/- Draws of chapter 1: exponents, numbers to count, pairs with a common divisor. -/
import Derived.Test.YtggflladheemoaaD2
namespace Go.Proofs.Ytggflladheemoaa
open Go.RowKit
set_option linter.unusedVariables false
set_option linter.unusedSimpArgs false

/-- One drawn number of a kind. -/
def One (P : Int → Prop) (w : World) (e : Ending) (w' : World) : Prop := ∃ x : Int, e = .returned (.int .i64 x) ∧ P x ∧ Below w.heap.size w w'

theorem mul_bd (k y : Int) (k1 : 1 ≤ k) (k2 : k ≤ 40) (y1 : -100 ≤ y) (y2 : y ≤ 100) : -4000 ≤ k * y ∧ k * y ≤ 4000 := by
  have h1 : 0 ≤ k * (y + 100) := Int.mul_nonneg (by omega) (by omega)
  have h2 : 0 ≤ k * (100 - y) := Int.mul_nonneg (by omega) (by omega)
  rw [Int.mul_add] at h1
  rw [Int.mul_sub] at h2
  omega

end Go.Proofs.Ytggflladheemoaa
