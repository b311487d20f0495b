/- Contracts of chapter 2: comparing, rounding to fewer digits, relative errors. -/
import Derived.Test.YtefhhigcplemaaaGreatDoor2A
namespace Go.Proofs.YtefhhigcplemaaaGreatDoor
open Go.RowKit
set_option linter.unusedVariables false
set_option linter.unusedSimpArgs false

/-- Three ways of rounding to fewer digits: no figure, no such number of digits, a cut. -/
theorem round_cases (a s g : Int) : fg a s = false ∨ (fg a s = true ∧ g < 1) ∨ (fg a s = true ∧ 1 ≤ g ∧ 4 < g) ∨ (fg a s = true ∧ 1 ≤ g ∧ g ≤ 4) := by
  cases fg a s <;> simp <;> omega

end Go.Proofs.YtefhhigcplemaaaGreatDoor
