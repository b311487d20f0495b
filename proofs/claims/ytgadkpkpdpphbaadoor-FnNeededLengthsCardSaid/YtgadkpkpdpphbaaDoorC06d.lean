/- Contracts of chapter 6: the model's needed length: its arguments. -/
import Derived.Test.YtgadkpkpdpphbaaDoorC06c
namespace Go.Proofs.YtgadkpkpdpphbaaDoor
open Go.RowKit
set_option linter.unusedVariables false
set_option linter.unusedSimpArgs false

theorem ok7_cases (s t e g : Int) : (ok7 s t e g = true ∧ sc s = true ∧ decide (0 ≤ e ∧ e ≤ 200) = true ∧ decide (1 ≤ g ∧ g ≤ 4) = true ∧ decide (0 ≤ t ∧ t ≤ dec s - 1) = true) ∨
    (ok7 s t e g = false ∧ (sc s = false ∨ (sc s = true ∧ decide (0 ≤ e ∧ e ≤ 200) = false) ∨ (sc s = true ∧ decide (0 ≤ e ∧ e ≤ 200) = true ∧ decide (1 ≤ g ∧ g ≤ 4) = false) ∨
      (sc s = true ∧ decide (0 ≤ e ∧ e ≤ 200) = true ∧ decide (1 ≤ g ∧ g ≤ 4) = true ∧ decide (0 ≤ t ∧ t ≤ dec s - 1) = false))) := by
  unfold ok7
  cases sc s <;> rcases decb_tf (0 ≤ e ∧ e ≤ 200) with h1 | h1 <;> rcases decb_tf (1 ≤ g ∧ g ≤ 4) with h2 | h2 <;> rcases decb_tf (0 ≤ t ∧ t ≤ dec s - 1) with h3 | h3 <;> rw [h1, h2, h3] <;> simp

end Go.Proofs.YtgadkpkpdpphbaaDoor
