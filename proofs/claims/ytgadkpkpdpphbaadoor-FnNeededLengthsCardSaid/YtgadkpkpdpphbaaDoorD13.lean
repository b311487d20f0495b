/- Draws of chapter 5: a place, a distance, a name. -/
import Derived.Test.YtgadkpkpdpphbaaDoorD12
namespace Go.Proofs.YtgadkpkpdpphbaaDoor
open Go.RowKit
set_option linter.unusedVariables false
set_option linter.unusedSimpArgs false

theorem nmA_size (k : Nat) : (nmA k).size ≤ 2 := by
  rcases (show k = 0 ∨ k = 1 ∨ k = 2 ∨ k = 3 ∨ k = 4 ∨ 5 ≤ k by omega) with rfl | rfl | rfl | rfl | rfl | h
  iterate 5 exact (by decide)
  obtain ⟨j, rfl⟩ : ∃ j, k = j + 5 := ⟨k - 5, by omega⟩
  exact (by decide : (⟨#[76]⟩ : ByteArray).size ≤ 2)

end Go.Proofs.YtgadkpkpdpphbaaDoor
