/- Contracts of chapter 5: places and distances, in the program and in the model. -/
import Derived.Test.YtphebmbapllinaaC05c
import Derived.Test.Ytphebmbapllinaa3A
import Derived.Test.Ytphebmbapllinaa2A
namespace Go.Proofs.Ytphebmbapllinaa
open Go.RowKit
set_option linter.unusedVariables false
set_option linter.unusedSimpArgs false

/-- A position times a length, over a decade. -/
theorem tms_len (a b l : Int) (h : 1 ≤ l) : (tms a b l).1 = a * l ∧ (tms a b l).2 = b * l := by
  rw [tms_pos a b l (by omega)]
  exact ⟨rfl, rfl⟩

theorem pcd_sc {s d t : Int} (h : pcd s d t = 0) : sc s = true := by
  rcases pcd_cases s d t with ⟨-, e⟩ | ⟨-, -, e⟩ | ⟨-, -, -, e⟩ | ⟨-, h2, -, -⟩
  · omega
  · omega
  · omega
  · exact h2

end Go.Proofs.Ytphebmbapllinaa
