/- Contracts of chapter 11: the model's readings and settings. -/
import Derived.Test.YtefhhigcplemaaaDoorC11j
import Derived.Test.YtefhhigcplemaaaDoorC11b
import Derived.Test.YtefhhigcplemaaaDoor2A
namespace Go.Proofs.YtefhhigcplemaaaDoor
open Go.RowKit
set_option linter.unusedVariables false
set_option linter.unusedSimpArgs false

theorem rN_at (s p : Int) (m : Nat) (h : IsB (ptN s) p 0 (gN s) m) : gD (rdN s p) = gD m ∧ gT (rdN s p) = gT m := by rw [rdN_is s p m h]; exact ⟨rfl, rfl⟩
end Go.Proofs.YtefhhigcplemaaaDoor
