/- Contracts of chapter 4: the figures next to a logarithm, in the program and in the model. -/
import Derived.Test.YtphebmbapllinaaDoorC04a
namespace Go.Proofs.YtphebmbapllinaaDoor
open Go.RowKit Go.Shelf
set_option linter.unusedVariables false
set_option linter.unusedSimpArgs false

theorem cell_after {w : World} {b : Nat} {v : Value} (o : Obj) (k : Nat) (os : Array Obj) (lb : b < w.heap.size) (h : w.cell? ⟨b, 0, none⟩ = some v) : (gr (w.alloc o) k os).cell? ⟨b, 0, none⟩ = some v :=
  (gr_cell _ _ _ _ _ (by simp; omega)).trans ((((Below.refl _ w).alloc (Nat.le_refl _) o).cell (p := ⟨b, 0, none⟩) lb).trans h)

end Go.Proofs.YtphebmbapllinaaDoor
