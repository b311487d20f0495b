/- Contracts of chapter 10: spreads of figures, errors multiplied, the laws' copies, in the program and in the model. -/
import Derived.Test.YtefhhigcplemaaaGreatDoorC10a
import Derived.Test.YtefhhigcplemaaaGreatDoorBk
import Derived.Test.YtefhhigcplemaaaGreatDoorC04e
namespace Go.Proofs.YtefhhigcplemaaaGreatDoor
open Go.RowKit Go.Shelf
set_option linter.unusedVariables false
set_option linter.unusedSimpArgs false

theorem Blk.tri {w : World} {g : Nat} {t : TypeId} {x y z : Value} (h : Blk w g t #[x, y, z]) : w.cell? ⟨g, 0, none⟩ = some x ∧ w.cell? ⟨g, 1, none⟩ = some y ∧ w.cell? ⟨g, 2, none⟩ = some z ∧ (∀ i, w.frozen? ⟨g, i, none⟩ = false) := by
  have c0 := cell_of_row w g 0 _ _ _ h
  have c1 := cell_of_row w g 1 _ _ _ h
  have c2 := cell_of_row w g 2 _ _ _ h
  simp at c0 c1 c2
  exact ⟨c0, c1, c2, fun i => free_row h i⟩
theorem twoE_new (w : World) (T : TypeId) (a b c d e f : Value) :
    Blk ((w.alloc (.cells #[a, b, c] T)).alloc (.cells #[d, e, f] T)) w.heap.size T #[a, b, c] ∧ Blk ((w.alloc (.cells #[a, b, c] T)).alloc (.cells #[d, e, f] T)) (w.heap.size + 1) T #[d, e, f] ∧ Gr w ((w.alloc (.cells #[a, b, c] T)).alloc (.cells #[d, e, f] T)) := by
  refine ⟨(Blk.new w T _).alloc _, ?_, ((Gr.refl w).alloc _).alloc _⟩
  have := Blk.new (w.alloc (.cells #[a, b, c] T)) T #[d, e, f]
  simpa using this
end Go.Proofs.YtefhhigcplemaaaGreatDoor
