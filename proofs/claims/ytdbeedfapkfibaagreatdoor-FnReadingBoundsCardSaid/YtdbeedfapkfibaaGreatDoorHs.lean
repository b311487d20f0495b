/- What blocks hold, carried from world to world: for laws, whose locals are made and then only read. -/
import Derived.Test.YtdbeedfapkfibaaGreatDoorGr
import Derived.Laws.Rows
namespace Go.Proofs.YtdbeedfapkfibaaGreatDoor
open Go.RowKit
set_option linter.unusedVariables false
set_option linter.unusedSimpArgs false

/-- Block g is there, and its cells are these. -/
def Has (w : World) (g : Nat) (cs : List Value) : Prop := g < w.heap.size ∧ ∀ i, w.cell? ⟨g, i, none⟩ = cs[i]?
def Hass (w : World) : List (Nat × List Value) → Prop
  | [] => True
  | (g, cs) :: l => Has w g cs ∧ Hass w l
theorem Has.below {w w' : World} {g : Nat} {cs : List Value} (h : Has w g cs) (hb : Below w.heap.size w w') : Has w' g cs :=
  ⟨Nat.lt_of_lt_of_le h.1 hb.size, fun i => by rw [← h.2 i]; exact World.cell?_of_block (hb.block g h.1)⟩
theorem Hass.below {w w' : World} {l : List (Nat × List Value)} (h : Hass w l) (hb : Below w.heap.size w w') : Hass w' l := by
  induction l with
  | nil => trivial
  | cons p l ih => exact ⟨h.1.below hb, ih h.2⟩
theorem Hass.gr {w w' : World} {l : List (Nat × List Value)} (h : Hass w l) (hg : Gr w w') : Hass w' l := h.below hg.below
theorem Has.new (w : World) (cs : List Value) (t : TypeId) : Has (w.alloc (.cells cs.toArray t)) w.heap.size cs :=
  ⟨by simp, fun i => by rw [cell_of_row _ _ i _ _ _ (heap_alloc_new w (.cells cs.toArray t))]; simp⟩
theorem Hass.new {w : World} {l : List (Nat × List Value)} (h : Hass w l) (cs : List Value) (t : TypeId) : Hass (w.alloc (.cells cs.toArray t)) ((w.heap.size, cs) :: l) :=
  ⟨Has.new w cs t, h.below ((Below.refl _ w).alloc (Nat.le_refl _) _)⟩
/-- The same at a block whose number is spelled otherwise. -/
theorem Hass.new' {w : World} {l : List (Nat × List Value)} (h : Hass w l) (cs : List Value) (t : TypeId) (n : Nat) (hn : n = w.heap.size) : Hass (w.alloc (.cells cs.toArray t)) ((n, cs) :: l) := by
  subst hn; exact h.new cs t
theorem Has.two {w : World} {g : Nat} {x y : Value} (h : Has w g [x, y]) : g < w.heap.size ∧ w.cell? ⟨g, 0, none⟩ = some x ∧ w.cell? ⟨g, 1, none⟩ = some y := ⟨h.1, h.2 0, h.2 1⟩
end Go.Proofs.YtdbeedfapkfibaaGreatDoor
