/- Blocks of which each cell is known and that can be written. -/
import Derived.Test.YtphebmbapllinaaDoorGr
import Derived.Laws.Rows
import Derived.Below
namespace Go.Proofs.YtphebmbapllinaaDoor
open Go.RowKit
set_option linter.unusedVariables false
set_option linter.unusedSimpArgs false

theorem blk_lt {w : World} {b : Nat} {o : Obj} (h : w.heap[b]? = some o) : b < w.heap.size := by
  rcases Nat.lt_or_ge b w.heap.size with h1 | h1
  · exact h1
  · rw [Array.getElem?_eq_none h1] at h; cases h
theorem free_row {w : World} {b : Nat} {cs : Array Value} {t : TypeId} (h : w.heap[b]? = some (.cells cs t (0, 0))) (j : Nat) : w.frozen? ⟨b, j, none⟩ = false := by simp [World.frozen?, h]

/-- Block g is just these cells, and can be written. -/
def Blk (w : World) (g : Nat) (t : TypeId) (cs : Array Value) : Prop := w.heap[g]? = some (.cells cs t (0, 0))
theorem Blk.new (w : World) (t : TypeId) (cs : Array Value) : Blk (w.alloc (.cells cs t)) w.heap.size t cs := heap_alloc_new w _
theorem Blk.lt {w : World} {g : Nat} {t : TypeId} {cs : Array Value} (h : Blk w g t cs) : g < w.heap.size := blk_lt h
theorem Blk.alloc {w : World} {g : Nat} {t : TypeId} {cs : Array Value} (h : Blk w g t cs) (o : Obj) : Blk (w.alloc o) g t cs := (Below.heap_alloc w o g h.lt).trans h
theorem Blk.two {w : World} {g : Nat} {t : TypeId} {x y : Value} (h : Blk w g t #[x, y]) : w.cell? ⟨g, 0, none⟩ = some x ∧ w.cell? ⟨g, 1, none⟩ = some y ∧ (∀ i, w.frozen? ⟨g, i, none⟩ = false) := by
  have c0 := cell_of_row w g 0 _ _ _ h
  have c1 := cell_of_row w g 1 _ _ _ h
  simp at c0 c1
  exact ⟨c0, c1, fun i => free_row h i⟩
theorem Blk.set {w : World} {g : Nat} {t : TypeId} {cs : Array Value} (h : Blk w g t cs) (i : Nat) (x : Value) : Blk (w.setCell ⟨g, i, none⟩ x) g t (cs.setIfInBounds i x) := by
  unfold Blk at h ⊢
  simp [World.setCell, Array.getElem?_modify, h]
theorem Blk.far {w : World} {g : Nat} {t : TypeId} {cs : Array Value} (h : Blk w g t cs) {a : Addr} (ha : a.block ≠ g) (x : Value) : Blk (w.setCell a x) g t cs := (heap_setCell_other w a g x ha.symm).trans h
theorem Blk.below {w w' : World} {g : Nat} {t : TypeId} {cs : Array Value} (h : Blk w g t cs) {B : Nat} (hb : Below B w w') (hg : g < B) : Blk w' g t cs := (hb.block g hg).trans h
theorem Blk.gr {w w' : World} {g : Nat} {t : TypeId} {cs : Array Value} (h : Blk w g t cs) (hg : Gr w w') : Blk w' g t cs := (hg.below.block g h.lt).trans h
theorem Blk.grew {w : World} {g : Nat} {t : TypeId} {cs : Array Value} (h : Blk w g t cs) (k : Nat) (os : Array Obj) : Blk (Proofs.YtphebmbapllinaaDoor.gr w k os) g t cs := h.gr ⟨k, os, rfl⟩
/-- Two structs of two cells each, behind one another: they stay in a world that has grown. -/
theorem keep4 {w v : World} {n : Nat} {a b c d : Value} (hg : Gr w v) (l1 : n < w.heap.size) (l2 : n + 1 < w.heap.size) (x0 : w.cell? ⟨n, 0, none⟩ = some a) (x1 : w.cell? ⟨n, 1, none⟩ = some b)
    (y0 : w.cell? ⟨n + 1, 0, none⟩ = some c) (y1 : w.cell? ⟨n + 1, 1, none⟩ = some d) :
    v.cell? ⟨n, 0, none⟩ = some a ∧ v.cell? ⟨n, 1, none⟩ = some b ∧ v.cell? ⟨n + 1, 0, none⟩ = some c ∧ v.cell? ⟨n + 1, 1, none⟩ = some d :=
  ⟨(hg.below.cell (p := ⟨n, 0, none⟩) l1).trans x0, (hg.below.cell (p := ⟨n, 1, none⟩) l1).trans x1, (hg.below.cell (p := ⟨n + 1, 0, none⟩) l2).trans y0, (hg.below.cell (p := ⟨n + 1, 1, none⟩) l2).trans y1⟩
end Go.Proofs.YtphebmbapllinaaDoor
