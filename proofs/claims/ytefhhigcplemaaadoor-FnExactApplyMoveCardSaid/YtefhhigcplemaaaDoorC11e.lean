/- Contracts of chapter 11: the figure that is read at a point, in the program. -/
import Derived.Test.YtefhhigcplemaaaDoorC11d
import Derived.Test.YtefhhigcplemaaaDoorC04a
import Derived.Test.YtefhhigcplemaaaDoor1A
import Derived.Test.YtefhhigcplemaaaDoor2A
import Derived.Test.YtefhhigcplemaaaDoorFg
import Derived.BigQuiet
namespace Go.Proofs.YtefhhigcplemaaaDoor
open Go.RowKit
set_option linter.unusedVariables false
set_option linter.unusedSimpArgs false

/-- How two figures compare at a point. -/
def cvV (s p d t e u : Int) : Int := if cmpI (gap p (pnt s d t)) (gap p (pnt s e u)) = 0 then cmpI (10000 * t + d) (10000 * u + e) else cmpI (gap p (pnt s d t)) (gap p (pnt s e u))
def ky2 (s p d t : Int) : Int := gap p (pnt s d t) * 1048576 + (10000 * t + d)
theorem cv_ky (s p d t e u : Int) (h1 : 0 ≤ 10000 * t + d) (h2 : 10000 * t + d ≤ 30000) (h3 : 0 ≤ 10000 * u + e) (h4 : 10000 * u + e ≤ 30000) : cvV s p d t e u < 0 ↔ ky2 s p d t < ky2 s p e u := by
  unfold cvV ky2
  generalize gap p (pnt s d t) = a at *
  generalize gap p (pnt s e u) = b at *
  generalize 10000 * t + d = x at *
  generalize 10000 * u + e = y at *
  rcases Int.lt_trichotomy a b with h | h | h
  · rw [cmpI_lt a b h]; simp; omega
  · rw [cmpI_eq a b h, if_pos rfl]
    rcases Int.lt_trichotomy x y with g | g | g
    · rw [cmpI_lt x y g]; simp; omega
    · rw [cmpI_eq x y g]; omega
    · rw [cmpI_gt x y g]; omega
  · rw [cmpI_gt a b h]; simp; omega
theorem gap_abs (p x : Int) : (((x - p).natAbs : Nat) : Int) = gap p x := by unfold gap; omega
def TwoF (x y : Int) (v : Value) (w : World) : Prop := ∃ g : Nat, v = .slice (some ⟨g, 0, none⟩) 2 2 ∧ w.cell? ⟨g, 0, none⟩ = some (.int .i64 x) ∧ w.cell? ⟨g, 1, none⟩ = some (.int .i64 y)
theorem TwoF.gr {x y : Int} (v : Value) (w w' : World) (hg : Gr w w') (h : TwoF x y v w) : TwoF x y v w' := by
  obtain ⟨g, e, h1, h2⟩ := h
  exact ⟨g, e, cell_up hg h1, cell_up hg h2⟩
theorem TwoF.new (w : World) (x y : Int) (T : TypeId) : TwoF x y (.slice (some ⟨w.heap.size, 0, none⟩) 2 2) (w.alloc (.cells #[.int .i64 x, .int .i64 y] T)) := by
  have B := (Blk.new w T #[.int .i64 x, .int .i64 y]).two
  exact ⟨_, rfl, B.1, B.2.1⟩
theorem two_boxesF (w : World) (T U : TypeId) (a b : Array Value) : Blk ((w.alloc (.cells a T)).alloc (.cells b U)) w.heap.size T a ∧ Blk ((w.alloc (.cells a T)).alloc (.cells b U)) (w.heap.size + 1) U b ∧ Gr w ((w.alloc (.cells a T)).alloc (.cells b U)) := by
  have B0 := (Blk.new w T a).alloc (.cells b U)
  have B1 := Blk.new (w.alloc (.cells a T)) U b
  rw [World.size_alloc] at B1
  exact ⟨B0, B1, (by repeat (first | with_reducible exact Gr.refl _ | with_reducible refine Gr.alloc ?_ _ | with_reducible refine Gr.gr ?_ _ _ | with_reducible refine Gr.drew ?_ | with_reducible refine Gr.drewN ?_ _))⟩
end Go.Proofs.YtefhhigcplemaaaDoor
