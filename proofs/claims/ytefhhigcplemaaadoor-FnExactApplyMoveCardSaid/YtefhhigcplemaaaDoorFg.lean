/- Rows of figures; the least one of a row by a comparing function (slices.MinFunc). -/
import Derived.Test.YtefhhigcplemaaaDoorSA
import Derived.Test.YtefhhigcplemaaaDoorBk
import Derived.OwnWalk
namespace Go.Proofs.YtefhhigcplemaaaDoor
open Go.RowKit
set_option linter.unusedVariables false
set_option linter.unusedSimpArgs false

/-- Figures that lie behind one another, read. -/
def FigRow (w : World) (g o n : Nat) (D T : Nat → Int) : Prop := ∀ k, k < n → w.cell? ⟨g, o + k * 2, none⟩ = some (.int .i64 (D k)) ∧ w.cell? ⟨g, o + k * 2 + 1, none⟩ = some (.int .i64 (T k))
theorem FigRow.below {w w' : World} {g o n : Nat} {D T : Nat → Int} (h : FigRow w g o n D T) (hb : Below w.heap.size w w') : FigRow w' g o n D T := by
  intro k hk
  obtain ⟨a, b⟩ := h k hk
  have hg := World.block_lt_of_cell? w _ a
  exact ⟨(hb.cell (p := ⟨g, o + k * 2, none⟩) hg).trans a, (hb.cell (p := ⟨g, o + k * 2 + 1, none⟩) hg).trans b⟩
theorem FigRow.gr {w w' : World} {g o n : Nat} {D T : Nat → Int} (h : FigRow w g o n D T) (hg : Gr w w') : FigRow w' g o n D T := h.below hg.below

theorem two_cells_new (w : World) (a b : Value) (t : TypeId) : ∀ j u, [a, b][j]? = some u → (w.alloc (.cells #[a, b] t)).cell? ((⟨w.heap.size, 0, none⟩ : Addr).add j) = some u := by
  intro j u hj
  match j, hj with
  | 0, hj => simp at hj; subst hj; simp [Addr.add]
  | 1, hj => simp at hj; subst hj; simp [Addr.add]
theorem info_fig : (Tryd.prog.info? 45).map (fun i => (i.zero, i.size, i.bytes)) = some (some (.agg #[.int .i64 0, .int .i64 0]), 2, 16) := by kernel_rfl
def figCells (D T : Nat → Int) : Nat → List Value
  | 0 => []
  | n + 1 => figCells D T n ++ [.int .i64 (D n), .int .i64 (T n)]
theorem figCells_len (D T : Nat → Int) : ∀ n, (figCells D T n).length = n * 2
  | 0 => rfl
  | n + 1 => by unfold figCells; rw [List.length_append, figCells_len D T n]; simp; omega
theorem figCells_at (D T : Nat → Int) : ∀ n k, k < n → (figCells D T n)[k * 2]? = some (.int .i64 (D k)) ∧ (figCells D T n)[k * 2 + 1]? = some (.int .i64 (T k))
  | 0, k, h => absurd h (by omega)
  | n + 1, k, h => by
    have hl := figCells_len D T n
    unfold figCells
    rcases Nat.lt_succ_iff_lt_or_eq.1 h with h1 | rfl
    · have ih := figCells_at D T n k h1
      rw [List.getElem?_append_left (by omega), List.getElem?_append_left (by omega)]
      exact ih
    · rw [List.getElem?_append_right (by omega), List.getElem?_append_right (by omega), hl, show k * 2 - k * 2 = 0 by omega, show k * 2 + 1 - k * 2 = 1 by omega]
      exact ⟨rfl, rfl⟩
theorem addr0 (g k : Nat) : (⟨g, 0, none⟩ : Addr).add k = ⟨g, k, none⟩ := by unfold Addr.add; split <;> simp_all
/-- A slice of figures in blocks of the call's own. -/
abbrev Figs (w : World) (B : Nat) (v : Value) (n : Nat) (D T : Nat → Int) : Prop := w.ownsRow B 45 2 v n (figCells D T n)
theorem Figs.val {w : World} {B n : Nat} {v : Value} {D T : Nat → Int} (h : Figs w B v n D T) : ∃ A c, v = .slice A n c := by
  rcases h.2 with ⟨rfl, rfl⟩ | ⟨g, cap, cur, rfl, -⟩
  · exact ⟨none, 0, rfl⟩
  · exact ⟨_, _, rfl⟩
theorem Figs.row {w : World} {B n : Nat} {v : Value} {D T : Nat → Int} (h : Figs w B v n D T) (hn : 1 ≤ n) : ∃ g c : Nat, v = .slice (some ⟨g, 0, none⟩) n c ∧ FigRow w g 0 n D T := by
  have hc := fun g hg => World.ownsRow.cells h (g := g) hg
  rcases h.2 with ⟨rfl, rfl⟩ | ⟨g, cap, cur, rfl, -⟩
  · omega
  · refine ⟨g, cap, rfl, fun k hk => ?_⟩
    obtain ⟨a, b⟩ := figCells_at D T n k hk
    have x := hc g rfl _ _ a
    have y := hc g rfl _ _ b
    rw [addr0] at x y
    rw [Nat.zero_add]
    exact ⟨x, y⟩
theorem Below.grewF {B : Nat} {a w w' : World} (h : Below B a w) (hB : B ≤ w.heap.size) (hg : Gr w w') : Below B a w' := h.trans (hg.below.mono hB)
end Go.Proofs.YtefhhigcplemaaaDoor
