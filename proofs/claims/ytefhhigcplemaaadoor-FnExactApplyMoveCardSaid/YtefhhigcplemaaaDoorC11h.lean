/- Contracts of chapter 11: the program's ReadStock, ReadSlide, SetCursor, SetSlide. -/
import Derived.Test.YtefhhigcplemaaaDoorC11g
namespace Go.Proofs.YtefhhigcplemaaaDoor
open Go.RowKit
set_option linter.unusedVariables false
set_option linter.unusedSimpArgs false

theorem part_of (b : Bool) (w : World) (A B : Option Addr) (n c m d : Nat) (xs ys : List Int) (hx : xs.length = n) (hy : ys.length = m) (hn : n ≤ 16777216) (hm : m ≤ 16777216) (hX : Reads w w.heap.size A (xs.map vi)) (hY : Reads w w.heap.size B (ys.map vi)) :
    ∃ (C : Option Addr) (k r : Nat), (if b = true then Value.slice B m d else .slice A n c) = .slice C k r ∧ (onP b xs ys).length = k ∧ k ≤ 16777216 ∧ Reads w w.heap.size C ((onP b xs ys).map vi) := by
  cases b
  · exact ⟨A, n, c, rfl, hx, hn, hX⟩
  · exact ⟨B, m, d, rfl, hy, hm, hY⟩
theorem ret_fc (a b c : Int) (x : (Int × Int) × Int) (h : x = ((a, b), c)) : Ending.returned (.tuple #[.agg #[.int .i64 a, .int .i64 b], .int .i64 c]) = .returned (.tuple #[.agg #[.int .i64 x.1.1, .int .i64 x.1.2], .int .i64 x.2]) := by rw [h]
theorem and_ff {x y : Bool} (h : (x && y) = false) : x = false ∨ (x = true ∧ y = false) := by cases x <;> cases y <;> simp_all
end Go.Proofs.YtefhhigcplemaaaDoor
