/- Contracts of chapter 4: spans of intervals, in the program and in the model. -/
import Derived.Test.YtphebmbapllinaaDoorC04b
import Derived.Test.YtphebmbapllinaaDoorBk
import Derived.Deep.RegionHeld3
import Derived.RegionTactic
namespace Go.Proofs.YtphebmbapllinaaDoor
open Go.RowKit Go.Shelf
set_option linter.unusedVariables false
set_option linter.unusedSimpArgs false

theorem ret_sp {x : Sp} {a s b t c : Int} (h : x = ⟨a, s, b, t, c⟩) : Ending.returned (.tuple #[.agg #[.int .i64 a, .int .i64 s], .agg #[.int .i64 b, .int .i64 t], .int .i64 c]) = .returned (.tuple #[.agg #[.int .i64 (x).a, .int .i64 (x).s], .agg #[.int .i64 (x).b, .int .i64 (x).t], .int .i64 (x).c]) := by rw [h]
theorem ret_sp' {x y : Sp} (h : x = y) : Ending.returned (.tuple #[.agg #[.int .i64 (y).a, .int .i64 (y).s], .agg #[.int .i64 (y).b, .int .i64 (y).t], .int .i64 (y).c]) = .returned (.tuple #[.agg #[.int .i64 (x).a, .int .i64 (x).s], .agg #[.int .i64 (x).b, .int .i64 (x).t], .int .i64 (x).c]) := by rw [h]
theorem un_cases (l h : Int) : ((un l && un h) = false ∧ un l = false) ∨ ((un l && un h) = false ∧ un l = true ∧ un h = false) ∨ (un l = true ∧ un h = true) := by
  cases un l <;> cases un h <;> simp
/-- The parts of a span, by the two numbers. -/
theorem spN_model (m n : Int) : (fg (1000 + m % 9000) (m / 9000) = true ∧ fg (1000 + n % 9000) (n / 9000) = true ∧ spN m n = ⟨1000 + m % 9000, m / 9000, 1000 + n % 9000, n / 9000, 0⟩) ∨
    (fg (1000 + m % 9000) (m / 9000) = false ∧ spN m n = ⟨0, 0, 0, 0, 4⟩) ∨ (fg (1000 + m % 9000) (m / 9000) = true ∧ fg (1000 + n % 9000) (n / 9000) = false ∧ spN m n = ⟨0, 0, 0, 0, 4⟩) := by
  by_cases hm : -270000 ≤ m ∧ m ≤ 278999
  · by_cases hn : -270000 ≤ n ∧ n ≤ 278999
    · exact .inl ⟨fn_fg m hm.1 hm.2, fn_fg n hn.1 hn.2, spN_ok m n ⟨hm, hn⟩⟩
    · exact .inr (.inr ⟨fn_fg m hm.1 hm.2, fn_no n (by omega), spN_no m n (fun h => hn h.2)⟩)
  · exact .inr (.inl ⟨fn_no m (by omega), spN_no m n (fun h => hm h.1)⟩)
theorem spN_prog (m n : Int) : (nfR m = ((1000 + m % 9000, m / 9000), 0) ∧ nfR n = ((1000 + n % 9000, n / 9000), 0) ∧ spN m n = ⟨1000 + m % 9000, m / 9000, 1000 + n % 9000, n / 9000, 0⟩) ∨
    (nfR m = ((0, 0), 4) ∧ spN m n = ⟨0, 0, 0, 0, 4⟩) ∨ (nfR m = ((1000 + m % 9000, m / 9000), 0) ∧ nfR n = ((0, 0), 4) ∧ spN m n = ⟨0, 0, 0, 0, 4⟩) := by
  by_cases hm : -270000 ≤ m ∧ m ≤ 278999
  · by_cases hn : -270000 ≤ n ∧ n ≤ 278999
    · exact .inl ⟨nfR_ok m hm, nfR_ok n hn, spN_ok m n ⟨hm, hn⟩⟩
    · exact .inr (.inr ⟨nfR_ok m hm, nfR_no n hn, spN_no m n (fun h => hn h.2)⟩)
  · exact .inr (.inl ⟨nfR_no m hm, spN_no m n (fun h => hm h.1)⟩)

/-- A world that has grown from one with three new blocks of two cells. -/
theorem at3 {w w1 : World} {x0 x1 y0 y1 z0 z1 : Value} {t u v : TypeId} (hg : Gr (((w.alloc (.cells #[x0, x1] t)).alloc (.cells #[y0, y1] u)).alloc (.cells #[z0, z1] v)) w1) :
    Below w.heap.size w w1 ∧ Blk w1 w.heap.size t #[x0, x1] ∧ Blk w1 (w.heap.size + 1) u #[y0, y1] ∧ Blk w1 (w.heap.size + 2) v #[z0, z1] := by
  have a := ((Blk.new w t #[x0, x1]).alloc (.cells #[y0, y1] u)).alloc (.cells #[z0, z1] v)
  have b := (Blk.new (w.alloc (.cells #[x0, x1] t)) u #[y0, y1]).alloc (.cells #[z0, z1] v)
  have c := Blk.new ((w.alloc (.cells #[x0, x1] t)).alloc (.cells #[y0, y1] u)) v #[z0, z1]
  rw [World.size_alloc] at b c
  rw [World.size_alloc] at c
  exact ⟨((((Below.refl _ w).alloc (Nat.le_refl _) _).alloc (by simp) _).alloc (by simp; omega) _).trans (hg.below.mono (by simp; omega)), a.gr hg, b.gr hg, c.gr hg⟩

end Go.Proofs.YtphebmbapllinaaDoor
