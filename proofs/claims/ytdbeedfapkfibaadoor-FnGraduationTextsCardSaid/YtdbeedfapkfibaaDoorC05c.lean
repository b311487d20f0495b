/- Contracts of chapter 5: positions through the kinds of scale, places and distances, in the program and in the model. -/
import Derived.Test.YtdbeedfapkfibaaDoorC05b
import Derived.Test.YtdbeedfapkfibaaDoorMB
import Derived.Lib.LaidTab
namespace Go.Proofs.YtdbeedfapkfibaaDoor
open Go.RowKit
set_option linter.unusedVariables false
set_option linter.unusedSimpArgs false

/-- The table of decades lies as the program's text lays it. -/
def Dcs (w : World) : Prop := ∀ i : Nat, i < 6 → w.cell? ⟨0, i, none⟩ = some (.int .i64 (dec i))
theorem Dcs.gr {w w' : World} (h : Dcs w) (hg : Gr w w') : Dcs w' := by
  obtain ⟨k, os, rfl⟩ := hg
  intro i hi
  have := h i hi
  rw [gr_cell _ _ _ _ _ (World.block_lt_of_cell? w _ this)]
  exact this
theorem dcs_of {w : World} (h : Lib.TabIs Tryd.prog w "loop.example/g00951/impl.scaleDecades" .i64 [1, 2, 3, 1, 1, 1]) : Dcs w := by
  intro i hi
  have := h.cell (g := 0) (by kernel_rfl) i hi
  rw [this]
  rcases (show i = 0 ∨ i = 1 ∨ i = 2 ∨ i = 3 ∨ i = 4 ∨ i = 5 by omega) with rfl | rfl | rfl | rfl | rfl | rfl <;> rfl

theorem ps_ret (a b c : Int) (x : (Int × Int) × Int) (p : Int × Int) (h : x = (p, 0)) (h1 : a = p.1) (h2 : b = p.2) (h3 : c = 0) : Ending.returned (.tuple #[.agg #[.int .i64 a, .int .i64 b], .int .i64 c]) = .returned (.tuple #[.agg #[.int .i64 x.1.1, .int .i64 x.1.2], .int .i64 x.2]) := by rw [h, h1, h2, h3]
theorem ps_no (c : Int) (x : (Int × Int) × Int) (h : x = ((0, 0), c)) : Ending.returned (.tuple #[.agg #[.int .i64 0, .int .i64 0], .int .i64 c]) = .returned (.tuple #[.agg #[.int .i64 x.1.1, .int .i64 x.1.2], .int .i64 x.2]) := by rw [h]

theorem lgb_ok {d t : Int} (h : fg d t = true) : lgb false (d * 100000) ≤ lgb true (d * 100000) := by
  obtain ⟨⟨d1, d2⟩, -⟩ := (fg_iff d t).1 h
  exact lgb_le (d * 100000) (by omega) (by omega)

end Go.Proofs.YtdbeedfapkfibaaDoor
