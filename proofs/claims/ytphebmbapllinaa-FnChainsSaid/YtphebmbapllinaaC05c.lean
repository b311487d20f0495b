/- Contracts of chapter 5: positions through the kinds of scale, places and distances, in the program and in the model. -/
import Derived.Test.YtphebmbapllinaaC05b
import Derived.Test.YtphebmbapllinaaMB
import Derived.Lib.LaidTab
namespace Go.Proofs.Ytphebmbapllinaa
open Go.RowKit
set_option linter.unusedVariables false
set_option linter.unusedSimpArgs false

theorem ps_ret (a b c : Int) (x : (Int × Int) × Int) (p : Int × Int) (h : x = (p, 0)) (h1 : a = p.1) (h2 : b = p.2) (h3 : c = 0) : Ending.returned (.tuple #[.agg #[.int .i64 a, .int .i64 b], .int .i64 c]) = .returned (.tuple #[.agg #[.int .i64 x.1.1, .int .i64 x.1.2], .int .i64 x.2]) := by rw [h, h1, h2, h3]
theorem ps_no (c : Int) (x : (Int × Int) × Int) (h : x = ((0, 0), c)) : Ending.returned (.tuple #[.agg #[.int .i64 0, .int .i64 0], .int .i64 c]) = .returned (.tuple #[.agg #[.int .i64 x.1.1, .int .i64 x.1.2], .int .i64 x.2]) := by rw [h]

theorem lgb_ok {d t : Int} (h : fg d t = true) : lgb false (d * 100000) ≤ lgb true (d * 100000) := by
  obtain ⟨⟨d1, d2⟩, -⟩ := (fg_iff d t).1 h
  exact lgb_le (d * 100000) (by omega) (by omega)

end Go.Proofs.Ytphebmbapllinaa
