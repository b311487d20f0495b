/- Contracts of chapter 2: figures, in the program, in the model and in the law. -/
import Derived.Test.YtjfcgkfgpemheaaDoorC01b
import Derived.Test.YtjfcgkfgpemheaaDoorM03
import Derived.Test.YtjfcgkfgpemheaaDoorGr
namespace Go.Proofs.YtjfcgkfgpemheaaDoor
open Go.RowKit
set_option linter.unusedVariables false
set_option linter.unusedSimpArgs false

/-- A figure and a code, as a result. -/
theorem ret_fig {a b c d e f : Int} (h : a = b) (h1 : c = d) (h2 : e = f) : Ending.returned (.tuple #[.agg #[.int .i64 a, .int .i64 c], .int .i64 e]) = .returned (.tuple #[.agg #[.int .i64 b, .int .i64 d], .int .i64 f]) := by rw [h, h1, h2]
theorem ret_agg {a b c d : Int} (h : a = b) (h1 : c = d) : Ending.returned (.agg #[.int .i64 a, .int .i64 c]) = .returned (.agg #[.int .i64 b, .int .i64 d]) := by rw [h, h1]

theorem toFigure_any (d t : Int) (w : World) :
    Calls Tryd.prog 34 #[.agg #[.int .i64 d, .int .i64 t]] w fun e w' => e = .returned (.agg #[.int .i64 d, .int .i64 t]) ∧ Gr w w' := by
  go_enter Tryd.func34, Tryd.ntmps34
  go_wp2
  ((try simp only [Exit.inBlock, Exit.then]); refine bodyPost_ret (v := .agg #[.int .i64 d, .int .i64 t]) (by simp [results, Tryd.results34, go_sem]) rfl ?_)
  exact ⟨rfl, (by repeat (first | with_reducible exact Gr.refl _ | with_reducible refine Gr.alloc ?_ _ | with_reducible refine Gr.gr ?_ _ _ | with_reducible refine Gr.drew ?_ | with_reducible refine Gr.drewN ?_ _))⟩

theorem isFigure_impl (d t : Int) (w : World) :
    Calls Tryd.prog 39 #[.agg #[.int .i64 d, .int .i64 t]] w fun e w' => e = .returned (.bool (fg d t)) ∧ Gr w w' := by
  have hc : d < 1000 ∨ (1000 ≤ d ∧ 9999 < d) ∨ (1000 ≤ d ∧ d ≤ 9999 ∧ t < -30) ∨ (1000 ≤ d ∧ d ≤ 9999 ∧ -30 ≤ t ∧ 30 < t) ∨ (1000 ≤ d ∧ d ≤ 9999 ∧ -30 ≤ t ∧ t ≤ 30) := by omega
  rcases hc with h | ⟨h, h1⟩ | ⟨h, h1, h2⟩ | ⟨h, h1, h2, h3⟩ | ⟨h, h1, h2, h3⟩
  all_goals
    go_enter Tryd.func39, Tryd.ntmps39
    go_wp2
    go_ret
    exact ⟨ret_bool (by unfold fg; first | exact (decide_eq_true (by omega)).symm | exact (decide_eq_false (by omega)).symm | exact decide_eq_decide.2 ⟨fun _ => by omega, fun _ => by omega⟩), (by repeat (first | with_reducible exact Gr.refl _ | with_reducible refine Gr.alloc ?_ _ | with_reducible refine Gr.gr ?_ _ _ | with_reducible refine Gr.drew ?_ | with_reducible refine Gr.drewN ?_ _))⟩

theorem isFigure_spec (d t : Int) (w : World) :
    Calls Tryd.prog 58 #[.agg #[.int .i64 d, .int .i64 t]] w fun e w' => e = .returned (.bool (fg d t)) ∧ Gr w w' := by
  by_cases h1 : 1000 ≤ d ∧ d ≤ 9999
  all_goals
    have HD := Lib.hid h1
    go_enter Tryd.func58, Tryd.ntmps58
    go_wp2_with (go_at_call 44; refine (in_any _ _ _ _).mono ?_; rintro e w' ⟨rfl, rfl⟩)
    go_ret
    exact ⟨ret_bool (by simp [fg, HD.out]), (by repeat (first | with_reducible exact Gr.refl _ | with_reducible refine Gr.alloc ?_ _ | with_reducible refine Gr.gr ?_ _ _ | with_reducible refine Gr.drew ?_ | with_reducible refine Gr.drewN ?_ _))⟩

theorem two_spec (a s b t : Int) (w : World) :
    Calls Tryd.prog 52 #[.agg #[.int .i64 a, .int .i64 s], .agg #[.int .i64 b, .int .i64 t]] w fun e w' => e = .returned (.bool (fg a s && fg b t)) ∧ Gr w w' := by
  have e1 : fg a s = true ∨ fg a s = false := by cases fg a s <;> simp
  rcases e1 with e1 | e1
  all_goals
    go_enter Tryd.func52, Tryd.ntmps52
    go_wp2_with (go_at_call 58; refine (isFigure_spec _ _ _).mono ?_; rintro e w' ⟨rfl, k, os, rfl⟩)
    go_ret
    exact ⟨ret_bool (by simp [e1]), (by repeat (first | with_reducible exact Gr.refl _ | with_reducible refine Gr.alloc ?_ _ | with_reducible refine Gr.gr ?_ _ _ | with_reducible refine Gr.drew ?_ | with_reducible refine Gr.drewN ?_ _))⟩

end Go.Proofs.YtjfcgkfgpemheaaDoor
