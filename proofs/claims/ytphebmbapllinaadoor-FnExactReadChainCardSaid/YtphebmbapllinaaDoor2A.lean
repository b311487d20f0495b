/- Plain mathematics, merged. -/
import Derived.Test.YtphebmbapllinaaDoor1A
import Derived.Test.YtphebmbapllinaaDoorMA
import Derived.Test.YtphebmbapllinaaDoorGr
import Derived.Deep.RegionHeld3
import Derived.IntWalk
/- Contracts of chapter 2: figures, in the program, in the model and in the law. -/
namespace Go.Proofs.YtphebmbapllinaaDoor
open Go.RowKit
set_option linter.unusedVariables false
set_option linter.unusedSimpArgs false

/-- A figure and a code, as a result. -/
theorem ret_fig {a b c d e f : Int} (h : a = b) (h1 : c = d) (h2 : e = f) : Ending.returned (.tuple #[.agg #[.int .i64 a, .int .i64 c], .int .i64 e]) = .returned (.tuple #[.agg #[.int .i64 b, .int .i64 d], .int .i64 f]) := by rw [h, h1, h2]
theorem ret_agg {a b c d : Int} (h : a = b) (h1 : c = d) : Ending.returned (.agg #[.int .i64 a, .int .i64 c]) = .returned (.agg #[.int .i64 b, .int .i64 d]) := by rw [h, h1]

theorem toFigure_any (d t : Int) (w : World) :
    Calls Tryd.prog 47 #[.agg #[.int .i64 d, .int .i64 t]] w fun e w' => e = .returned (.agg #[.int .i64 d, .int .i64 t]) ∧ Gr w w' := by
  go_enter Tryd.func47, Tryd.ntmps47
  go_wp2
  ((try simp only [Exit.inBlock, Exit.then]); refine bodyPost_ret (v := .agg #[.int .i64 d, .int .i64 t]) (by simp [results, Tryd.results47, go_sem]) rfl ?_)
  exact ⟨rfl, (by repeat (first | with_reducible exact Gr.refl _ | with_reducible refine Gr.alloc ?_ _ | with_reducible refine Gr.gr ?_ _ _ | with_reducible refine Gr.drew ?_ | with_reducible refine Gr.drewN ?_ _))⟩

theorem eqFigure_any (a s b t : Int) (w : World) :
    Calls Tryd.prog 48 #[.agg #[.int .i64 a, .int .i64 s], .agg #[.int .i64 b, .int .i64 t]] w fun e w' => e = .returned (.bool (decide (a = b ∧ s = t))) ∧ Gr w w' := by
  have hc : (a = b ∧ s = t) ∨ ((a != b) = true ∧ a ≠ b) ∨ (a = b ∧ (s != t) = true ∧ s ≠ t) := by
    by_cases h1 : a = b <;> by_cases h2 : s = t <;> simp_all
  rcases hc with ⟨rfl, rfl⟩ | ⟨n1, n2⟩ | ⟨rfl, n1, n2⟩
  all_goals
    go_enter Tryd.func48, Tryd.ntmps48
    go_wp2
    go_ret
    exact ⟨ret_bool (by simp_all), (by repeat (first | with_reducible exact Gr.refl _ | with_reducible refine Gr.alloc ?_ _ | with_reducible refine Gr.gr ?_ _ _ | with_reducible refine Gr.drew ?_ | with_reducible refine Gr.drewN ?_ _))⟩

theorem isFigure_impl (d t : Int) (w : World) :
    Calls Tryd.prog 35 #[.agg #[.int .i64 d, .int .i64 t]] w fun e w' => e = .returned (.bool (fg d t)) ∧ Gr w w' := by
  have hc : d < 1000 ∨ (1000 ≤ d ∧ 9999 < d) ∨ (1000 ≤ d ∧ d ≤ 9999 ∧ t < -30) ∨ (1000 ≤ d ∧ d ≤ 9999 ∧ -30 ≤ t ∧ 30 < t) ∨ (1000 ≤ d ∧ d ≤ 9999 ∧ -30 ≤ t ∧ t ≤ 30) := by omega
  rcases hc with h | ⟨h, h1⟩ | ⟨h, h1, h2⟩ | ⟨h, h1, h2, h3⟩ | ⟨h, h1, h2, h3⟩
  all_goals
    go_enter Tryd.func35, Tryd.ntmps35
    go_wp2
    go_ret
    exact ⟨ret_bool (by unfold fg; first | exact (decide_eq_true (by omega)).symm | exact (decide_eq_false (by omega)).symm | exact decide_eq_decide.2 ⟨fun _ => by omega, fun _ => by omega⟩), (by repeat (first | with_reducible exact Gr.refl _ | with_reducible refine Gr.alloc ?_ _ | with_reducible refine Gr.gr ?_ _ _ | with_reducible refine Gr.drew ?_ | with_reducible refine Gr.drewN ?_ _))⟩

theorem isFigure_spec (d t : Int) (w : World) :
    Calls Tryd.prog 38 #[.agg #[.int .i64 d, .int .i64 t]] w fun e w' => e = .returned (.bool (fg d t)) ∧ Gr w w' := by
  by_cases h1 : 1000 ≤ d ∧ d ≤ 9999
  all_goals
    have HD := Lib.hid h1
    go_enter Tryd.func38, Tryd.ntmps38
    go_wp2_with (go_at_call 39; refine (in_any _ _ _ _).mono ?_; rintro e w' ⟨rfl, rfl⟩)
    go_ret
    exact ⟨ret_bool (by simp [fg, HD.out]), (by repeat (first | with_reducible exact Gr.refl _ | with_reducible refine Gr.alloc ?_ _ | with_reducible refine Gr.gr ?_ _ _ | with_reducible refine Gr.drew ?_ | with_reducible refine Gr.drewN ?_ _))⟩

end Go.Proofs.YtphebmbapllinaaDoor

/- A figure is equal to itself. -/
namespace Go.Proofs.YtphebmbapllinaaDoor
open Go.RowKit
theorem eqFigure_same (a s : Int) (w : World) :
    Calls Tryd.prog 48 #[.agg #[.int .i64 a, .int .i64 s], .agg #[.int .i64 a, .int .i64 s]] w fun e w' => e = .returned (.bool true) ∧ Gr w w' :=
  (eqFigure_any a s a s w).mono fun e w' ⟨he, h⟩ => ⟨by rw [he]; exact ret_bool (by simp), h⟩
end Go.Proofs.YtphebmbapllinaaDoor

/- Contracts of chapter 2: fractions rounded to a figure. -/
namespace Go.Proofs.YtphebmbapllinaaDoor
open Go.RowKit
set_option linter.unusedVariables false
set_option linter.unusedSimpArgs false

end Go.Proofs.YtphebmbapllinaaDoor

/- Contracts of chapter 2: what the public functions return, in the program and in the model. -/
namespace Go.Proofs.YtphebmbapllinaaDoor
open Go.RowKit
set_option linter.unusedVariables false
set_option linter.unusedSimpArgs false

/-- Two figures: both valid, or the first or the second not. -/
theorem two_cases (a s b t : Int) : ((fg a s && fg b t) = true ∧ fg a s = true ∧ fg b t = true) ∨ ((fg a s && fg b t) = false ∧ (fg a s = false ∨ (fg a s = true ∧ fg b t = false))) := by
  cases fg a s <;> cases fg b t <;> simp

end Go.Proofs.YtphebmbapllinaaDoor
