/- Plain mathematics, merged. -/
import Derived.Test.YtdbeedfapkfibaaDoor1A
import Derived.Test.YtdbeedfapkfibaaDoorMA
import Derived.Test.YtdbeedfapkfibaaDoorGr
import Derived.Deep.RegionHeld3
import Derived.IntWalk
/- Contracts of chapter 2: figures, in the program, in the model and in the law. -/
namespace Go.Proofs.YtdbeedfapkfibaaDoor
open Go.RowKit
set_option linter.unusedVariables false
set_option linter.unusedSimpArgs false

/-- A figure and a code, as a result. -/
theorem ret_fig {a b c d e f : Int} (h : a = b) (h1 : c = d) (h2 : e = f) : Ending.returned (.tuple #[.agg #[.int .i64 a, .int .i64 c], .int .i64 e]) = .returned (.tuple #[.agg #[.int .i64 b, .int .i64 d], .int .i64 f]) := by rw [h, h1, h2]
theorem ret_agg {a b c d : Int} (h : a = b) (h1 : c = d) : Ending.returned (.agg #[.int .i64 a, .int .i64 c]) = .returned (.agg #[.int .i64 b, .int .i64 d]) := by rw [h, h1]

theorem toFigure_any (d t : Int) (w : World) :
    Calls Tryd.prog 32 #[.agg #[.int .i64 d, .int .i64 t]] w fun e w' => e = .returned (.agg #[.int .i64 d, .int .i64 t]) ∧ Gr w w' := by
  go_enter Tryd.func32, Tryd.ntmps32
  go_wp2
  ((try simp only [Exit.inBlock, Exit.then]); refine bodyPost_ret (v := .agg #[.int .i64 d, .int .i64 t]) (by simp [results, Tryd.results32, go_sem]) rfl ?_)
  exact ⟨rfl, (by repeat (first | with_reducible exact Gr.refl _ | with_reducible refine Gr.alloc ?_ _ | with_reducible refine Gr.gr ?_ _ _ | with_reducible refine Gr.drew ?_ | with_reducible refine Gr.drewN ?_ _))⟩

theorem isFigure_impl (d t : Int) (w : World) :
    Calls Tryd.prog 74 #[.agg #[.int .i64 d, .int .i64 t]] w fun e w' => e = .returned (.bool (fg d t)) ∧ Gr w w' := by
  have hc : d < 1000 ∨ (1000 ≤ d ∧ 9999 < d) ∨ (1000 ≤ d ∧ d ≤ 9999 ∧ t < -30) ∨ (1000 ≤ d ∧ d ≤ 9999 ∧ -30 ≤ t ∧ 30 < t) ∨ (1000 ≤ d ∧ d ≤ 9999 ∧ -30 ≤ t ∧ t ≤ 30) := by omega
  rcases hc with h | ⟨h, h1⟩ | ⟨h, h1, h2⟩ | ⟨h, h1, h2, h3⟩ | ⟨h, h1, h2, h3⟩
  all_goals
    go_enter Tryd.func74, Tryd.ntmps74
    go_wp2
    go_ret
    exact ⟨ret_bool (by unfold fg; first | exact (decide_eq_true (by omega)).symm | exact (decide_eq_false (by omega)).symm | exact decide_eq_decide.2 ⟨fun _ => by omega, fun _ => by omega⟩), (by repeat (first | with_reducible exact Gr.refl _ | with_reducible refine Gr.alloc ?_ _ | with_reducible refine Gr.gr ?_ _ _ | with_reducible refine Gr.drew ?_ | with_reducible refine Gr.drewN ?_ _))⟩

theorem isFigure_spec (d t : Int) (w : World) :
    Calls Tryd.prog 71 #[.agg #[.int .i64 d, .int .i64 t]] w fun e w' => e = .returned (.bool (fg d t)) ∧ Gr w w' := by
  by_cases h1 : 1000 ≤ d ∧ d ≤ 9999
  all_goals
    have HD := Lib.hid h1
    go_enter Tryd.func71, Tryd.ntmps71
    go_wp2_with (go_at_call 65; refine (in_any _ _ _ _).mono ?_; rintro e w' ⟨rfl, rfl⟩)
    go_ret
    exact ⟨ret_bool (by simp [fg, HD.out]), (by repeat (first | with_reducible exact Gr.refl _ | with_reducible refine Gr.alloc ?_ _ | with_reducible refine Gr.gr ?_ _ _ | with_reducible refine Gr.drew ?_ | with_reducible refine Gr.drewN ?_ _))⟩

theorem two_spec (a s b t : Int) (w : World) :
    Calls Tryd.prog 96 #[.agg #[.int .i64 a, .int .i64 s], .agg #[.int .i64 b, .int .i64 t]] w fun e w' => e = .returned (.bool (fg a s && fg b t)) ∧ Gr w w' := by
  have e1 : fg a s = true ∨ fg a s = false := by cases fg a s <;> simp
  rcases e1 with e1 | e1
  all_goals
    go_enter Tryd.func96, Tryd.ntmps96
    go_wp2_with (go_at_call 71; refine (isFigure_spec _ _ _).mono ?_; rintro e w' ⟨rfl, k, os, rfl⟩)
    go_ret
    exact ⟨ret_bool (by simp [e1]), (by repeat (first | with_reducible exact Gr.refl _ | with_reducible refine Gr.alloc ?_ _ | with_reducible refine Gr.gr ?_ _ _ | with_reducible refine Gr.drew ?_ | with_reducible refine Gr.drewN ?_ _))⟩

theorem rank_any (d t : Int) (w : World) (h1 : -1000000000000 ≤ d) (h2 : d ≤ 1000000000000) (h3 : -1000000000000 ≤ t) (h4 : t ≤ 1000000000000) :
    Calls Tryd.prog 153 #[.agg #[.int .i64 d, .int .i64 t]] w fun e w' => e = .returned (.int .i64 (10000 * t + d)) ∧ Gr w w' := by
  go_enter Tryd.func153, Tryd.ntmps153
  go_wp2
  go_ret
  exact ⟨ret_int (by omega), (by repeat (first | with_reducible exact Gr.refl _ | with_reducible refine Gr.alloc ?_ _ | with_reducible refine Gr.gr ?_ _ _ | with_reducible refine Gr.drew ?_ | with_reducible refine Gr.drewN ?_ _))⟩

theorem nan_any (x : Int) (w : World) :
    Calls Tryd.prog 176 #[.int .i64 x] w fun e w' => e = .returned (.bool false) ∧ w = w' := by
  go_enter Tryd.func176, Tryd.ntmps176
  go_wp2
  go_ret
  exact ⟨ret_bool (by simp), rfl⟩

theorem cmp_any (x y : Int) (w : World) :
    Calls Tryd.prog 152 #[.int .i64 x, .int .i64 y] w fun e w' => e = .returned (.int .i64 (cmpI x y)) ∧ w = w' := by
  rcases Int.lt_trichotomy x y with h | h | h
  · have H := Lib.hid (cmpI_lt x y h)
    go_enter Tryd.func152, Tryd.ntmps152
    go_wp2_with (go_at_call 176; refine (nan_any _ _).mono ?_; rintro e w' ⟨rfl, rfl⟩)
    go_ret
    exact ⟨by rw [H.out]; rfl, rfl⟩
  · have H := Lib.hid (cmpI_eq x y h)
    go_enter Tryd.func152, Tryd.ntmps152
    go_wp2_with (go_at_call 176; refine (nan_any _ _).mono ?_; rintro e w' ⟨rfl, rfl⟩)
    go_ret
    exact ⟨by rw [H.out]; rfl, rfl⟩
  · have H := Lib.hid (cmpI_gt x y h)
    go_enter Tryd.func152, Tryd.ntmps152
    go_wp2_with (go_at_call 176; refine (nan_any _ _).mono ?_; rintro e w' ⟨rfl, rfl⟩)
    go_ret
    exact ⟨by rw [H.out]; rfl, rfl⟩

end Go.Proofs.YtdbeedfapkfibaaDoor

/- A figure is equal to itself. -/
namespace Go.Proofs.YtdbeedfapkfibaaDoor
open Go.RowKit
end Go.Proofs.YtdbeedfapkfibaaDoor

/- Contracts of chapter 2: fractions rounded to a figure. -/
namespace Go.Proofs.YtdbeedfapkfibaaDoor
open Go.RowKit
set_option linter.unusedVariables false
set_option linter.unusedSimpArgs false

end Go.Proofs.YtdbeedfapkfibaaDoor

/- Contracts of chapter 2: what the public functions return, in the program and in the model. -/
namespace Go.Proofs.YtdbeedfapkfibaaDoor
open Go.RowKit
set_option linter.unusedVariables false
set_option linter.unusedSimpArgs false

/-- Two figures: both valid, or the first or the second not. -/
theorem two_cases (a s b t : Int) : ((fg a s && fg b t) = true ∧ fg a s = true ∧ fg b t = true) ∨ ((fg a s && fg b t) = false ∧ (fg a s = false ∨ (fg a s = true ∧ fg b t = false))) := by
  cases fg a s <;> cases fg b t <;> simp

end Go.Proofs.YtdbeedfapkfibaaDoor
