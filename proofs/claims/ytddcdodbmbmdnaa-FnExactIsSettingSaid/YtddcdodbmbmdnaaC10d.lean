/- Contracts of chapter 10: units of errors, the digits that can be read, needed lengths; the program's table of decades is laid. -/
import Derived.Test.YtddcdodbmbmdnaaC10b
import Derived.Test.YtddcdodbmbmdnaaC05c
import Derived.Test.Ytddcdodbmbmdnaa1A
namespace Go.Proofs.Ytddcdodbmbmdnaa
open Go.RowKit Go.Shelf
set_option linter.unusedVariables false
set_option linter.unusedSimpArgs false

theorem logScale_impl (s : Int) (w : World) :
    Calls Try.prog 31 #[.int .i64 s] w fun e w' => e = .returned (.bool (lsc s)) ∧ w = w' := by
  have HS := Lib.hid (fun W => isScale_impl s W)
  have HR := Lib.hid (show lsc s = (sc s && decide (s ≠ 5)) from rfl)
  generalize lsc s = R at *
  generalize sc s = x at *
  by_cases h5 : s = 5
  · subst h5
    cases x
    all_goals
      go_enter Try.func31, Try.ntmps31
      go_wp2_with (go_at_call 36; refine (HS.out _).mono ?_; rintro e w' ⟨rfl, rfl⟩)
      go_ret
      exact ⟨ret_bool (by rw [HR.out]; rfl), rfl⟩
  · cases x
    all_goals
      go_enter Try.func31, Try.ntmps31
      go_wp2_with (go_at_call 36; refine (HS.out _).mono ?_; rintro e w' ⟨rfl, rfl⟩)
      go_ret
      exact ⟨ret_bool (by rw [HR.out]; simp [h5]), rfl⟩
theorem logScale_spec (s : Int) (w : World) :
    Calls Try.prog 30 #[.int .i64 s] w fun e w' => e = .returned (.bool (lsc s)) ∧ w = w' := by
  have HS := Lib.hid (fun W => isScale_spec s W)
  have HR := Lib.hid (show lsc s = (sc s && decide (s ≠ 5)) from rfl)
  generalize lsc s = R at *
  generalize sc s = x at *
  by_cases h5 : s = 5
  · subst h5
    cases x
    all_goals
      go_enter Try.func30, Try.ntmps30
      go_wp2_with (go_at_call 35; refine (HS.out _).mono ?_; rintro e w' ⟨rfl, rfl⟩)
      go_ret
      exact ⟨ret_bool (by rw [HR.out]; rfl), rfl⟩
  · cases x
    all_goals
      go_enter Try.func30, Try.ntmps30
      go_wp2_with (go_at_call 35; refine (HS.out _).mono ?_; rintro e w' ⟨rfl, rfl⟩)
      go_ret
      exact ⟨ret_bool (by rw [HR.out]; simp [h5]), rfl⟩

end Go.Proofs.Ytddcdodbmbmdnaa
