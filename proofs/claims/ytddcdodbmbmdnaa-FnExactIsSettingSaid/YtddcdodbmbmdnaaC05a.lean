/- Contracts of chapter 5: scales, lengths, codes, in the program and in the model. -/
import Derived.Test.Ytddcdodbmbmdnaa1A
import Derived.Test.YtddcdodbmbmdnaaMB
import Derived.Test.YtddcdodbmbmdnaaGr
namespace Go.Proofs.Ytddcdodbmbmdnaa
open Go.RowKit
set_option linter.unusedVariables false
set_option linter.unusedSimpArgs false

theorem ret_bi {a b : Bool} {c d : Int} (h : a = b) (h' : c = d) : Ending.returned (.tuple #[.bool a, .int .i64 c]) = .returned (.tuple #[.bool b, .int .i64 d]) := by rw [h, h']

theorem isScale_spec (s : Int) (w : World) :
    Calls Try.prog 35 #[.int .i64 s] w fun e w' => e = .returned (.bool (sc s)) ∧ w = w' := by
  go_enter Try.func35, Try.ntmps35
  go_wp2_with (go_at_call 23; refine (in_any _ _ _ _).mono ?_; rintro e w' ⟨rfl, rfl⟩)
  go_ret
  exact ⟨by simp [sc], rfl⟩

theorem isScale_impl (s : Int) (w : World) :
    Calls Try.prog 36 #[.int .i64 s] w fun e w' => e = .returned (.bool (sc s)) ∧ w = w' := by
  by_cases h1 : 0 ≤ s <;> by_cases h2 : s ≤ 5
  all_goals
    go_enter Try.func36, Try.ntmps36
    go_wp2
    go_ret
    exact ⟨by simp [sc, h1, h2], rfl⟩

theorem isLength_impl (l : Int) (w : World) :
    Calls Try.prog 20 #[.int .i64 l] w fun e w' => e = .returned (.bool (ln l)) ∧ w = w' := by
  by_cases h1 : 1 ≤ l <;> by_cases h2 : l ≤ 100000
  all_goals
    go_enter Try.func20, Try.ntmps20
    go_wp2
    go_ret
    exact ⟨by simp [ln, h1, h2], rfl⟩

theorem isLength_spec (l : Int) (w : World) :
    Calls Try.prog 17 #[.int .i64 l] w fun e w' => e = .returned (.bool (ln l)) ∧ w = w' := by
  go_enter Try.func17, Try.ntmps17
  go_wp2_with (go_at_call 23; refine (in_any _ _ _ _).mono ?_; rintro e w' ⟨rfl, rfl⟩)
  go_ret
  exact ⟨by simp [ln], rfl⟩

end Go.Proofs.Ytddcdodbmbmdnaa
