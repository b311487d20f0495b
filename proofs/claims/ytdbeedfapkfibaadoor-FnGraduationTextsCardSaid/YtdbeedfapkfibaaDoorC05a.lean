/- Contracts of chapter 5: scales, lengths, codes, in the program and in the model. -/
import Derived.Test.YtdbeedfapkfibaaDoor1A
import Derived.Test.YtdbeedfapkfibaaDoorMB
import Derived.Test.YtdbeedfapkfibaaDoorGr
namespace Go.Proofs.YtdbeedfapkfibaaDoor
open Go.RowKit
set_option linter.unusedVariables false
set_option linter.unusedSimpArgs false

theorem ret_bi {a b : Bool} {c d : Int} (h : a = b) (h' : c = d) : Ending.returned (.tuple #[.bool a, .int .i64 c]) = .returned (.tuple #[.bool b, .int .i64 d]) := by rw [h, h']

theorem isScale_spec (s : Int) (w : World) :
    Calls Tryd.prog 92 #[.int .i64 s] w fun e w' => e = .returned (.bool (sc s)) ∧ w = w' := by
  go_enter Tryd.func92, Tryd.ntmps92
  go_wp2_with (go_at_call 65; refine (in_any _ _ _ _).mono ?_; rintro e w' ⟨rfl, rfl⟩)
  go_ret
  exact ⟨by simp [sc], rfl⟩

theorem isScale_impl (s : Int) (w : World) :
    Calls Tryd.prog 89 #[.int .i64 s] w fun e w' => e = .returned (.bool (sc s)) ∧ w = w' := by
  by_cases h1 : 0 ≤ s <;> by_cases h2 : s ≤ 5
  all_goals
    go_enter Tryd.func89, Tryd.ntmps89
    go_wp2
    go_ret
    exact ⟨by simp [sc, h1, h2], rfl⟩

theorem decades_spec (s : Int) (w : World) :
    Calls Tryd.prog 67 #[.int .i64 s] w fun e w' => e = .returned (.int .i64 (dec s)) ∧ w = w' := by
  by_cases h1 : s = 1
  · subst h1
    go_enter Tryd.func67, Tryd.ntmps67
    go_wp2
    go_ret
    exact ⟨rfl, rfl⟩
  · by_cases h2 : s = 2
    · subst h2
      go_enter Tryd.func67, Tryd.ntmps67
      go_wp2
      go_ret
      exact ⟨rfl, rfl⟩
    · go_enter Tryd.func67, Tryd.ntmps67
      go_wp2
      go_ret
      exact ⟨ret_int (by simp [dec, h1, h2]), rfl⟩

theorem isLength_impl (l : Int) (w : World) :
    Calls Tryd.prog 54 #[.int .i64 l] w fun e w' => e = .returned (.bool (ln l)) ∧ w = w' := by
  by_cases h1 : 1 ≤ l <;> by_cases h2 : l ≤ 100000
  all_goals
    go_enter Tryd.func54, Tryd.ntmps54
    go_wp2
    go_ret
    exact ⟨by simp [ln, h1, h2], rfl⟩

theorem isLength_spec (l : Int) (w : World) :
    Calls Tryd.prog 59 #[.int .i64 l] w fun e w' => e = .returned (.bool (ln l)) ∧ w = w' := by
  go_enter Tryd.func59, Tryd.ntmps59
  go_wp2_with (go_at_call 65; refine (in_any _ _ _ _).mono ?_; rintro e w' ⟨rfl, rfl⟩)
  go_ret
  exact ⟨by simp [ln], rfl⟩

end Go.Proofs.YtdbeedfapkfibaaDoor
