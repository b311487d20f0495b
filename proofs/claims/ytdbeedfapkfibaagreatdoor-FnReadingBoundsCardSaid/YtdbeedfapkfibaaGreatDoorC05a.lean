/- Contracts of chapter 5: scales, lengths, codes, in the program and in the model. -/
import Derived.Test.YtdbeedfapkfibaaGreatDoor1A
import Derived.Test.YtdbeedfapkfibaaGreatDoorMB
import Derived.Test.YtdbeedfapkfibaaGreatDoorGr
namespace Go.Proofs.YtdbeedfapkfibaaGreatDoor
open Go.RowKit
set_option linter.unusedVariables false
set_option linter.unusedSimpArgs false

theorem ret_bi {a b : Bool} {c d : Int} (h : a = b) (h' : c = d) : Ending.returned (.tuple #[.bool a, .int .i64 c]) = .returned (.tuple #[.bool b, .int .i64 d]) := by rw [h, h']

theorem isScale_spec (s : Int) (w : World) :
    Calls Tryz.prog 89 #[.int .i64 s] w fun e w' => e = .returned (.bool (sc s)) ∧ w = w' := by
  go_enter Tryz.func89, Tryz.ntmps89
  go_wp2_with (go_at_call 27; refine (in_any _ _ _ _).mono ?_; rintro e w' ⟨rfl, rfl⟩)
  go_ret
  exact ⟨by simp [sc], rfl⟩

theorem isScale_impl (s : Int) (w : World) :
    Calls Tryz.prog 85 #[.int .i64 s] w fun e w' => e = .returned (.bool (sc s)) ∧ w = w' := by
  by_cases h1 : 0 ≤ s <;> by_cases h2 : s ≤ 5
  all_goals
    go_enter Tryz.func85, Tryz.ntmps85
    go_wp2
    go_ret
    exact ⟨by simp [sc, h1, h2], rfl⟩

theorem decades_spec (s : Int) (w : World) :
    Calls Tryz.prog 91 #[.int .i64 s] w fun e w' => e = .returned (.int .i64 (dec s)) ∧ w = w' := by
  by_cases h1 : s = 1
  · subst h1
    go_enter Tryz.func91, Tryz.ntmps91
    go_wp2
    go_ret
    exact ⟨rfl, rfl⟩
  · by_cases h2 : s = 2
    · subst h2
      go_enter Tryz.func91, Tryz.ntmps91
      go_wp2
      go_ret
      exact ⟨rfl, rfl⟩
    · go_enter Tryz.func91, Tryz.ntmps91
      go_wp2
      go_ret
      exact ⟨ret_int (by simp [dec, h1, h2]), rfl⟩

theorem isLength_impl (l : Int) (w : World) :
    Calls Tryz.prog 57 #[.int .i64 l] w fun e w' => e = .returned (.bool (ln l)) ∧ w = w' := by
  by_cases h1 : 1 ≤ l <;> by_cases h2 : l ≤ 100000
  all_goals
    go_enter Tryz.func57, Tryz.ntmps57
    go_wp2
    go_ret
    exact ⟨by simp [ln, h1, h2], rfl⟩

theorem isLength_spec (l : Int) (w : World) :
    Calls Tryz.prog 63 #[.int .i64 l] w fun e w' => e = .returned (.bool (ln l)) ∧ w = w' := by
  go_enter Tryz.func63, Tryz.ntmps63
  go_wp2_with (go_at_call 27; refine (in_any _ _ _ _).mono ?_; rintro e w' ⟨rfl, rfl⟩)
  go_ret
  exact ⟨by simp [ln], rfl⟩

end Go.Proofs.YtdbeedfapkfibaaGreatDoor
