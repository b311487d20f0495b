/- Contracts of chapter 5: scales, lengths, codes, in the program and in the model. -/
import Derived.Test.Ytggflladheemoaa1A
import Derived.Test.YtggflladheemoaaMB
import Derived.Test.YtggflladheemoaaGr
namespace Go.Proofs.Ytggflladheemoaa
open Go.RowKit
set_option linter.unusedVariables false
set_option linter.unusedSimpArgs false

theorem ret_bi {a b : Bool} {c d : Int} (h : a = b) (h' : c = d) : Ending.returned (.tuple #[.bool a, .int .i64 c]) = .returned (.tuple #[.bool b, .int .i64 d]) := by rw [h, h']

theorem isScale_spec (s : Int) (w : World) :
    Calls Try.prog 74 #[.int .i64 s] w fun e w' => e = .returned (.bool (sc s)) ∧ w = w' := by
  go_enter Try.func74, Try.ntmps74
  go_wp2_with (go_at_call 49; refine (in_any _ _ _ _).mono ?_; rintro e w' ⟨rfl, rfl⟩)
  go_ret
  exact ⟨by simp [sc], rfl⟩

theorem isLength_spec (l : Int) (w : World) :
    Calls Try.prog 75 #[.int .i64 l] w fun e w' => e = .returned (.bool (ln l)) ∧ w = w' := by
  go_enter Try.func75, Try.ntmps75
  go_wp2_with (go_at_call 49; refine (in_any _ _ _ _).mono ?_; rintro e w' ⟨rfl, rfl⟩)
  go_ret
  exact ⟨by simp [ln], rfl⟩

end Go.Proofs.Ytggflladheemoaa
