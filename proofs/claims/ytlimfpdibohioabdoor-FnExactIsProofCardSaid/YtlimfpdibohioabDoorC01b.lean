/- Contracts of chapter 1: powers of ten and divisors. -/
import Derived.Test.YtlimfpdibohioabDoorC01a
namespace Go.Proofs.YtlimfpdibohioabDoor
open Go.RowKit
set_option linter.unusedVariables false
set_option linter.unusedSimpArgs false

theorem max_any (a b : Int) (w : World) :
    Calls Tryd.prog 70 #[.int .i64 a, .int .i64 b] w fun e w' => e = .returned (.int .i64 (if a < b then b else a)) ∧ w = w' := by
  by_cases h : a < b
  all_goals
    go_enter Tryd.func70, Tryd.ntmps70
    go_wp2
    go_ret
    exact ⟨by simp [h], rfl⟩
theorem areDigits_any (d : Int) (w : World) :
    Calls Tryd.prog 57 #[.int .i64 d] w fun e w' => e = .returned (.bool (decide (1000 ≤ d ∧ d ≤ 9999))) ∧ w = w' := by
  by_cases h1 : 1000 ≤ d <;> by_cases h2 : d ≤ 9999
  all_goals
    go_enter Tryd.func57, Tryd.ntmps57
    go_wp2
    go_ret
    exact ⟨ret_bool (by simp [h1, h2]), rfl⟩
theorem i64_bd {z : Int} (hw : (Lit.int .i64 z).wf = true) : -9223372036854775808 ≤ z ∧ z ≤ 9223372036854775807 := by
  simp only [Lit.wf, Bool.and_eq_true, decide_eq_true_eq] at hw
  have h1 : (-9223372036854775808 : Int) ≤ z := hw.1
  have h2 : z ≤ (9223372036854775807 : Int) := hw.2
  omega
end Go.Proofs.YtlimfpdibohioabDoor
