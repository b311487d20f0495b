/- Contracts of chapter 5: scales, lengths, codes, in the program and in the model. -/
import Derived.Test.YtefhhigcplemaaaGreatDoor1A
import Derived.Test.YtefhhigcplemaaaGreatDoorMB
import Derived.Test.YtefhhigcplemaaaGreatDoorGr
namespace Go.Proofs.YtefhhigcplemaaaGreatDoor
open Go.RowKit
set_option linter.unusedVariables false
set_option linter.unusedSimpArgs false

theorem ret_bi {a b : Bool} {c d : Int} (h : a = b) (h' : c = d) : Ending.returned (.tuple #[.bool a, .int .i64 c]) = .returned (.tuple #[.bool b, .int .i64 d]) := by rw [h, h']

theorem isScale_spec (s : Int) (w : World) :
    Calls Tryz.prog 187 #[.int .i64 s] w fun e w' => e = .returned (.bool (sc s)) ∧ w = w' := by
  go_enter Tryz.func187, Tryz.ntmps187
  go_wp2_with (go_at_call 144; refine (in_any _ _ _ _).mono ?_; rintro e w' ⟨rfl, rfl⟩)
  go_ret
  exact ⟨by simp [sc], rfl⟩

theorem isScale_impl (s : Int) (w : World) :
    Calls Tryz.prog 155 #[.int .i64 s] w fun e w' => e = .returned (.bool (sc s)) ∧ w = w' := by
  by_cases h1 : 0 ≤ s <;> by_cases h2 : s ≤ 5
  all_goals
    go_enter Tryz.func155, Tryz.ntmps155
    go_wp2
    go_ret
    exact ⟨by simp [sc, h1, h2], rfl⟩

theorem isLength_impl (l : Int) (w : World) :
    Calls Tryz.prog 105 #[.int .i64 l] w fun e w' => e = .returned (.bool (ln l)) ∧ w = w' := by
  by_cases h1 : 1 ≤ l <;> by_cases h2 : l ≤ 100000
  all_goals
    go_enter Tryz.func105, Tryz.ntmps105
    go_wp2
    go_ret
    exact ⟨by simp [ln, h1, h2], rfl⟩

theorem isLength_spec (l : Int) (w : World) :
    Calls Tryz.prog 146 #[.int .i64 l] w fun e w' => e = .returned (.bool (ln l)) ∧ w = w' := by
  go_enter Tryz.func146, Tryz.ntmps146
  go_wp2_with (go_at_call 144; refine (in_any _ _ _ _).mono ?_; rintro e w' ⟨rfl, rfl⟩)
  go_ret
  exact ⟨by simp [ln], rfl⟩

theorem remainder_any (a b : Int) (w : World) (a1 : -1000000000000 ≤ a) (a2 : a ≤ 1000000000000) (b1 : 1 ≤ b) (b2 : b ≤ 1000000) :
    Calls Tryz.prog 270 #[.int .i64 a, .int .i64 b] w fun e w' => e = .returned (.int .i64 (a % b)) ∧ w = w' := by
  have e1 : a.fdiv b * b = a - a % b := by
    rw [Int.fdiv_eq_ediv_of_nonneg _ (by omega), Int.mul_comm]
    have := Int.mul_ediv_add_emod a b
    omega
  have m1 := Int.emod_nonneg a (show b ≠ 0 by omega)
  have m2 := Int.emod_lt_of_pos a (show 0 < b by omega)
  have e2 : a - a.fdiv b * b = a % b := by omega
  have k1 : -1000002000000 ≤ a.fdiv b * b := by omega
  have k2 : a.fdiv b * b ≤ 1000002000000 := by omega
  have E2 := Lib.hid e2
  clear e1 e2
  go_enter Tryz.func270, Tryz.ntmps270
  go_wp2_with (go_at_call 157; refine (quotientDown_any _ _ _ (by omega) (by omega) (by omega) (by omega) (by omega)).mono ?_; rintro e w' ⟨rfl, rfl⟩)
  go_ret
  exact ⟨ret_int (by rw [E2.out]), rfl⟩
end Go.Proofs.YtefhhigcplemaaaGreatDoor
