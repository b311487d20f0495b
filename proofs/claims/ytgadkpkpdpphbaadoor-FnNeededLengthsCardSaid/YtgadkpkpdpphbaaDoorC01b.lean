/- Contracts of chapter 1: powers of ten and divisors. -/
import Derived.Test.YtgadkpkpdpphbaaDoorC01a
namespace Go.Proofs.YtgadkpkpdpphbaaDoor
open Go.RowKit
set_option linter.unusedVariables false
set_option linter.unusedSimpArgs false

theorem ten_any (n : Int) (w : World) (h1 : 0 ≤ n) (h2 : n ≤ 12) :
    Calls Tryd.prog 69 #[.int .i64 n] w fun e w' => e = .returned (.int .i64 (p10 n.toNat)) ∧ w = w' := by
  obtain ⟨k, rfl⟩ := Int.eq_ofNat_of_zero_le h1
  go_enter Tryd.func69, Tryd.ntmps69
  go_wp2
  go_loop [0, 3] (fun n v => ∃ j : Nat, j ≤ k ∧ n = .int .i64 j ∧ v = .int .i64 (p10 (k - j))) (fun n _ => (intOf n).toNat)
  case atStart => exact ⟨k, by omega, rfl, by simp [p10]⟩
  case round =>
    obtain ⟨j, hj, rfl, rfl⟩ := hrel
    have hb := p10_bd (k - j) (by omega)
    by_cases hlt : 0 < j
    · have HS := Lib.hid (p10_succ (k - j))
      go_wp2
      go_round
      case rel => exact ⟨j - 1, by omega, by congr 1; omega, by rw [show k - (j - 1) = k - j + 1 by omega, HS.out]⟩
      case measure => simp [intOf]; omega
    · go_wp2
      go_ret
      exact ⟨ret_int (by rw [show k - j = k by omega]), rfl⟩

theorem tenTo_any (n : Int) (w : World) (h1 : 0 ≤ n) (h2 : n ≤ 12) :
    Calls Tryd.prog 71 #[.int .i64 n] w fun e w' => e = .returned (.int .i64 (p10 n.toNat)) ∧ w = w' := by
  obtain ⟨k, rfl⟩ := Int.eq_ofNat_of_zero_le h1
  go_enter Tryd.func71, Tryd.ntmps71
  go_wp2
  go_loop [3, 5] (fun v i => ∃ j : Nat, j ≤ k ∧ i = .int .i64 j ∧ v = .int .i64 (p10 j)) (fun _ i => k - (intOf i).toNat)
  case atStart => exact ⟨0, by omega, rfl, rfl⟩
  case round =>
    obtain ⟨j, hj, rfl, rfl⟩ := hrel
    have hb := p10_bd j (by omega)
    by_cases hlt : j < k
    · have HS := Lib.hid (p10_succ j)
      go_wp2
      go_round
      case rel => exact ⟨j + 1, by omega, by go_num, by rw [HS.out, Int.mul_comm]⟩
      case measure => simp [intOf]; omega
    · go_wp2
      go_ret
      exact ⟨ret_int (by rw [show j = k by omega]), rfl⟩

theorem powerOfTen_impl (n : Int) (w : World) :
    Calls Tryd.prog 30 #[.int .i64 n] w fun e w' => e = .returned (.tuple #[.int .i64 (pw n).1, .int .i64 (pw n).2]) ∧ w = w' := by
  by_cases h1 : n < 0
  · have H := Lib.hid (pw_no n (by omega))
    go_enter Tryd.func30, Tryd.ntmps30
    go_wp2
    go_ret2
    exact ⟨ret_two (by rw [H.out]) (by rw [H.out]), rfl⟩
  by_cases h2 : 12 < n
  · have H := Lib.hid (pw_no n (by omega))
    go_enter Tryd.func30, Tryd.ntmps30
    go_wp2
    go_ret2
    exact ⟨ret_two (by rw [H.out]) (by rw [H.out]), rfl⟩
  have H := Lib.hid (pw_ok n (by omega) (by omega))
  go_enter Tryd.func30, Tryd.ntmps30
  go_wp2_with (go_at_call 71; refine (tenTo_any _ _ (by omega) (by omega)).mono ?_; rintro e w' ⟨rfl, rfl⟩)
  go_ret2
  exact ⟨ret_two (by rw [H.out]) (by rw [H.out]), rfl⟩

theorem max_any (a b : Int) (w : World) :
    Calls Tryd.prog 108 #[.int .i64 a, .int .i64 b] w fun e w' => e = .returned (.int .i64 (if a < b then b else a)) ∧ w = w' := by
  by_cases h : a < b
  all_goals
    go_enter Tryd.func108, Tryd.ntmps108
    go_wp2
    go_ret
    exact ⟨by simp [h], rfl⟩
theorem min_any (a b : Int) (w : World) :
    Calls Tryd.prog 107 #[.int .i64 a, .int .i64 b] w fun e w' => e = .returned (.int .i64 (if b < a then b else a)) ∧ w = w' := by
  by_cases h : b < a
  all_goals
    go_enter Tryd.func107, Tryd.ntmps107
    go_wp2
    go_ret
    exact ⟨by simp [h], rfl⟩

theorem abs_any (n : Int) (w : World) (h1 : -4000000000000000000 ≤ n) (h2 : n ≤ 4000000000000000000) :
    Calls Tryd.prog 100 #[.int .i64 n] w fun e w' => e = .returned (.int .i64 n.natAbs) ∧ w = w' := by
  by_cases h : n < 0
  all_goals
    go_enter Tryd.func100, Tryd.ntmps100
    go_wp2
    go_ret
    exact ⟨ret_int (by omega), rfl⟩

end Go.Proofs.YtgadkpkpdpphbaaDoor
