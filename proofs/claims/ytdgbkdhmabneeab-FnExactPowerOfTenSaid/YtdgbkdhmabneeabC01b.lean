/- Contracts of chapter 1: powers of ten and divisors. -/
import Derived.Test.YtdgbkdhmabneeabC01a
namespace Go.Proofs.Ytdgbkdhmabneeab
open Go.RowKit
set_option linter.unusedVariables false
set_option linter.unusedSimpArgs false

theorem ten_any (n : Int) (w : World) (h1 : 0 ≤ n) (h2 : n ≤ 12) :
    Calls Try.prog 7 #[.int .i64 n] w fun e w' => e = .returned (.int .i64 (p10 n.toNat)) ∧ w = w' := by
  obtain ⟨k, rfl⟩ := Int.eq_ofNat_of_zero_le h1
  go_enter Try.func7, Try.ntmps7
  go_wp2
  go_loop [0, 3] (fun n v => ∃ j : Nat, j ≤ k ∧ n = .int .i64 j ∧ v = .int .i64 (p10 (k - j))) (fun n _ => (intOf n).toNat)
  case atStart => exact ⟨k, by omega, rfl, by simp [p10]⟩
  case round =>
    obtain ⟨j, hj, rfl, rfl⟩ := hrel
    have hb := p10_bd (k - j) (by omega)
    by_cases hlt : 0 < j
    · have HS := Lib.hid (p10_succ (k - j))
      go_wp2
      go_round
      case rel => exact ⟨j - 1, by omega, by congr 1; omega, by rw [show k - (j - 1) = k - j + 1 by omega, HS.out]⟩
      case measure => simp [intOf]; omega
    · go_wp2
      go_ret
      exact ⟨ret_int (by rw [show k - j = k by omega]), rfl⟩

theorem powerOfTen_spec (n : Int) (w : World) :
    Calls Try.prog 4 #[.int .i64 n] w fun e w' => e = .returned (.tuple #[.int .i64 (pw n).1, .int .i64 (pw n).2]) ∧ w = w' := by
  by_cases h : 0 ≤ n ∧ n ≤ 12
  · obtain ⟨h1, h2⟩ := h
    have H := Lib.hid (pw_ok n h1 h2)
    go_enter Try.func4, Try.ntmps4
    go_wp2_with (first | (go_at_call 6; refine (in_any _ _ _ _).mono ?_; rintro e w' ⟨rfl, rfl⟩) | (go_at_call 7; refine (ten_any _ _ h1 h2).mono ?_; rintro e w' ⟨rfl, rfl⟩))
    go_ret2
    exact ⟨ret_two (by rw [H.out]) (by rw [H.out]), rfl⟩
  · have hd : decide (0 ≤ n ∧ n ≤ 12) = false := by simpa using h
    have H := Lib.hid (pw_no n (by omega))
    have HD := Lib.hid hd
    clear h hd
    go_enter Try.func4, Try.ntmps4
    go_wp2_with (go_at_call 6; refine (in_any _ _ _ _).mono ?_; rw [HD.out]; rintro e w' ⟨rfl, rfl⟩)
    go_ret2
    exact ⟨ret_two (by rw [H.out]) (by rw [H.out]), rfl⟩

theorem tenTo_any (n : Int) (w : World) (h1 : 0 ≤ n) (h2 : n ≤ 12) :
    Calls Try.prog 8 #[.int .i64 n] w fun e w' => e = .returned (.int .i64 (p10 n.toNat)) ∧ w = w' := by
  obtain ⟨k, rfl⟩ := Int.eq_ofNat_of_zero_le h1
  go_enter Try.func8, Try.ntmps8
  go_wp2
  go_loop [3, 5] (fun v i => ∃ j : Nat, j ≤ k ∧ i = .int .i64 j ∧ v = .int .i64 (p10 j)) (fun _ i => k - (intOf i).toNat)
  case atStart => exact ⟨0, by omega, rfl, rfl⟩
  case round =>
    obtain ⟨j, hj, rfl, rfl⟩ := hrel
    have hb := p10_bd j (by omega)
    by_cases hlt : j < k
    · have HS := Lib.hid (p10_succ j)
      go_wp2
      go_round
      case rel => exact ⟨j + 1, by omega, by go_num, by rw [HS.out, Int.mul_comm]⟩
      case measure => simp [intOf]; omega
    · go_wp2
      go_ret
      exact ⟨ret_int (by rw [show j = k by omega]), rfl⟩

theorem powerOfTen_impl (n : Int) (w : World) :
    Calls Try.prog 5 #[.int .i64 n] w fun e w' => e = .returned (.tuple #[.int .i64 (pw n).1, .int .i64 (pw n).2]) ∧ w = w' := by
  by_cases h1 : n < 0
  · have H := Lib.hid (pw_no n (by omega))
    go_enter Try.func5, Try.ntmps5
    go_wp2
    go_ret2
    exact ⟨ret_two (by rw [H.out]) (by rw [H.out]), rfl⟩
  by_cases h2 : 12 < n
  · have H := Lib.hid (pw_no n (by omega))
    go_enter Try.func5, Try.ntmps5
    go_wp2
    go_ret2
    exact ⟨ret_two (by rw [H.out]) (by rw [H.out]), rfl⟩
  have H := Lib.hid (pw_ok n (by omega) (by omega))
  go_enter Try.func5, Try.ntmps5
  go_wp2_with (go_at_call 8; refine (tenTo_any _ _ (by omega) (by omega)).mono ?_; rintro e w' ⟨rfl, rfl⟩)
  go_ret2
  exact ⟨ret_two (by rw [H.out]) (by rw [H.out]), rfl⟩

end Go.Proofs.Ytdgbkdhmabneeab
