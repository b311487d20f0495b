/- Contracts of chapter 1: powers of ten and divisors. -/
import Derived.Test.YtdgbkdhmabneeabDoorC01a
namespace Go.Proofs.YtdgbkdhmabneeabDoor
open Go.RowKit
set_option linter.unusedVariables false
set_option linter.unusedSimpArgs false

theorem ten_any (n : Int) (w : World) (h1 : 0 ≤ n) (h2 : n ≤ 12) :
    Calls Tryd.prog 32 #[.int .i64 n] w fun e w' => e = .returned (.int .i64 (p10 n.toNat)) ∧ w = w' := by
  obtain ⟨k, rfl⟩ := Int.eq_ofNat_of_zero_le h1
  go_enter Tryd.func32, Tryd.ntmps32
  go_wp2
  go_loop [0, 3] (fun n v => ∃ j : Nat, j ≤ k ∧ n = .int .i64 j ∧ v = .int .i64 (p10 (k - j))) (fun n _ => (intOf n).toNat)
  case atStart => exact ⟨k, by omega, rfl, by simp [p10]⟩
  case round =>
    obtain ⟨j, hj, rfl, rfl⟩ := hrel
    have hb := p10_bd (k - j) (by omega)
    by_cases hlt : 0 < j
    · have HS := Lib.hid (p10_succ (k - j))
      go_wp2
      go_round
      case rel => exact ⟨j - 1, by omega, by congr 1; omega, by rw [show k - (j - 1) = k - j + 1 by omega, HS.out]⟩
      case measure => simp [intOf]; omega
    · go_wp2
      go_ret
      exact ⟨ret_int (by rw [show k - j = k by omega]), rfl⟩

theorem powerOfTen_spec (n : Int) (w : World) :
    Calls Tryd.prog 10 #[.int .i64 n] w fun e w' => e = .returned (.tuple #[.int .i64 (pw n).1, .int .i64 (pw n).2]) ∧ w = w' := by
  by_cases h : 0 ≤ n ∧ n ≤ 12
  · obtain ⟨h1, h2⟩ := h
    have H := Lib.hid (pw_ok n h1 h2)
    go_enter Tryd.func10, Tryd.ntmps10
    go_wp2_with (first | (go_at_call 31; refine (in_any _ _ _ _).mono ?_; rintro e w' ⟨rfl, rfl⟩) | (go_at_call 32; refine (ten_any _ _ h1 h2).mono ?_; rintro e w' ⟨rfl, rfl⟩))
    go_ret2
    exact ⟨ret_two (by rw [H.out]) (by rw [H.out]), rfl⟩
  · have hd : decide (0 ≤ n ∧ n ≤ 12) = false := by simpa using h
    have H := Lib.hid (pw_no n (by omega))
    have HD := Lib.hid hd
    clear h hd
    go_enter Tryd.func10, Tryd.ntmps10
    go_wp2_with (go_at_call 31; refine (in_any _ _ _ _).mono ?_; rw [HD.out]; rintro e w' ⟨rfl, rfl⟩)
    go_ret2
    exact ⟨ret_two (by rw [H.out]) (by rw [H.out]), rfl⟩

theorem tenTo_any (n : Int) (w : World) (h1 : 0 ≤ n) (h2 : n ≤ 12) :
    Calls Tryd.prog 30 #[.int .i64 n] w fun e w' => e = .returned (.int .i64 (p10 n.toNat)) ∧ w = w' := by
  obtain ⟨k, rfl⟩ := Int.eq_ofNat_of_zero_le h1
  go_enter Tryd.func30, Tryd.ntmps30
  go_wp2
  go_loop [3, 5] (fun v i => ∃ j : Nat, j ≤ k ∧ i = .int .i64 j ∧ v = .int .i64 (p10 j)) (fun _ i => k - (intOf i).toNat)
  case atStart => exact ⟨0, by omega, rfl, rfl⟩
  case round =>
    obtain ⟨j, hj, rfl, rfl⟩ := hrel
    have hb := p10_bd j (by omega)
    by_cases hlt : j < k
    · have HS := Lib.hid (p10_succ j)
      go_wp2
      go_round
      case rel => exact ⟨j + 1, by omega, by go_num, by rw [HS.out, Int.mul_comm]⟩
      case measure => simp [intOf]; omega
    · go_wp2
      go_ret
      exact ⟨ret_int (by rw [show j = k by omega]), rfl⟩

theorem powerOfTen_impl (n : Int) (w : World) :
    Calls Tryd.prog 9 #[.int .i64 n] w fun e w' => e = .returned (.tuple #[.int .i64 (pw n).1, .int .i64 (pw n).2]) ∧ w = w' := by
  by_cases h1 : n < 0
  · have H := Lib.hid (pw_no n (by omega))
    go_enter Tryd.func9, Tryd.ntmps9
    go_wp2
    go_ret2
    exact ⟨ret_two (by rw [H.out]) (by rw [H.out]), rfl⟩
  by_cases h2 : 12 < n
  · have H := Lib.hid (pw_no n (by omega))
    go_enter Tryd.func9, Tryd.ntmps9
    go_wp2
    go_ret2
    exact ⟨ret_two (by rw [H.out]) (by rw [H.out]), rfl⟩
  have H := Lib.hid (pw_ok n (by omega) (by omega))
  go_enter Tryd.func9, Tryd.ntmps9
  go_wp2_with (go_at_call 30; refine (tenTo_any _ _ (by omega) (by omega)).mono ?_; rintro e w' ⟨rfl, rfl⟩)
  go_ret2
  exact ⟨ret_two (by rw [H.out]) (by rw [H.out]), rfl⟩

theorem max_any (a b : Int) (w : World) :
    Calls Tryd.prog 39 #[.int .i64 a, .int .i64 b] w fun e w' => e = .returned (.int .i64 (if a < b then b else a)) ∧ w = w' := by
  by_cases h : a < b
  all_goals
    go_enter Tryd.func39, Tryd.ntmps39
    go_wp2
    go_ret
    exact ⟨by simp [h], rfl⟩
theorem min_any (a b : Int) (w : World) :
    Calls Tryd.prog 52 #[.int .i64 a, .int .i64 b] w fun e w' => e = .returned (.int .i64 (if b < a then b else a)) ∧ w = w' := by
  by_cases h : b < a
  all_goals
    go_enter Tryd.func52, Tryd.ntmps52
    go_wp2
    go_ret
    exact ⟨by simp [h], rfl⟩

theorem abs_any (n : Int) (w : World) (h1 : -4000000000000000000 ≤ n) (h2 : n ≤ 4000000000000000000) :
    Calls Tryd.prog 53 #[.int .i64 n] w fun e w' => e = .returned (.int .i64 n.natAbs) ∧ w = w' := by
  by_cases h : n < 0
  all_goals
    go_enter Tryd.func53, Tryd.ntmps53
    go_wp2
    go_ret
    exact ⟨ret_int (by omega), rfl⟩

theorem gcd_spec (a b : Int) (w : World) (a1 : -4000000000000000000 ≤ a) (a2 : a ≤ 4000000000000000000) (b1 : -4000000000000000000 ≤ b) (b2 : b ≤ 4000000000000000000) :
    Calls Tryd.prog 41 #[.int .i64 a, .int .i64 b] w fun e w' => e = .returned (.int .i64 (Nat.gcd a.natAbs b.natAbs)) ∧ ∃ n, w' = w.drewN n := by
  go_enter Tryd.func41, Tryd.ntmps41
  go_wp2_with (go_at_call 53; refine (abs_any _ _ (by omega) (by omega)).mono ?_; rintro e w' ⟨rfl, rfl⟩)
  go_loopw [0, 1] (fun x y wr => ∃ m n : Nat, m ≤ 4000000000000000000 ∧ n ≤ 4000000000000000000 ∧ x = .int .i64 m ∧ y = .int .i64 n ∧ Hid (Nat.gcd m n = Nat.gcd a.natAbs b.natAbs) ∧ ∃ k, wr = w.drewN k) (fun _ y _ => (intOf y).toNat)
  case atStart => exact ⟨a.natAbs, b.natAbs, by omega, by omega, rfl, rfl, Lib.hid rfl, 0, rfl⟩
  case round =>
    obtain ⟨m, n, hm, hn, rfl, rfl, HG, k, rfl⟩ := hrel
    by_cases hlt : n = 0
    · subst hlt
      go_wp2
      go_ret
      exact ⟨ret_int (by rw [← HG.out]; simp), k, rfl⟩
    · have hmod : m % n < n := Nat.mod_lt _ (by omega)
      have hne : ((n : Int) != 0) = true := by simp [hlt]
      go_wp2
      go_quiet (fail)
      go_wp2
      go_roundw
      case rel => exact ⟨n, m % n, by omega, by omega, rfl, by simp, Lib.hid (by rw [← HG.out, Nat.gcd_comm m n, Nat.gcd_rec n m, Nat.gcd_comm]), _, World.drewN_drewN _ _ _⟩
      case measure => simp [intOf]; omega

theorem gcd_impl (a b : Nat) (w : World) (a2 : a ≤ 4000000000000000000) (b2 : b ≤ 4000000000000000000) :
    Calls Tryd.prog 38 #[.int .i64 a, .int .i64 b] w fun e w' => e = .returned (.int .i64 (Nat.gcd a b)) ∧ ∃ n, w' = w.drewN n := by
  have HX := Lib.hid (max_nat a b)
  have HY := Lib.hid (min_nat a b)
  have HG0 := Lib.hid (gcd_maxmin a b)
  have h1 : max a b ≤ 4000000000000000000 := by omega
  have h2 : min a b ≤ 4000000000000000000 := by omega
  generalize max a b = x at *
  generalize min a b = y at *
  go_enter Tryd.func38, Tryd.ntmps38
  go_wp2_with (first | (go_at_call 39; refine (max_any _ _ _).mono ?_; rw [HX.out]; rintro e w' ⟨rfl, rfl⟩) | (go_at_call 52; refine (min_any _ _ _).mono ?_; rw [HY.out]; rintro e w' ⟨rfl, rfl⟩))
  go_loopw [5, 6] (fun x y wr => ∃ m n : Nat, m ≤ 4000000000000000000 ∧ n ≤ 4000000000000000000 ∧ x = .int .i64 m ∧ y = .int .i64 n ∧ Hid (Nat.gcd m n = Nat.gcd a b) ∧ ∃ k, wr = w.drewN k) (fun _ y _ => (intOf y).toNat)
  case atStart => exact ⟨x, y, by omega, by omega, rfl, rfl, HG0, 0, rfl⟩
  case round =>
    obtain ⟨m, n, hm, hn, rfl, rfl, HG, k, rfl⟩ := hrel
    by_cases hlt : n = 0
    · subst hlt
      go_wp2
      go_ret
      exact ⟨ret_int (by rw [← HG.out]; simp), k, rfl⟩
    · have hmod : m % n < n := Nat.mod_lt _ (by omega)
      have hne : 0 < n := by omega
      go_wp2
      go_quiet (fail)
      go_wp2
      go_roundw
      case rel => exact ⟨n, m % n, by omega, by omega, rfl, by simp, Lib.hid (by rw [← HG.out, Nat.gcd_comm m n, Nat.gcd_rec n m, Nat.gcd_comm]), _, World.drewN_drewN _ _ _⟩
      case measure => simp [intOf]; omega
end Go.Proofs.YtdgbkdhmabneeabDoor
