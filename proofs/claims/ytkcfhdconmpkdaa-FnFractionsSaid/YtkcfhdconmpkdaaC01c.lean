/- Contracts of chapter 1: what the public functions return, in the program and in the model. -/
import Derived.Test.YtkcfhdconmpkdaaC01b
namespace Go.Proofs.Ytkcfhdconmpkdaa
open Go.RowKit
set_option linter.unusedVariables false
set_option linter.unusedSimpArgs false

theorem ddR_impl (a b : Int) (w : World) :
    Calls Try.prog 11 #[.int .i64 a, .int .i64 b] w fun e w' => e = .returned (.tuple #[.int .i64 (ddR a b).1, .int .i64 (ddR a b).2]) ∧ w = w' := by
  by_cases h : dcode a b = 0
  · have H := Lib.hid h
    have HR := Lib.hid (ddR_ok a b h)
    obtain ⟨⟨a1, a2⟩, ⟨b1, b2⟩, hb⟩ := dcode0 a b h
    clear h
    go_enter Try.func11, Try.ntmps11
    go_wp2_with (first | (go_at_call 25; refine (divisionError_any _ _ _).mono ?_; rw [H.out]; rintro e w' ⟨rfl, rfl⟩) | (go_at_call 26; refine (quotientDown_any _ _ _ (by omega) (by omega) (by omega) (by omega) (by omega)).mono ?_; rintro e w' ⟨rfl, rfl⟩))
    go_ret2
    exact ⟨ret_two (by rw [HR.out]) (by rw [HR.out]), rfl⟩
  · have hne : (dcode a b != 0) = true := by simp [h]
    have HR := Lib.hid (ddR_no a b h)
    go_enter Try.func11, Try.ntmps11
    go_wp2_with (go_at_call 25; refine (divisionError_any _ _ _).mono ?_; rintro e w' ⟨rfl, rfl⟩)
    go_ret2
    exact ⟨ret_two (by rw [HR.out]) (by rw [HR.out]), rfl⟩

theorem ddR_spec (a b : Int) (w : World) :
    Calls Try.prog 12 #[.int .i64 a, .int .i64 b] w fun e w' => e = .returned (.tuple #[.int .i64 (ddR a b).1, .int .i64 (ddR a b).2]) ∧ w = w' := by
  by_cases h : dcode a b = 0
  · have H := Lib.hid h
    have HR := Lib.hid (ddR_ok a b h)
    obtain ⟨⟨a1, a2⟩, ⟨b1, b2⟩, hb⟩ := dcode0 a b h
    clear h
    go_enter Try.func12, Try.ntmps12
    go_wp2_with (first | (go_at_call 27; refine (code_any _ _ _).mono ?_; rw [H.out]; rintro e w' ⟨rfl, rfl⟩) | (go_at_call 28; refine (floor_any _ _ _ (by omega) (by omega) (by omega) (by omega) (by omega)).mono ?_; rintro e w' ⟨rfl, rfl⟩))
    go_ret2
    exact ⟨ret_two (by rw [HR.out]) (by rw [HR.out]), rfl⟩
  · have hne : (dcode a b != 0) = true := by simp [h]
    have HR := Lib.hid (ddR_no a b h)
    go_enter Try.func12, Try.ntmps12
    go_wp2_with (go_at_call 27; refine (code_any _ _ _).mono ?_; rintro e w' ⟨rfl, rfl⟩)
    go_ret2
    exact ⟨ret_two (by rw [HR.out]) (by rw [HR.out]), rfl⟩

theorem duR_impl (a b : Int) (w : World) :
    Calls Try.prog 13 #[.int .i64 a, .int .i64 b] w fun e w' => e = .returned (.tuple #[.int .i64 (duR a b).1, .int .i64 (duR a b).2]) ∧ w = w' := by
  by_cases h : dcode a b = 0
  · have H := Lib.hid h
    have HR := Lib.hid (duR_ok a b h)
    obtain ⟨⟨a1, a2⟩, ⟨b1, b2⟩, hb⟩ := dcode0 a b h
    clear h
    go_enter Try.func13, Try.ntmps13
    go_wp2_with (first | (go_at_call 25; refine (divisionError_any _ _ _).mono ?_; rw [H.out]; rintro e w' ⟨rfl, rfl⟩) | (go_at_call 29; refine (quotientUp_any _ _ _ (by omega) (by omega) (by omega) (by omega) (by omega)).mono ?_; rintro e w' ⟨rfl, rfl⟩))
    go_ret2
    exact ⟨ret_two (by rw [HR.out]) (by rw [HR.out]), rfl⟩
  · have hne : (dcode a b != 0) = true := by simp [h]
    have HR := Lib.hid (duR_no a b h)
    go_enter Try.func13, Try.ntmps13
    go_wp2_with (go_at_call 25; refine (divisionError_any _ _ _).mono ?_; rintro e w' ⟨rfl, rfl⟩)
    go_ret2
    exact ⟨ret_two (by rw [HR.out]) (by rw [HR.out]), rfl⟩

theorem duR_spec (a b : Int) (w : World) :
    Calls Try.prog 14 #[.int .i64 a, .int .i64 b] w fun e w' => e = .returned (.tuple #[.int .i64 (duR a b).1, .int .i64 (duR a b).2]) ∧ w = w' := by
  by_cases h : dcode a b = 0
  · have H := Lib.hid h
    have HR := Lib.hid (duR_ok a b h)
    obtain ⟨⟨a1, a2⟩, ⟨b1, b2⟩, hb⟩ := dcode0 a b h
    clear h
    go_enter Try.func14, Try.ntmps14
    go_wp2_with (first | (go_at_call 27; refine (code_any _ _ _).mono ?_; rw [H.out]; rintro e w' ⟨rfl, rfl⟩) | (go_at_call 30; refine (ceil_any _ _ _ (by omega) (by omega) (by omega) (by omega) (by omega)).mono ?_; rintro e w' ⟨rfl, rfl⟩))
    go_ret2
    exact ⟨ret_two (by rw [HR.out]) (by rw [HR.out]), rfl⟩
  · have hne : (dcode a b != 0) = true := by simp [h]
    have HR := Lib.hid (duR_no a b h)
    go_enter Try.func14, Try.ntmps14
    go_wp2_with (go_at_call 27; refine (code_any _ _ _).mono ?_; rintro e w' ⟨rfl, rfl⟩)
    go_ret2
    exact ⟨ret_two (by rw [HR.out]) (by rw [HR.out]), rfl⟩

theorem dnR_impl (a b : Int) (w : World) :
    Calls Try.prog 15 #[.int .i64 a, .int .i64 b] w fun e w' => e = .returned (.tuple #[.int .i64 (dnR a b).1, .int .i64 (dnR a b).2]) ∧ w = w' := by
  by_cases h : dcode a b = 0
  · have H := Lib.hid h
    have HR := Lib.hid (dnR_ok a b h)
    obtain ⟨⟨a1, a2⟩, ⟨b1, b2⟩, hb⟩ := dcode0 a b h
    clear h
    go_enter Try.func15, Try.ntmps15
    go_wp2_with (first | (go_at_call 25; refine (divisionError_any _ _ _).mono ?_; rw [H.out]; rintro e w' ⟨rfl, rfl⟩) | (go_at_call 31; refine (quotientNear_any _ _ _ (by omega) (by omega) (by omega) (by omega) (by omega)).mono ?_; rintro e w' ⟨rfl, rfl⟩))
    go_ret2
    exact ⟨ret_two (by rw [HR.out]) (by rw [HR.out]), rfl⟩
  · have hne : (dcode a b != 0) = true := by simp [h]
    have HR := Lib.hid (dnR_no a b h)
    go_enter Try.func15, Try.ntmps15
    go_wp2_with (go_at_call 25; refine (divisionError_any _ _ _).mono ?_; rintro e w' ⟨rfl, rfl⟩)
    go_ret2
    exact ⟨ret_two (by rw [HR.out]) (by rw [HR.out]), rfl⟩

theorem dnR_spec (a b : Int) (w : World) :
    Calls Try.prog 16 #[.int .i64 a, .int .i64 b] w fun e w' => e = .returned (.tuple #[.int .i64 (dnR a b).1, .int .i64 (dnR a b).2]) ∧ w = w' := by
  by_cases h : dcode a b = 0
  · have H := Lib.hid h
    have HR := Lib.hid (dnR_ok a b h)
    have HN := Lib.hid (nd_neg a b)
    obtain ⟨⟨a1, a2⟩, ⟨b1, b2⟩, hb⟩ := dcode0 a b h
    clear h
    by_cases hneg : b < 0
    · go_enter Try.func16, Try.ntmps16
      go_wp2_with (first | (go_at_call 27; refine (code_any _ _ _).mono ?_; rw [H.out]; rintro e w' ⟨rfl, rfl⟩) | (go_at_call 32; refine (nearest_any _ _ _ (by omega) (by omega) (by omega) (by omega) (by omega)).mono ?_; rw [HN.out]; rintro e w' ⟨rfl, rfl⟩))
      go_ret2
      exact ⟨ret_two (by rw [HR.out]) (by rw [HR.out]), rfl⟩
    · go_enter Try.func16, Try.ntmps16
      go_wp2_with (first | (go_at_call 27; refine (code_any _ _ _).mono ?_; rw [H.out]; rintro e w' ⟨rfl, rfl⟩) | (go_at_call 32; refine (nearest_any _ _ _ (by omega) (by omega) (by omega) (by omega) (by omega)).mono ?_; rintro e w' ⟨rfl, rfl⟩))
      go_ret2
      exact ⟨ret_two (by rw [HR.out]) (by rw [HR.out]), rfl⟩
  · have hne : (dcode a b != 0) = true := by simp [h]
    have HR := Lib.hid (dnR_no a b h)
    go_enter Try.func16, Try.ntmps16
    go_wp2_with (go_at_call 27; refine (code_any _ _ _).mono ?_; rintro e w' ⟨rfl, rfl⟩)
    go_ret2
    exact ⟨ret_two (by rw [HR.out]) (by rw [HR.out]), rfl⟩

theorem gcR_impl (a b : Int) (w : World) :
    Calls Try.prog 20 #[.int .i64 a, .int .i64 b] w fun e w' => e = .returned (.tuple #[.int .i64 (gcR a b).1, .int .i64 (gcR a b).2]) ∧ ∃ n, w' = w.drewN n := by
  have HA := Lib.hid (abs_max a)
  have HB := Lib.hid (abs_max b)
  by_cases h : (vl a && vl b) = false
  · have HR := Lib.hid (gcR_no a b h)
    by_cases h1 : vl a = true <;> by_cases h2 : vl b = true
    · simp [h1, h2] at h
    all_goals
      clear h
      go_enter Try.func20, Try.ntmps20
      go_wp2_with (go_at_call 37; refine (isValue_any _ _).mono ?_; rintro e w' ⟨rfl, rfl⟩)
      go_ret2
      exact ⟨ret_two (by rw [HR.out]) (by rw [HR.out]), 0, rfl⟩
  · have HR := Lib.hid (gcR_ok a b h)
    have h1 : vl a = true := by cases h : vl a <;> simp_all
    have h2 : vl b = true := by cases h : vl b <;> simp_all
    obtain ⟨a1, a2⟩ := (vl_iff a).1 h1
    obtain ⟨b1, b2⟩ := (vl_iff b).1 h2
    clear h
    go_enter Try.func20, Try.ntmps20
    go_wp2_with (first | (go_at_call 37; refine (isValue_any _ _).mono ?_; rintro e w' ⟨rfl, rfl⟩) | (go_at_call 39; refine (max_any _ _ _).mono ?_; (first | rw [HA.out] | rw [HB.out]); rintro e w' ⟨rfl, rfl⟩) | (go_at_call 38; refine (gcd_impl _ _ _ (by omega) (by omega)).mono ?_; rintro e w' ⟨rfl, n, rfl⟩))
    go_ret2
    exact ⟨ret_two (by rw [HR.out]) (by rw [HR.out]), _, rfl⟩

theorem gcR_spec (a b : Int) (w : World) :
    Calls Try.prog 19 #[.int .i64 a, .int .i64 b] w fun e w' => e = .returned (.tuple #[.int .i64 (gcR a b).1, .int .i64 (gcR a b).2]) ∧ ∃ n, w' = w.drewN n := by
  by_cases h : (vl a && vl b) = false
  · have HR := Lib.hid (gcR_no a b h)
    by_cases h1 : vl a = true <;> by_cases h2 : vl b = true
    · simp [h1, h2] at h
    all_goals
      clear h
      go_enter Try.func19, Try.ntmps19
      go_wp2_with (go_at_call 35; refine (is_any _ _).mono ?_; rintro e w' ⟨rfl, rfl⟩)
      go_ret2
      exact ⟨ret_two (by rw [HR.out]) (by rw [HR.out]), 0, rfl⟩
  · have HR := Lib.hid (gcR_ok a b h)
    have h1 : vl a = true := by cases h : vl a <;> simp_all
    have h2 : vl b = true := by cases h : vl b <;> simp_all
    obtain ⟨a1, a2⟩ := (vl_iff a).1 h1
    obtain ⟨b1, b2⟩ := (vl_iff b).1 h2
    clear h
    go_enter Try.func19, Try.ntmps19
    go_wp2_with (first | (go_at_call 35; refine (is_any _ _).mono ?_; rintro e w' ⟨rfl, rfl⟩) | (go_at_call 36; refine (gcd_spec _ _ _ (by omega) (by omega) (by omega) (by omega)).mono ?_; rintro e w' ⟨rfl, n, rfl⟩))
    go_ret2
    exact ⟨ret_two (by rw [HR.out]) (by rw [HR.out]), _, rfl⟩
end Go.Proofs.Ytkcfhdconmpkdaa
