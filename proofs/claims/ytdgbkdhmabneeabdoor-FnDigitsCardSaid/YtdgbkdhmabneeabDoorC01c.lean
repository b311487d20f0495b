/- Contracts of chapter 1: what the public functions return, in the program and in the model. -/
import Derived.Test.YtdgbkdhmabneeabDoorC01b
namespace Go.Proofs.YtdgbkdhmabneeabDoor
open Go.RowKit
set_option linter.unusedVariables false
set_option linter.unusedSimpArgs false

theorem gcR_impl (a b : Int) (w : World) :
    Calls Tryd.prog 15 #[.int .i64 a, .int .i64 b] w fun e w' => e = .returned (.tuple #[.int .i64 (gcR a b).1, .int .i64 (gcR a b).2]) ∧ ∃ n, w' = w.drewN n := by
  have HA := Lib.hid (abs_max a)
  have HB := Lib.hid (abs_max b)
  by_cases h : (vl a && vl b) = false
  · have HR := Lib.hid (gcR_no a b h)
    by_cases h1 : vl a = true <;> by_cases h2 : vl b = true
    · simp [h1, h2] at h
    all_goals
      clear h
      go_enter Tryd.func15, Tryd.ntmps15
      go_wp2_with (go_at_call 37; refine (isValue_any _ _).mono ?_; rintro e w' ⟨rfl, rfl⟩)
      go_ret2
      exact ⟨ret_two (by rw [HR.out]) (by rw [HR.out]), 0, rfl⟩
  · have HR := Lib.hid (gcR_ok a b h)
    have h1 : vl a = true := by cases h : vl a <;> simp_all
    have h2 : vl b = true := by cases h : vl b <;> simp_all
    obtain ⟨a1, a2⟩ := (vl_iff a).1 h1
    obtain ⟨b1, b2⟩ := (vl_iff b).1 h2
    clear h
    go_enter Tryd.func15, Tryd.ntmps15
    go_wp2_with (first | (go_at_call 37; refine (isValue_any _ _).mono ?_; rintro e w' ⟨rfl, rfl⟩) | (go_at_call 39; refine (max_any _ _ _).mono ?_; (first | rw [HA.out] | rw [HB.out]); rintro e w' ⟨rfl, rfl⟩) | (go_at_call 38; refine (gcd_impl _ _ _ (by omega) (by omega)).mono ?_; rintro e w' ⟨rfl, n, rfl⟩))
    go_ret2
    exact ⟨ret_two (by rw [HR.out]) (by rw [HR.out]), _, rfl⟩

theorem gcR_spec (a b : Int) (w : World) :
    Calls Tryd.prog 16 #[.int .i64 a, .int .i64 b] w fun e w' => e = .returned (.tuple #[.int .i64 (gcR a b).1, .int .i64 (gcR a b).2]) ∧ ∃ n, w' = w.drewN n := by
  by_cases h : (vl a && vl b) = false
  · have HR := Lib.hid (gcR_no a b h)
    by_cases h1 : vl a = true <;> by_cases h2 : vl b = true
    · simp [h1, h2] at h
    all_goals
      clear h
      go_enter Tryd.func16, Tryd.ntmps16
      go_wp2_with (go_at_call 40; refine (is_any _ _).mono ?_; rintro e w' ⟨rfl, rfl⟩)
      go_ret2
      exact ⟨ret_two (by rw [HR.out]) (by rw [HR.out]), 0, rfl⟩
  · have HR := Lib.hid (gcR_ok a b h)
    have h1 : vl a = true := by cases h : vl a <;> simp_all
    have h2 : vl b = true := by cases h : vl b <;> simp_all
    obtain ⟨a1, a2⟩ := (vl_iff a).1 h1
    obtain ⟨b1, b2⟩ := (vl_iff b).1 h2
    clear h
    go_enter Tryd.func16, Tryd.ntmps16
    go_wp2_with (first | (go_at_call 40; refine (is_any _ _).mono ?_; rintro e w' ⟨rfl, rfl⟩) | (go_at_call 41; refine (gcd_spec _ _ _ (by omega) (by omega) (by omega) (by omega)).mono ?_; rintro e w' ⟨rfl, n, rfl⟩))
    go_ret2
    exact ⟨ret_two (by rw [HR.out]) (by rw [HR.out]), _, rfl⟩
end Go.Proofs.YtdgbkdhmabneeabDoor
