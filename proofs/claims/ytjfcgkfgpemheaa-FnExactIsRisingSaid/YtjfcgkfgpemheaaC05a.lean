/- Contracts of chapter 5: scales, lengths, codes, in the program and in the model. -/
import Derived.Test.YtjfcgkfgpemheaaC01a
import Derived.Test.YtjfcgkfgpemheaaM16
import Derived.Test.YtjfcgkfgpemheaaGr
namespace Go.Proofs.Ytjfcgkfgpemheaa
open Go.RowKit
set_option linter.unusedVariables false
set_option linter.unusedSimpArgs false

theorem ret_bi {a b : Bool} {c d : Int} (h : a = b) (h' : c = d) : Ending.returned (.tuple #[.bool a, .int .i64 c]) = .returned (.tuple #[.bool b, .int .i64 d]) := by rw [h, h']

theorem isScale_spec (s : Int) (w : World) :
    Calls Try.prog 5 #[.int .i64 s] w fun e w' => e = .returned (.bool (sc s)) ∧ w = w' := by
  go_enter Try.func5, Try.ntmps5
  go_wp2_with (go_at_call 9; refine (in_any _ _ _ _).mono ?_; rintro e w' ⟨rfl, rfl⟩)
  go_ret
  exact ⟨by simp [sc], rfl⟩

theorem isScale_impl (s : Int) (w : World) :
    Calls Try.prog 6 #[.int .i64 s] w fun e w' => e = .returned (.bool (sc s)) ∧ w = w' := by
  by_cases h1 : 0 ≤ s <;> by_cases h2 : s ≤ 5
  all_goals
    go_enter Try.func6, Try.ntmps6
    go_wp2
    go_ret
    exact ⟨by simp [sc, h1, h2], rfl⟩

theorem riR_impl (s : Int) (w : World) :
    Calls Try.prog 8 #[.int .i64 s] w fun e w' => e = .returned (.tuple #[.bool (riR s).1, .int .i64 (riR s).2]) ∧ w = w' := by
  rcases sc_tf s with h | h
  · have H := Lib.hid (riR_ok s h)
    have E := Lib.hid h
    clear h
    go_enter Try.func8, Try.ntmps8
    go_wp2_with (go_at_call 6; refine (isScale_impl _ _).mono ?_; rw [E.out]; rintro e w' ⟨rfl, rfl⟩)
    go_ret2
    exact ⟨ret_bi (by rw [H.out]; by_cases h3 : s = 3 <;> simp [h3]) (by rw [H.out]), rfl⟩
  · have H := Lib.hid (riR_no s h)
    have E := Lib.hid h
    clear h
    go_enter Try.func8, Try.ntmps8
    go_wp2_with (go_at_call 6; refine (isScale_impl _ _).mono ?_; rw [E.out]; rintro e w' ⟨rfl, rfl⟩)
    go_ret2
    exact ⟨ret_bi (by rw [H.out]) (by rw [H.out]), rfl⟩

theorem riR_spec (s : Int) (w : World) :
    Calls Try.prog 7 #[.int .i64 s] w fun e w' => e = .returned (.tuple #[.bool (riR s).1, .int .i64 (riR s).2]) ∧ w = w' := by
  rcases sc_tf s with h | h
  · have H := Lib.hid (riR_ok s h)
    have E := Lib.hid h
    clear h
    go_enter Try.func7, Try.ntmps7
    go_wp2_with (go_at_call 5; refine (isScale_spec _ _).mono ?_; rw [E.out]; rintro e w' ⟨rfl, rfl⟩)
    go_ret2
    exact ⟨ret_bi (by rw [H.out]; by_cases h3 : s = 3 <;> simp [h3]) (by rw [H.out]), rfl⟩
  · have H := Lib.hid (riR_no s h)
    have E := Lib.hid h
    clear h
    go_enter Try.func7, Try.ntmps7
    go_wp2_with (go_at_call 5; refine (isScale_spec _ _).mono ?_; rw [E.out]; rintro e w' ⟨rfl, rfl⟩)
    go_ret2
    exact ⟨ret_bi (by rw [H.out]) (by rw [H.out]), rfl⟩

end Go.Proofs.Ytjfcgkfgpemheaa
