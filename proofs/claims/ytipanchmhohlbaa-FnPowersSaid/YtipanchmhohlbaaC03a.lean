/- Contracts of chapter 3: intervals, in the program, in the model and in the law. -/
import Derived.Test.YtipanchmhohlbaaC02a
import Derived.Test.YtipanchmhohlbaaM05
import Derived.IntWalk
namespace Go.Proofs.Ytipanchmhohlbaa
open Go.RowKit
set_option linter.unusedVariables false
set_option linter.unusedSimpArgs false

theorem toInterval_any (a b : Int) (w : World) :
    Calls Try.prog 44 #[.agg #[.int .i64 a, .int .i64 b]] w fun e w' => e = .returned (.agg #[.int .i64 a, .int .i64 b]) ∧ Gr w w' := by
  go_enter Try.func44, Try.ntmps44
  go_wp2
  ((try simp only [Exit.inBlock, Exit.then]); refine bodyPost_ret (v := .agg #[.int .i64 a, .int .i64 b]) (by simp [results, Try.results44, go_sem]) rfl ?_)
  exact ⟨rfl, (by repeat (first | with_reducible exact Gr.refl _ | with_reducible refine Gr.alloc ?_ _ | with_reducible refine Gr.gr ?_ _ _ | with_reducible refine Gr.drew ?_ | with_reducible refine Gr.drewN ?_ _))⟩

theorem isInterval_impl (l h : Int) (w : World) :
    Calls Try.prog 73 #[.agg #[.int .i64 l, .int .i64 h]] w fun e w' => e = .returned (.bool (iv l h)) ∧ Gr w w' := by
  rcases iv_cases l h with ⟨h1, h2, h3, h4⟩ | ⟨h1, h2, h3, h4⟩ | ⟨h1, h2, h4⟩ | ⟨h1, h4⟩
  all_goals
    have H := Lib.hid h4
    clear h4
    go_enter Try.func73, Try.ntmps73
    go_wp2_with (go_at_call 98; refine (isValue_any _ _).mono ?_; rintro e w' ⟨rfl, rfl⟩)
    go_ret
    exact ⟨ret_bool (by first | (rw [H.out]; done) | (rw [H.out]; simp_all)), (by repeat (first | with_reducible exact Gr.refl _ | with_reducible refine Gr.alloc ?_ _ | with_reducible refine Gr.gr ?_ _ _ | with_reducible refine Gr.drew ?_ | with_reducible refine Gr.drewN ?_ _))⟩

theorem isInterval_spec (l h : Int) (w : World) :
    Calls Try.prog 74 #[.agg #[.int .i64 l, .int .i64 h]] w fun e w' => e = .returned (.bool (iv l h)) ∧ Gr w w' := by
  rcases iv_cases l h with ⟨h1, h2, h3, h4⟩ | ⟨h1, h2, h3, h4⟩ | ⟨h1, h2, h4⟩ | ⟨h1, h4⟩
  all_goals
    have H := Lib.hid h4
    clear h4
    go_enter Try.func74, Try.ntmps74
    go_wp2_with (go_at_call 99; refine (is_any _ _).mono ?_; rintro e w' ⟨rfl, rfl⟩)
    go_ret
    exact ⟨ret_bool (by first | (rw [H.out]; done) | (rw [H.out]; simp_all)), (by repeat (first | with_reducible exact Gr.refl _ | with_reducible refine Gr.alloc ?_ _ | with_reducible refine Gr.gr ?_ _ _ | with_reducible refine Gr.drew ?_ | with_reducible refine Gr.drewN ?_ _))⟩

theorem plus_any (a b c d : Int) (w : World) (a1 : -2000000000000000000 ≤ a) (a2 : a ≤ 2000000000000000000) (b1 : -2000000000000000000 ≤ b) (b2 : b ≤ 2000000000000000000) (c1 : -2000000000000000000 ≤ c) (c2 : c ≤ 2000000000000000000) (d1 : -2000000000000000000 ≤ d) (d2 : d ≤ 2000000000000000000) :
    Calls Try.prog 64 #[.agg #[.int .i64 a, .int .i64 b], .agg #[.int .i64 c, .int .i64 d]] w fun e w' => e = .returned (.agg #[.int .i64 (a + c), .int .i64 (b + d)]) ∧ Gr w w' := by
  go_enter Try.func64, Try.ntmps64
  go_wp2
  ((try simp only [Exit.inBlock, Exit.then]); refine bodyPost_ret (v := .agg #[.int .i64 (a + c), .int .i64 (b + d)]) (by simp [results, Try.results64, go_sem]) rfl ?_)
  exact ⟨rfl, (by repeat (first | with_reducible exact Gr.refl _ | with_reducible refine Gr.alloc ?_ _ | with_reducible refine Gr.gr ?_ _ _ | with_reducible refine Gr.drew ?_ | with_reducible refine Gr.drewN ?_ _))⟩

theorem add_spec (a b c d : Int) (w : World) (a1 : -2000000000000000000 ≤ a) (a2 : a ≤ 2000000000000000000) (b1 : -2000000000000000000 ≤ b) (b2 : b ≤ 2000000000000000000) (c1 : -2000000000000000000 ≤ c) (c2 : c ≤ 2000000000000000000) (d1 : -2000000000000000000 ≤ d) (d2 : d ≤ 2000000000000000000) :
    Calls Try.prog 67 #[.agg #[.int .i64 a, .int .i64 b], .agg #[.int .i64 c, .int .i64 d]] w fun e w' => e = .returned (.agg #[.int .i64 (a + c), .int .i64 (b + d)]) ∧ Gr w w' := by
  go_enter Try.func67, Try.ntmps67
  go_wp2
  ((try simp only [Exit.inBlock, Exit.then]); refine bodyPost_ret (v := .agg #[.int .i64 (a + c), .int .i64 (b + d)]) (by simp [results, Try.results67, go_sem]) rfl ?_)
  exact ⟨rfl, (by repeat (first | with_reducible exact Gr.refl _ | with_reducible refine Gr.alloc ?_ _ | with_reducible refine Gr.gr ?_ _ _ | with_reducible refine Gr.drew ?_ | with_reducible refine Gr.drewN ?_ _))⟩

theorem sub_spec (a b c d : Int) (w : World) (a1 : -2000000000000000000 ≤ a) (a2 : a ≤ 2000000000000000000) (b1 : -2000000000000000000 ≤ b) (b2 : b ≤ 2000000000000000000) (c1 : -2000000000000000000 ≤ c) (c2 : c ≤ 2000000000000000000) (d1 : -2000000000000000000 ≤ d) (d2 : d ≤ 2000000000000000000) :
    Calls Try.prog 70 #[.agg #[.int .i64 a, .int .i64 b], .agg #[.int .i64 c, .int .i64 d]] w fun e w' => e = .returned (.agg #[.int .i64 (a - d), .int .i64 (b - c)]) ∧ Gr w w' := by
  go_enter Try.func70, Try.ntmps70
  go_wp2
  ((try simp only [Exit.inBlock, Exit.then]); refine bodyPost_ret (v := .agg #[.int .i64 (a - d), .int .i64 (b - c)]) (by simp [results, Try.results70, go_sem]) rfl ?_)
  exact ⟨rfl, (by repeat (first | with_reducible exact Gr.refl _ | with_reducible refine Gr.alloc ?_ _ | with_reducible refine Gr.gr ?_ _ _ | with_reducible refine Gr.drew ?_ | with_reducible refine Gr.drewN ?_ _))⟩

theorem mul_lim (a n : Int) (a1 : -1000000000000 ≤ a) (a2 : a ≤ 1000000000000) (n1 : -12 ≤ n) (n2 : n ≤ 12) : -12000000000000 ≤ a * n ∧ a * n ≤ 12000000000000 := by
  have hn : n = -12 ∨ n = -11 ∨ n = -10 ∨ n = -9 ∨ n = -8 ∨ n = -7 ∨ n = -6 ∨ n = -5 ∨ n = -4 ∨ n = -3 ∨ n = -2 ∨ n = -1 ∨ n = 0 ∨ n = 1 ∨ n = 2 ∨ n = 3 ∨ n = 4 ∨ n = 5 ∨ n = 6 ∨ n = 7 ∨ n = 8 ∨ n = 9 ∨ n = 10 ∨ n = 11 ∨ n = 12 := by omega
  rcases hn with h | h | h | h | h | h | h | h | h | h | h | h | h | h | h | h | h | h | h | h | h | h | h | h | h <;> subst h <;> omega

/-- The bounds of an interval times n, in the order of numbers. -/
def tms (a b n : Int) : Int × Int := if n < 0 then (b * n, a * n) else (a * n, b * n)
theorem tms_neg (a b n : Int) (h : n < 0) : tms a b n = (b * n, a * n) := if_pos h
theorem tms_pos (a b n : Int) (h : 0 ≤ n) : tms a b n = (a * n, b * n) := if_neg (by omega)

theorem times_any (a b n : Int) (w : World) (a1 : -1000000000000 ≤ a) (a2 : a ≤ 1000000000000) (b1 : -1000000000000 ≤ b) (b2 : b ≤ 1000000000000) (n1 : -12 ≤ n) (n2 : n ≤ 12) :
    Calls Try.prog 69 #[.agg #[.int .i64 a, .int .i64 b], .int .i64 n] w fun e w' => e = .returned (.agg #[.int .i64 (tms a b n).1, .int .i64 (tms a b n).2]) ∧ Gr w w' := by
  have p := mul_lim a n a1 a2 n1 n2
  have q := mul_lim b n b1 b2 n1 n2
  by_cases h : n < 0
  · have H := Lib.hid (tms_neg a b n h)
    go_enter Try.func69, Try.ntmps69
    go_wp2
    ((try simp only [Exit.inBlock, Exit.then]); refine bodyPost_ret (v := .agg #[.int .i64 (b * n), .int .i64 (a * n)]) (by simp [results, Try.results69, go_sem]) rfl ?_)
    exact ⟨ret_agg (by rw [H.out]) (by rw [H.out]), (by repeat (first | with_reducible exact Gr.refl _ | with_reducible refine Gr.alloc ?_ _ | with_reducible refine Gr.gr ?_ _ _ | with_reducible refine Gr.drew ?_ | with_reducible refine Gr.drewN ?_ _))⟩
  · have H := Lib.hid (tms_pos a b n (by omega))
    go_enter Try.func69, Try.ntmps69
    go_wp2
    ((try simp only [Exit.inBlock, Exit.then]); refine bodyPost_ret (v := .agg #[.int .i64 (a * n), .int .i64 (b * n)]) (by simp [results, Try.results69, go_sem]) rfl ?_)
    exact ⟨ret_agg (by rw [H.out]) (by rw [H.out]), (by repeat (first | with_reducible exact Gr.refl _ | with_reducible refine Gr.alloc ?_ _ | with_reducible refine Gr.gr ?_ _ _ | with_reducible refine Gr.drew ?_ | with_reducible refine Gr.drewN ?_ _))⟩

theorem limited_any (l h : Int) (w : World) :
    Calls Try.prog 101 #[.agg #[.int .i64 l, .int .i64 h]] w fun e w' => e = .returned (.tuple #[.agg #[.int .i64 (rsi l h).1.1, .int .i64 (rsi l h).1.2], .int .i64 (rsi l h).2]) ∧ Gr w w' := by
  have e1 : iv l h = true ∨ iv l h = false := by cases iv l h <;> simp
  rcases e1 with e1 | e1
  · have H := Lib.hid (rsi_ok l h e1)
    have E := Lib.hid e1
    clear e1
    go_enter Try.func101, Try.ntmps101
    go_wp2_with (go_at_call 73; refine (isInterval_impl _ _ _).mono ?_; rw [E.out]; rintro e w' ⟨rfl, k, os, rfl⟩)
    ((try simp only [Exit.inBlock, Exit.then]); refine bodyPost_ret (v := .tuple #[.agg #[.int .i64 l, .int .i64 h], .int .i64 0]) (by simp [results, Try.results101, go_sem]) rfl ?_)
    exact ⟨ret_fig (by rw [H.out]) (by rw [H.out]) (by rw [H.out]), (by repeat (first | with_reducible exact Gr.refl _ | with_reducible refine Gr.alloc ?_ _ | with_reducible refine Gr.gr ?_ _ _ | with_reducible refine Gr.drew ?_ | with_reducible refine Gr.drewN ?_ _))⟩
  · have H := Lib.hid (rsi_no l h e1)
    have E := Lib.hid e1
    clear e1
    go_enter Try.func101, Try.ntmps101
    go_wp2_with (go_at_call 73; refine (isInterval_impl _ _ _).mono ?_; rw [E.out]; rintro e w' ⟨rfl, k, os, rfl⟩)
    ((try simp only [Exit.inBlock, Exit.then]); refine bodyPost_ret (v := .tuple #[.agg #[.int .i64 0, .int .i64 0], .int .i64 3]) (by simp [results, Try.results101, go_sem]) rfl ?_)
    exact ⟨ret_fig (by rw [H.out]) (by rw [H.out]) (by rw [H.out]), (by repeat (first | with_reducible exact Gr.refl _ | with_reducible refine Gr.alloc ?_ _ | with_reducible refine Gr.gr ?_ _ _ | with_reducible refine Gr.drew ?_ | with_reducible refine Gr.drewN ?_ _))⟩

theorem resulti_spec (l h : Int) (w : World) :
    Calls Try.prog 102 #[.agg #[.int .i64 l, .int .i64 h]] w fun e w' => e = .returned (.tuple #[.agg #[.int .i64 (rsi l h).1.1, .int .i64 (rsi l h).1.2], .int .i64 (rsi l h).2]) ∧ Gr w w' := by
  have e1 : iv l h = true ∨ iv l h = false := by cases iv l h <;> simp
  rcases e1 with e1 | e1
  · have H := Lib.hid (rsi_ok l h e1)
    have E := Lib.hid e1
    clear e1
    go_enter Try.func102, Try.ntmps102
    go_wp2_with (go_at_call 74; refine (isInterval_spec _ _ _).mono ?_; rw [E.out]; rintro e w' ⟨rfl, k, os, rfl⟩)
    ((try simp only [Exit.inBlock, Exit.then]); refine bodyPost_ret (v := .tuple #[.agg #[.int .i64 l, .int .i64 h], .int .i64 0]) (by simp [results, Try.results102, go_sem]) rfl ?_)
    exact ⟨ret_fig (by rw [H.out]) (by rw [H.out]) (by rw [H.out]), (by repeat (first | with_reducible exact Gr.refl _ | with_reducible refine Gr.alloc ?_ _ | with_reducible refine Gr.gr ?_ _ _ | with_reducible refine Gr.drew ?_ | with_reducible refine Gr.drewN ?_ _))⟩
  · have H := Lib.hid (rsi_no l h e1)
    have E := Lib.hid e1
    clear e1
    go_enter Try.func102, Try.ntmps102
    go_wp2_with (go_at_call 74; refine (isInterval_spec _ _ _).mono ?_; rw [E.out]; rintro e w' ⟨rfl, k, os, rfl⟩)
    ((try simp only [Exit.inBlock, Exit.then]); refine bodyPost_ret (v := .tuple #[.agg #[.int .i64 0, .int .i64 0], .int .i64 3]) (by simp [results, Try.results102, go_sem]) rfl ?_)
    exact ⟨ret_fig (by rw [H.out]) (by rw [H.out]) (by rw [H.out]), (by repeat (first | with_reducible exact Gr.refl _ | with_reducible refine Gr.alloc ?_ _ | with_reducible refine Gr.gr ?_ _ _ | with_reducible refine Gr.drew ?_ | with_reducible refine Gr.drewN ?_ _))⟩
end Go.Proofs.Ytipanchmhohlbaa
