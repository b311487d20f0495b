/- Plain mathematics, merged. -/
import Derived.Test.Ytphebmbapllinaa2A
import Derived.Test.YtphebmbapllinaaMA
import Derived.IntWalk
import Derived.Deep.RegionHeld3
import Derived.RangeFuncNested
import Derived.RangeFuncFrom
import Derived.RangeFuncBound
import Derived.RangeFuncCalls
import Derived.RangeFuncLeaves
import Derived.Shelf.Abstract
import Derived.Shelf.RegionOpen
import Derived.WalkKit
import Derived.OwnWalkIn
import Derived.TacticsInMore
import Derived.LoopNIn
import Derived.LoopIn
/- Contracts of chapter 3: intervals, in the program, in the model and in the law. -/
namespace Go.Proofs.Ytphebmbapllinaa
open Go.RowKit
set_option linter.unusedVariables false
set_option linter.unusedSimpArgs false

theorem eqInterval_any (a s b t : Int) (w : World) :
    Calls Try.prog 39 #[.agg #[.int .i64 a, .int .i64 s], .agg #[.int .i64 b, .int .i64 t]] w fun e w' => e = .returned (.bool (decide (a = b ∧ s = t))) ∧ Gr w w' := by
  have hc : (a = b ∧ s = t) ∨ ((a != b) = true ∧ a ≠ b) ∨ (a = b ∧ (s != t) = true ∧ s ≠ t) := by
    by_cases h1 : a = b <;> by_cases h2 : s = t <;> simp_all
  rcases hc with ⟨rfl, rfl⟩ | ⟨n1, n2⟩ | ⟨rfl, n1, n2⟩
  all_goals
    go_enter Try.func39, Try.ntmps39
    go_wp2
    go_ret
    exact ⟨ret_bool (by simp_all), (by repeat (first | with_reducible exact Gr.refl _ | with_reducible refine Gr.alloc ?_ _ | with_reducible refine Gr.gr ?_ _ _ | with_reducible refine Gr.drew ?_ | with_reducible refine Gr.drewN ?_ _))⟩

theorem eqInterval_same (a s : Int) (w : World) :
    Calls Try.prog 39 #[.agg #[.int .i64 a, .int .i64 s], .agg #[.int .i64 a, .int .i64 s]] w fun e w' => e = .returned (.bool true) ∧ Gr w w' :=
  (eqInterval_any a s a s w).mono fun e w' ⟨he, h⟩ => ⟨by rw [he]; exact ret_bool (by simp), h⟩

theorem isInterval_impl (l h : Int) (w : World) :
    Calls Try.prog 61 #[.agg #[.int .i64 l, .int .i64 h]] w fun e w' => e = .returned (.bool (iv l h)) ∧ Gr w w' := by
  rcases iv_cases l h with ⟨h1, h2, h3, h4⟩ | ⟨h1, h2, h3, h4⟩ | ⟨h1, h2, h4⟩ | ⟨h1, h4⟩
  all_goals
    have H := Lib.hid h4
    clear h4
    go_enter Try.func61, Try.ntmps61
    go_wp2_with (go_at_call 91; refine (isValue_any _ _).mono ?_; rintro e w' ⟨rfl, rfl⟩)
    go_ret
    exact ⟨ret_bool (by first | (rw [H.out]; done) | (rw [H.out]; simp_all)), (by repeat (first | with_reducible exact Gr.refl _ | with_reducible refine Gr.alloc ?_ _ | with_reducible refine Gr.gr ?_ _ _ | with_reducible refine Gr.drew ?_ | with_reducible refine Gr.drewN ?_ _))⟩

theorem plus_any (a b c d : Int) (w : World) (a1 : -2000000000000000000 ≤ a) (a2 : a ≤ 2000000000000000000) (b1 : -2000000000000000000 ≤ b) (b2 : b ≤ 2000000000000000000) (c1 : -2000000000000000000 ≤ c) (c2 : c ≤ 2000000000000000000) (d1 : -2000000000000000000 ≤ d) (d2 : d ≤ 2000000000000000000) :
    Calls Try.prog 62 #[.agg #[.int .i64 a, .int .i64 b], .agg #[.int .i64 c, .int .i64 d]] w fun e w' => e = .returned (.agg #[.int .i64 (a + c), .int .i64 (b + d)]) ∧ Gr w w' := by
  go_enter Try.func62, Try.ntmps62
  go_wp2
  ((try simp only [Exit.inBlock, Exit.then]); refine bodyPost_ret (v := .agg #[.int .i64 (a + c), .int .i64 (b + d)]) (by simp [results, Try.results62, go_sem]) rfl ?_)
  exact ⟨rfl, (by repeat (first | with_reducible exact Gr.refl _ | with_reducible refine Gr.alloc ?_ _ | with_reducible refine Gr.gr ?_ _ _ | with_reducible refine Gr.drew ?_ | with_reducible refine Gr.drewN ?_ _))⟩

theorem add_spec (a b c d : Int) (w : World) (a1 : -2000000000000000000 ≤ a) (a2 : a ≤ 2000000000000000000) (b1 : -2000000000000000000 ≤ b) (b2 : b ≤ 2000000000000000000) (c1 : -2000000000000000000 ≤ c) (c2 : c ≤ 2000000000000000000) (d1 : -2000000000000000000 ≤ d) (d2 : d ≤ 2000000000000000000) :
    Calls Try.prog 78 #[.agg #[.int .i64 a, .int .i64 b], .agg #[.int .i64 c, .int .i64 d]] w fun e w' => e = .returned (.agg #[.int .i64 (a + c), .int .i64 (b + d)]) ∧ Gr w w' := by
  go_enter Try.func78, Try.ntmps78
  go_wp2
  ((try simp only [Exit.inBlock, Exit.then]); refine bodyPost_ret (v := .agg #[.int .i64 (a + c), .int .i64 (b + d)]) (by simp [results, Try.results78, go_sem]) rfl ?_)
  exact ⟨rfl, (by repeat (first | with_reducible exact Gr.refl _ | with_reducible refine Gr.alloc ?_ _ | with_reducible refine Gr.gr ?_ _ _ | with_reducible refine Gr.drew ?_ | with_reducible refine Gr.drewN ?_ _))⟩

theorem sub_spec (a b c d : Int) (w : World) (a1 : -2000000000000000000 ≤ a) (a2 : a ≤ 2000000000000000000) (b1 : -2000000000000000000 ≤ b) (b2 : b ≤ 2000000000000000000) (c1 : -2000000000000000000 ≤ c) (c2 : c ≤ 2000000000000000000) (d1 : -2000000000000000000 ≤ d) (d2 : d ≤ 2000000000000000000) :
    Calls Try.prog 77 #[.agg #[.int .i64 a, .int .i64 b], .agg #[.int .i64 c, .int .i64 d]] w fun e w' => e = .returned (.agg #[.int .i64 (a - d), .int .i64 (b - c)]) ∧ Gr w w' := by
  go_enter Try.func77, Try.ntmps77
  go_wp2
  ((try simp only [Exit.inBlock, Exit.then]); refine bodyPost_ret (v := .agg #[.int .i64 (a - d), .int .i64 (b - c)]) (by simp [results, Try.results77, go_sem]) rfl ?_)
  exact ⟨rfl, (by repeat (first | with_reducible exact Gr.refl _ | with_reducible refine Gr.alloc ?_ _ | with_reducible refine Gr.gr ?_ _ _ | with_reducible refine Gr.drew ?_ | with_reducible refine Gr.drewN ?_ _))⟩

theorem mul_lim (a n : Int) (a1 : -1000000000000 ≤ a) (a2 : a ≤ 1000000000000) (n1 : -12 ≤ n) (n2 : n ≤ 12) : -12000000000000 ≤ a * n ∧ a * n ≤ 12000000000000 := by
  have hn : n = -12 ∨ n = -11 ∨ n = -10 ∨ n = -9 ∨ n = -8 ∨ n = -7 ∨ n = -6 ∨ n = -5 ∨ n = -4 ∨ n = -3 ∨ n = -2 ∨ n = -1 ∨ n = 0 ∨ n = 1 ∨ n = 2 ∨ n = 3 ∨ n = 4 ∨ n = 5 ∨ n = 6 ∨ n = 7 ∨ n = 8 ∨ n = 9 ∨ n = 10 ∨ n = 11 ∨ n = 12 := by omega
  rcases hn with h | h | h | h | h | h | h | h | h | h | h | h | h | h | h | h | h | h | h | h | h | h | h | h | h <;> subst h <;> omega

/-- The bounds of an interval times n, in the order of numbers. -/
def tms (a b n : Int) : Int × Int := if n < 0 then (b * n, a * n) else (a * n, b * n)
theorem tms_neg (a b n : Int) (h : n < 0) : tms a b n = (b * n, a * n) := if_pos h
theorem tms_pos (a b n : Int) (h : 0 ≤ n) : tms a b n = (a * n, b * n) := if_neg (by omega)

theorem times_any (a b n : Int) (w : World) (a1 : -1000000000000 ≤ a) (a2 : a ≤ 1000000000000) (b1 : -1000000000000 ≤ b) (b2 : b ≤ 1000000000000) (n1 : -12 ≤ n) (n2 : n ≤ 12) :
    Calls Try.prog 92 #[.agg #[.int .i64 a, .int .i64 b], .int .i64 n] w fun e w' => e = .returned (.agg #[.int .i64 (tms a b n).1, .int .i64 (tms a b n).2]) ∧ Gr w w' := by
  have p := mul_lim a n a1 a2 n1 n2
  have q := mul_lim b n b1 b2 n1 n2
  by_cases h : n < 0
  · have H := Lib.hid (tms_neg a b n h)
    go_enter Try.func92, Try.ntmps92
    go_wp2
    ((try simp only [Exit.inBlock, Exit.then]); refine bodyPost_ret (v := .agg #[.int .i64 (b * n), .int .i64 (a * n)]) (by simp [results, Try.results92, go_sem]) rfl ?_)
    exact ⟨ret_agg (by rw [H.out]) (by rw [H.out]), (by repeat (first | with_reducible exact Gr.refl _ | with_reducible refine Gr.alloc ?_ _ | with_reducible refine Gr.gr ?_ _ _ | with_reducible refine Gr.drew ?_ | with_reducible refine Gr.drewN ?_ _))⟩
  · have H := Lib.hid (tms_pos a b n (by omega))
    go_enter Try.func92, Try.ntmps92
    go_wp2
    ((try simp only [Exit.inBlock, Exit.then]); refine bodyPost_ret (v := .agg #[.int .i64 (a * n), .int .i64 (b * n)]) (by simp [results, Try.results92, go_sem]) rfl ?_)
    exact ⟨ret_agg (by rw [H.out]) (by rw [H.out]), (by repeat (first | with_reducible exact Gr.refl _ | with_reducible refine Gr.alloc ?_ _ | with_reducible refine Gr.gr ?_ _ _ | with_reducible refine Gr.drew ?_ | with_reducible refine Gr.drewN ?_ _))⟩

theorem times_gen (a b n : Int) (w : World) (p1 : -2000000000000000000 ≤ a * n) (p2 : a * n ≤ 2000000000000000000) (q1 : -2000000000000000000 ≤ b * n) (q2 : b * n ≤ 2000000000000000000) (a1 : -1000000000000 ≤ a) (a2 : a ≤ 1000000000000) (b1 : -1000000000000 ≤ b) (b2 : b ≤ 1000000000000) (n1 : -1000000 ≤ n) (n2 : n ≤ 1000000) :
    Calls Try.prog 92 #[.agg #[.int .i64 a, .int .i64 b], .int .i64 n] w fun e w' => e = .returned (.agg #[.int .i64 (tms a b n).1, .int .i64 (tms a b n).2]) ∧ Gr w w' := by
  by_cases h : n < 0
  · have H := Lib.hid (tms_neg a b n h)
    go_enter Try.func92, Try.ntmps92
    go_wp2
    ((try simp only [Exit.inBlock, Exit.then]); refine bodyPost_ret (v := .agg #[.int .i64 (b * n), .int .i64 (a * n)]) (by simp [results, Try.results92, go_sem]) rfl ?_)
    exact ⟨ret_agg (by rw [H.out]) (by rw [H.out]), (by repeat (first | with_reducible exact Gr.refl _ | with_reducible refine Gr.alloc ?_ _ | with_reducible refine Gr.gr ?_ _ _ | with_reducible refine Gr.drew ?_ | with_reducible refine Gr.drewN ?_ _))⟩
  · have H := Lib.hid (tms_pos a b n (by omega))
    go_enter Try.func92, Try.ntmps92
    go_wp2
    ((try simp only [Exit.inBlock, Exit.then]); refine bodyPost_ret (v := .agg #[.int .i64 (a * n), .int .i64 (b * n)]) (by simp [results, Try.results92, go_sem]) rfl ?_)
    exact ⟨ret_agg (by rw [H.out]) (by rw [H.out]), (by repeat (first | with_reducible exact Gr.refl _ | with_reducible refine Gr.alloc ?_ _ | with_reducible refine Gr.gr ?_ _ _ | with_reducible refine Gr.drew ?_ | with_reducible refine Gr.drewN ?_ _))⟩

theorem tms_one (a b : Int) : (tms a b (-1)).1 = -b ∧ (tms a b (-1)).2 = -a := by
  rw [tms_neg a b (-1) (by omega)]
  exact ⟨by simp, by simp⟩

theorem minus_any (a b c d : Int) (w : World) (a1 : -1000000000000 ≤ a) (a2 : a ≤ 1000000000000) (b1 : -1000000000000 ≤ b) (b2 : b ≤ 1000000000000) (c1 : -1000000000000 ≤ c) (c2 : c ≤ 1000000000000) (d1 : -1000000000000 ≤ d) (d2 : d ≤ 1000000000000) :
    Calls Try.prog 64 #[.agg #[.int .i64 a, .int .i64 b], .agg #[.int .i64 c, .int .i64 d]] w fun e w' => e = .returned (.agg #[.int .i64 (a - d), .int .i64 (b - c)]) ∧ Gr w w' := by
  have T1 := Lib.hid (tms_one c d).1
  have T2 := Lib.hid (tms_one c d).2
  go_enter Try.func64, Try.ntmps64
  go_wp2_with fail
  go_region_held3 (fun w' => w'.cell? ⟨w.heap.size, 0, none⟩ = some (.int .i64 a) ∧ w'.cell? ⟨w.heap.size, 1, none⟩ = some (.int .i64 b) ∧ w'.cell? ⟨w.heap.size + 1, 0, none⟩ = some (.int .i64 c) ∧ w'.cell? ⟨w.heap.size + 1, 1, none⟩ = some (.int .i64 d)) (go_simp) (first
    | (go_at_call 92; refine (times_any _ _ _ _ (by omega) (by omega) (by omega) (by omega) (by omega) (by omega)).mono ?_; rw [T1.out, T2.out]; rintro e w' ⟨rfl, k, os, rfl⟩)
    | (go_at_call 62; refine (plus_any _ _ _ _ _ (by omega) (by omega) (by omega) (by omega) (by omega) (by omega) (by omega) (by omega)).mono ?_; rintro e w' ⟨rfl, k, os, rfl⟩))
  all_goals
    go_wp2
    ((try simp only [Exit.inBlock, Exit.then]); refine bodyPost_ret (v := .agg #[.int .i64 (a + -d), .int .i64 (b + -c)]) (by simp [results, Try.results64, go_sem]) rfl ?_)
    exact ⟨rfl, (by repeat (first | with_reducible exact Gr.refl _ | with_reducible refine Gr.alloc ?_ _ | with_reducible refine Gr.gr ?_ _ _ | with_reducible refine Gr.drew ?_ | with_reducible refine Gr.drewN ?_ _))⟩

theorem moved_any (a b n : Int) (w : World) (a1 : -1000000000000000 ≤ a) (a2 : a ≤ 1000000000000000) (b1 : -1000000000000000 ≤ b) (b2 : b ≤ 1000000000000000) (n1 : -1000000000000000 ≤ n) (n2 : n ≤ 1000000000000000) :
    Calls Try.prog 100 #[.agg #[.int .i64 a, .int .i64 b], .int .i64 n] w fun e w' => e = .returned (.agg #[.int .i64 (a + n), .int .i64 (b + n)]) ∧ Gr w w' := by
  go_enter Try.func100, Try.ntmps100
  go_wp2
  ((try simp only [Exit.inBlock, Exit.then]); refine bodyPost_ret (v := .agg #[.int .i64 (a + n), .int .i64 (b + n)]) (by simp [results, Try.results100, go_sem]) rfl ?_)
  exact ⟨rfl, (by repeat (first | with_reducible exact Gr.refl _ | with_reducible refine Gr.alloc ?_ _ | with_reducible refine Gr.gr ?_ _ _ | with_reducible refine Gr.drew ?_ | with_reducible refine Gr.drewN ?_ _))⟩

theorem limited_any (l h : Int) (w : World) :
    Calls Try.prog 63 #[.agg #[.int .i64 l, .int .i64 h]] w fun e w' => e = .returned (.tuple #[.agg #[.int .i64 (rsi l h).1.1, .int .i64 (rsi l h).1.2], .int .i64 (rsi l h).2]) ∧ Gr w w' := by
  have e1 : iv l h = true ∨ iv l h = false := by cases iv l h <;> simp
  rcases e1 with e1 | e1
  · have H := Lib.hid (rsi_ok l h e1)
    have E := Lib.hid e1
    clear e1
    go_enter Try.func63, Try.ntmps63
    go_wp2_with (go_at_call 61; refine (isInterval_impl _ _ _).mono ?_; rw [E.out]; rintro e w' ⟨rfl, k, os, rfl⟩)
    ((try simp only [Exit.inBlock, Exit.then]); refine bodyPost_ret (v := .tuple #[.agg #[.int .i64 l, .int .i64 h], .int .i64 0]) (by simp [results, Try.results63, go_sem]) rfl ?_)
    exact ⟨ret_fig (by rw [H.out]) (by rw [H.out]) (by rw [H.out]), (by repeat (first | with_reducible exact Gr.refl _ | with_reducible refine Gr.alloc ?_ _ | with_reducible refine Gr.gr ?_ _ _ | with_reducible refine Gr.drew ?_ | with_reducible refine Gr.drewN ?_ _))⟩
  · have H := Lib.hid (rsi_no l h e1)
    have E := Lib.hid e1
    clear e1
    go_enter Try.func63, Try.ntmps63
    go_wp2_with (go_at_call 61; refine (isInterval_impl _ _ _).mono ?_; rw [E.out]; rintro e w' ⟨rfl, k, os, rfl⟩)
    ((try simp only [Exit.inBlock, Exit.then]); refine bodyPost_ret (v := .tuple #[.agg #[.int .i64 0, .int .i64 0], .int .i64 3]) (by simp [results, Try.results63, go_sem]) rfl ?_)
    exact ⟨ret_fig (by rw [H.out]) (by rw [H.out]) (by rw [H.out]), (by repeat (first | with_reducible exact Gr.refl _ | with_reducible refine Gr.alloc ?_ _ | with_reducible refine Gr.gr ?_ _ _ | with_reducible refine Gr.drew ?_ | with_reducible refine Gr.drewN ?_ _))⟩

end Go.Proofs.Ytphebmbapllinaa

/- Contracts of chapter 3: what the public functions of intervals return, in the program and in the model. -/
namespace Go.Proofs.Ytphebmbapllinaa
open Go.RowKit
set_option linter.unusedVariables false
set_option linter.unusedSimpArgs false

theorem iv_two (a b c d : Int) : ((iv a b && iv c d) = true ∧ iv a b = true ∧ iv c d = true) ∨ ((iv a b && iv c d) = false ∧ (iv a b = false ∨ (iv a b = true ∧ iv c d = false))) := by
  cases iv a b <;> cases iv c d <;> simp

theorem adR_impl (a b c d : Int) (w : World) :
    Calls Try.prog 32 #[.agg #[.int .i64 a, .int .i64 b], .agg #[.int .i64 c, .int .i64 d]] w fun e w' => e = .returned (.tuple #[.agg #[.int .i64 (adR a b c d).1.1, .int .i64 (adR a b c d).1.2], .int .i64 (adR a b c d).2]) ∧ Gr w w' := by
  rcases iv_two a b c d with ⟨h0, h1, h2⟩ | ⟨h0, h1 | ⟨h1, h2⟩⟩
  · obtain ⟨⟨a1, a2⟩, ⟨b1, b2⟩, -⟩ := (iv_iff a b).1 h1
    obtain ⟨⟨c1, c2⟩, ⟨d1, d2⟩, -⟩ := (iv_iff c d).1 h2
    have H := Lib.hid (adR_ok a b c d h0)
    have E1 := Lib.hid h1
    have E2 := Lib.hid h2
    clear h0 h1 h2
    go_enter Try.func32, Try.ntmps32
    go_wp2_with (first
      | (go_at_call 61; refine (isInterval_impl _ _ _).mono ?_; (first | rw [E1.out] | rw [E2.out]); rintro e w' ⟨rfl, k, os, rfl⟩)
      | (go_at_call 62; refine (plus_any _ _ _ _ _ (by omega) (by omega) (by omega) (by omega) (by omega) (by omega) (by omega) (by omega)).mono ?_; rintro e w' ⟨rfl, k, os, rfl⟩)
      | (go_at_call 63; refine (limited_any _ _ _).mono ?_; rintro e w' ⟨rfl, k, os, rfl⟩))
    ((try simp only [Exit.inBlock, Exit.then]); refine bodyPost_ret (v := .tuple #[.agg #[.int .i64 (rsi (a + c) (b + d)).1.1, .int .i64 (rsi (a + c) (b + d)).1.2], .int .i64 (rsi (a + c) (b + d)).2]) (by simp [results, Try.results32, go_sem]) rfl ?_)
    exact ⟨ret_fig (by rw [H.out]) (by rw [H.out]) (by rw [H.out]), (by repeat (first | with_reducible exact Gr.refl _ | with_reducible refine Gr.alloc ?_ _ | with_reducible refine Gr.gr ?_ _ _ | with_reducible refine Gr.drew ?_ | with_reducible refine Gr.drewN ?_ _))⟩
  · have H := Lib.hid (adR_no a b c d h0)
    have E1 := Lib.hid h1
    clear h0 h1
    go_enter Try.func32, Try.ntmps32
    go_wp2_with (go_at_call 61; refine (isInterval_impl _ _ _).mono ?_; rw [E1.out]; rintro e w' ⟨rfl, k, os, rfl⟩)
    ((try simp only [Exit.inBlock, Exit.then]); refine bodyPost_ret (v := .tuple #[.agg #[.int .i64 0, .int .i64 0], .int .i64 1]) (by simp [results, Try.results32, go_sem]) rfl ?_)
    exact ⟨ret_fig (by rw [H.out]) (by rw [H.out]) (by rw [H.out]), (by repeat (first | with_reducible exact Gr.refl _ | with_reducible refine Gr.alloc ?_ _ | with_reducible refine Gr.gr ?_ _ _ | with_reducible refine Gr.drew ?_ | with_reducible refine Gr.drewN ?_ _))⟩
  · have H := Lib.hid (adR_no a b c d h0)
    have E1 := Lib.hid h1
    have E2 := Lib.hid h2
    clear h0 h1 h2
    go_enter Try.func32, Try.ntmps32
    go_wp2_with (go_at_call 61; refine (isInterval_impl _ _ _).mono ?_; (first | rw [E1.out] | rw [E2.out]); rintro e w' ⟨rfl, k, os, rfl⟩)
    ((try simp only [Exit.inBlock, Exit.then]); refine bodyPost_ret (v := .tuple #[.agg #[.int .i64 0, .int .i64 0], .int .i64 1]) (by simp [results, Try.results32, go_sem]) rfl ?_)
    exact ⟨ret_fig (by rw [H.out]) (by rw [H.out]) (by rw [H.out]), (by repeat (first | with_reducible exact Gr.refl _ | with_reducible refine Gr.alloc ?_ _ | with_reducible refine Gr.gr ?_ _ _ | with_reducible refine Gr.drew ?_ | with_reducible refine Gr.drewN ?_ _))⟩

theorem suR_impl (a b c d : Int) (w : World) :
    Calls Try.prog 33 #[.agg #[.int .i64 a, .int .i64 b], .agg #[.int .i64 c, .int .i64 d]] w fun e w' => e = .returned (.tuple #[.agg #[.int .i64 (suR a b c d).1.1, .int .i64 (suR a b c d).1.2], .int .i64 (suR a b c d).2]) ∧ Gr w w' := by
  rcases iv_two a b c d with ⟨h0, h1, h2⟩ | ⟨h0, h1 | ⟨h1, h2⟩⟩
  · obtain ⟨⟨a1, a2⟩, ⟨b1, b2⟩, -⟩ := (iv_iff a b).1 h1
    obtain ⟨⟨c1, c2⟩, ⟨d1, d2⟩, -⟩ := (iv_iff c d).1 h2
    have H := Lib.hid (suR_ok a b c d h0)
    have E1 := Lib.hid h1
    have E2 := Lib.hid h2
    clear h0 h1 h2
    go_enter Try.func33, Try.ntmps33
    go_wp2_with (first
      | (go_at_call 61; refine (isInterval_impl _ _ _).mono ?_; (first | rw [E1.out] | rw [E2.out]); rintro e w' ⟨rfl, k, os, rfl⟩)
      | (go_at_call 64; refine (minus_any _ _ _ _ _ (by omega) (by omega) (by omega) (by omega) (by omega) (by omega) (by omega) (by omega)).mono ?_; rintro e w' ⟨rfl, k, os, rfl⟩)
      | (go_at_call 63; refine (limited_any _ _ _).mono ?_; rintro e w' ⟨rfl, k, os, rfl⟩))
    ((try simp only [Exit.inBlock, Exit.then]); refine bodyPost_ret (v := .tuple #[.agg #[.int .i64 (rsi (a - d) (b - c)).1.1, .int .i64 (rsi (a - d) (b - c)).1.2], .int .i64 (rsi (a - d) (b - c)).2]) (by simp [results, Try.results33, go_sem]) rfl ?_)
    exact ⟨ret_fig (by rw [H.out]) (by rw [H.out]) (by rw [H.out]), (by repeat (first | with_reducible exact Gr.refl _ | with_reducible refine Gr.alloc ?_ _ | with_reducible refine Gr.gr ?_ _ _ | with_reducible refine Gr.drew ?_ | with_reducible refine Gr.drewN ?_ _))⟩
  · have H := Lib.hid (suR_no a b c d h0)
    have E1 := Lib.hid h1
    clear h0 h1
    go_enter Try.func33, Try.ntmps33
    go_wp2_with (go_at_call 61; refine (isInterval_impl _ _ _).mono ?_; rw [E1.out]; rintro e w' ⟨rfl, k, os, rfl⟩)
    ((try simp only [Exit.inBlock, Exit.then]); refine bodyPost_ret (v := .tuple #[.agg #[.int .i64 0, .int .i64 0], .int .i64 1]) (by simp [results, Try.results33, go_sem]) rfl ?_)
    exact ⟨ret_fig (by rw [H.out]) (by rw [H.out]) (by rw [H.out]), (by repeat (first | with_reducible exact Gr.refl _ | with_reducible refine Gr.alloc ?_ _ | with_reducible refine Gr.gr ?_ _ _ | with_reducible refine Gr.drew ?_ | with_reducible refine Gr.drewN ?_ _))⟩
  · have H := Lib.hid (suR_no a b c d h0)
    have E1 := Lib.hid h1
    have E2 := Lib.hid h2
    clear h0 h1 h2
    go_enter Try.func33, Try.ntmps33
    go_wp2_with (go_at_call 61; refine (isInterval_impl _ _ _).mono ?_; (first | rw [E1.out] | rw [E2.out]); rintro e w' ⟨rfl, k, os, rfl⟩)
    ((try simp only [Exit.inBlock, Exit.then]); refine bodyPost_ret (v := .tuple #[.agg #[.int .i64 0, .int .i64 0], .int .i64 1]) (by simp [results, Try.results33, go_sem]) rfl ?_)
    exact ⟨ret_fig (by rw [H.out]) (by rw [H.out]) (by rw [H.out]), (by repeat (first | with_reducible exact Gr.refl _ | with_reducible refine Gr.alloc ?_ _ | with_reducible refine Gr.gr ?_ _ _ | with_reducible refine Gr.drew ?_ | with_reducible refine Gr.drewN ?_ _))⟩

theorem ret_three {a b c d e f : Int} (h : a = d) (h' : b = e) (h'' : c = f) : Ending.returned (.tuple #[.int .i64 a, .int .i64 b, .int .i64 c]) = .returned (.tuple #[.int .i64 d, .int .i64 e, .int .i64 f]) := by rw [h, h', h'']

theorem mod_spec (a m : Int) (w : World) (a1 : -1000000000000000 ≤ a) (a2 : a ≤ 1000000000000000) (m1 : 1 ≤ m) (m2 : m ≤ 1000000000000000) :
    Calls Try.prog 116 #[.int .i64 a, .int .i64 m] w fun e w' => e = .returned (.int .i64 (a % m)) ∧ Gr w w' := by
  obtain ⟨t1, t2, t3, t4⟩ := mod_bds a m m1
  by_cases h : 0 ≤ a
  all_goals
    go_enter Try.func116, Try.ntmps116
    go_wp2
    go_ret
    exact ⟨ret_int (by first | exact mod_1 a m | exact mod_2 a m | exact tmod_emod' a m | exact Int.emod_emod _ _), (by repeat (first | with_reducible exact Gr.refl _ | with_reducible refine Gr.alloc ?_ _ | with_reducible refine Gr.gr ?_ _ _ | with_reducible refine Gr.drew ?_ | with_reducible refine Gr.drewN ?_ _))⟩

end Go.Proofs.Ytphebmbapllinaa

/- Contracts of chapter 3: an interval times a fraction. -/
namespace Go.Proofs.Ytphebmbapllinaa
open Go.RowKit
set_option linter.unusedVariables false
set_option linter.unusedSimpArgs false

theorem scl_bd (a b n d : Int) (a1 : -1000000000000 ≤ a) (a2 : a ≤ 1000000000000) (b1 : -1000000000000 ≤ b) (b2 : b ≤ 1000000000000) (n1 : -12 ≤ n) (n2 : n ≤ 12) :
    -12000000000000 ≤ (tms a b n).1 ∧ (tms a b n).1 ≤ 12000000000000 ∧ -12000000000000 ≤ (tms a b n).2 ∧ (tms a b n).2 ≤ 12000000000000 := by
  have p := mul_lim a n a1 a2 n1 n2
  have q := mul_lim b n b1 b2 n1 n2
  by_cases h : n < 0
  · rw [tms_neg a b n h]; simp only; omega
  · rw [tms_pos a b n (by omega)]; simp only; omega
theorem scl_tms (a b n d : Int) : scl a b n d = ((tms a b n).1.fdiv d, cd (tms a b n).2 d) := by
  by_cases h : n < 0
  · rw [tms_neg a b n h, scl_neg a b n d h]
  · rw [tms_pos a b n (by omega), scl_pos a b n d (by omega)]

theorem sc_cases (a b n d : Int) : (iv a b = false) ∨ (iv a b = true ∧ (n < -12 ∨ (-12 ≤ n ∧ 12 < n) ∨ (-12 ≤ n ∧ n ≤ 12 ∧ d < 1) ∨ (-12 ≤ n ∧ n ≤ 12 ∧ 1 ≤ d ∧ 12 < d)) ∧ ¬ ((-12 ≤ n ∧ n ≤ 12) ∧ (1 ≤ d ∧ d ≤ 12))) ∨ (iv a b = true ∧ (-12 ≤ n ∧ n ≤ 12) ∧ (1 ≤ d ∧ d ≤ 12)) := by
  cases h : iv a b
  · exact .inl rfl
  · right
    by_cases hc : (-12 ≤ n ∧ n ≤ 12) ∧ (1 ≤ d ∧ d ≤ 12)
    · exact .inr ⟨rfl, hc⟩
    · exact .inl ⟨rfl, by omega, hc⟩

/-- A world that has grown from one with two new blocks: what the walk asks of it. -/
theorem at2 {w w1 : World} {x y p q : Value} {t u : TypeId} {k : Nat} {os : Array Obj} (hg : Gr (gr ((w.alloc (.cells #[x, y] t)).alloc (.cells #[p, q] u)) k os) w1) :
    Gr w w1 ∧ w.heap.size < w1.heap.size ∧ w.heap.size + 1 < w1.heap.size ∧ w1.cell? ⟨w.heap.size + 1, 0, none⟩ = some p ∧ w1.cell? ⟨w.heap.size + 1, 1, none⟩ = some q ∧ (∀ i, w1.frozen? ⟨w.heap.size + 1, i, none⟩ = false) := by
  obtain ⟨k', os', rfl⟩ := hg
  refine ⟨(by repeat (first | with_reducible exact Gr.refl _ | with_reducible refine Gr.alloc ?_ _ | with_reducible refine Gr.gr ?_ _ _ | with_reducible refine Gr.drew ?_ | with_reducible refine Gr.drewN ?_ _)), ?_, ?_, ?_, ?_, ?_⟩
  · simp [gr_size]; omega
  · simp [gr_size]; omega
  · simp [gr_size, go_sem]
  · simp [gr_size, go_sem]
  · intro i; simp [gr_size, go_sem]

theorem scl_x (a b n d x y : Int) (ab : a ≤ b) (hx : a * n = x) (hy : b * n = y) : (x < y → scl a b n d = (x.fdiv d, cd y d)) ∧ (x = y → scl a b n d = (x.fdiv d, cd x d)) ∧ (y < x → scl a b n d = (y.fdiv d, cd x d)) := by
  by_cases h : n < 0
  · have := Int.mul_le_mul_of_nonpos_right ab (show n ≤ 0 by omega)
    rw [scl_neg a b n d h, hx, hy]
    exact ⟨fun _ => by omega, fun e => by rw [e], fun _ => rfl⟩
  · have := Int.mul_le_mul_of_nonneg_right ab (show 0 ≤ n by omega)
    rw [scl_pos a b n d (by omega), hx, hy]
    exact ⟨fun _ => rfl, fun e => by rw [e], fun _ => by omega⟩

end Go.Proofs.Ytphebmbapllinaa

/- Contracts of chapter 3: a step of squaring, the iterator over the bits, and the number that they spell. -/
namespace Go.Proofs.Ytphebmbapllinaa
open Go.RowKit Go.Shelf
set_option linter.unusedVariables false
set_option linter.unusedSimpArgs false
attribute [local go_sem] Oper.semAt_some

/-- The two ways to divide, as function values. -/
def dv (u : Bool) : Value := if u then .func (.func 66) #[] #[] else .func (.func 96) #[] #[]
theorem dv_t : dv true = .func (.func 66) #[] #[] := rfl
theorem dv_f : dv false = .func (.func 96) #[] #[] := rfl

set_option maxHeartbeats 1000000 in
theorem nextBit_any (u : Bool) (x : Int) (w : World) (h1 : 100000000 ≤ x) (h2 : x ≤ 999999999) :
    Calls Try.prog 121 #[.int .i64 x, dv u] w fun e w' => e = .returned (.tuple #[.int .i64 (nx u x).1, .int .i64 (bI (hb u x))]) ∧ w = w' := by
  rw [← hb_nx]
  obtain ⟨p1, p2⟩ := sq_bd x h1 h2
  cases u
  · rw [dv_f, nx_f]
    obtain ⟨s1, s2⟩ := sqD_bd x h1 h2
    have S := Lib.hid (show sqD x = (x * x).fdiv 100000000 from rfl)
    by_cases h : sqD x < 1000000000
    · have H := Lib.hid (nxD_lo x h)
      go_enter Try.func121, Try.ntmps121
      go_wp2_with (go_at_call 96; refine (quotientDown_any _ _ _ (by omega) (by omega) (by omega) (by omega) (by omega)).mono ?_; rw [← S.out]; rintro e w' ⟨rfl, rfl⟩)
      go_ret2
      exact ⟨ret_two (by rw [H.out]) (by rw [H.out]), rfl⟩
    · have H := Lib.hid (nxD_hi x (by omega))
      have h' : 1000000000 ≤ sqD x := by omega
      clear h
      go_enter Try.func121, Try.ntmps121
      go_wp2_with fail
      refine (quotientDown_any _ _ _ (by omega) (by omega) (by omega) (by omega) (by omega)).mono ?_
      rw [← S.out]
      rintro e w' ⟨rfl, rfl⟩
      go_wp2_with fail
      refine (quotientDown_any _ _ _ (by omega) (by omega) (by omega) (by omega) (by omega)).mono ?_
      rintro e w' ⟨rfl, rfl⟩
      go_wp2_with fail
      go_ret2
      exact ⟨ret_two (by rw [H.out]) (by rw [H.out]), rfl⟩
  · rw [dv_t, nx_t]
    obtain ⟨s1, s2⟩ := sqU_bd x h1 h2
    have S := Lib.hid (show sqU x = cd (x * x) 100000000 from rfl)
    by_cases h : sqU x < 1000000000
    · have H := Lib.hid (nxU_lo x h)
      go_enter Try.func121, Try.ntmps121
      go_wp2_with (go_at_call 66; refine (quotientUp_any _ _ _ (by omega) (by omega) (by omega) (by omega) (by omega)).mono ?_; rw [← S.out]; rintro e w' ⟨rfl, rfl⟩)
      go_ret2
      exact ⟨ret_two (by rw [H.out]) (by rw [H.out]), rfl⟩
    · have H := Lib.hid (nxU_hi x (by omega))
      have h' : 1000000000 ≤ sqU x := by omega
      clear h
      go_enter Try.func121, Try.ntmps121
      go_wp2_with fail
      refine (quotientUp_any _ _ _ (by omega) (by omega) (by omega) (by omega) (by omega)).mono ?_
      rw [← S.out]
      rintro e w' ⟨rfl, rfl⟩
      go_wp2_with fail
      refine (quotientUp_any _ _ _ (by omega) (by omega) (by omega) (by omega) (by omega)).mono ?_
      rintro e w' ⟨rfl, rfl⟩
      go_wp2_with fail
      go_ret2
      exact ⟨ret_two (by rw [H.out]) (by rw [H.out]), rfl⟩

set_option maxRecDepth 100000 in
set_option maxHeartbeats 1000000 in
/-- The iterator: for every loop body that keeps what lay below n₀. -/
theorem bits1_in (n : Nat) (hn : 1 ≤ n) (u : Bool) (x : Int) (h1 : 100000000 ≤ x) (h2 : x ≤ 999999999) (l bx bd n₀ : Nat) (J Jx : List Bool → World → Prop)
    (hY : ∀ pre y W, J pre W → pre.length < 20 → YieldAt Fence.wide (n - 1) Try.prog l #[.int .i64 (bI y)] W fun e W' =>
      (e = .returned (.bool true) ∧ J (pre ++ [y]) W' ∧ Below n₀ W W') ∨ (e = .returned (.bool false) ∧ Jx (pre ++ [y]) W'))
    (W : World) (hx : W.cell? ⟨bx, 0, none⟩ = some (.int .i64 x)) (hd : W.cell? ⟨bd, 0, none⟩ = some (dv u)) (lx : bx < n₀) (ld : bd < n₀) (h0 : J [] W) :
    CallsIn Fence.wide n Try.prog 120 #[.func (.yield l) #[] #[], .pointer (some ⟨bx, 0, none⟩), .pointer (some ⟨bd, 0, none⟩)] W fun e W' => (∃ v, e = .returned v) ∧
      ((∃ ys, ys = bls u x 20 ∧ J ys W') ∨ (∃ pre, True ∧ Jx pre W')) := by
  refine callsIn_of_wp Try.func120 rfl trivial ?_ rfl
  simp only [Try.ntmps120, List.size_toArray, List.length_cons, List.length_nil, Nat.reduceAdd, Nat.reduceSub, Array.replicate_succ, Array.replicate_zero, List.push_toArray, List.append_toArray, List.nil_append, List.cons_append]
  gi_wp2
  gi_loopw [4, 5, 7] (fun r b i wr => ∃ (k : Nat) (c : Int), k ≤ 20 ∧ i = .int .i64 k ∧ r = .int .i64 (lgs u x k).1 ∧ b = .int .i64 c ∧ J (bls u x k) wr ∧ wr.cell? ⟨bx, 0, none⟩ = some (.int .i64 x) ∧ wr.cell? ⟨bd, 0, none⟩ = some (dv u))
    (fun r b i wr => 20 - (intOf i).toNat)
  case atStart => exact ⟨0, 0, by omega, rfl, by rw [lgs_zero], rfl, h0, hx, hd⟩
  case round =>
    obtain ⟨k, c, hk, rfl, rfl, rfl, hJ, hx, hd⟩ := hrel
    by_cases hlt : k < 20
    · obtain ⟨r1, r2, -⟩ := lgs_bd u x h1 h2 k hk
      have E1 := Lib.hid (lgs_succ u x k)
      have E2 := Lib.hid (bls_succ u x k)
      have hl : (bls u x k).length < 20 := by rw [bls_len]; exact hlt
      obtain ⟨fn, tmps, assign, body, hy, hR⟩ := hY (bls u x k) (hb u (lgs u x k).1) wr hJ hl
      clear hl
      gi_wp2_with (refine ⟨trivial, ?_⟩; gi_at_call 121; refine (callsIn_wide.2 (nextBit_any _ _ _ r1 r2)).mono ?_; rintro e w' ⟨rfl, rfl⟩)
      refine hR.mono ?_
      rintro e W3 (⟨rfl, hJ3, hk3⟩ | ⟨rfl, hJx3⟩)
      · have hx3 : W3.cell? ⟨bx, 0, none⟩ = some (.int .i64 x) := (hk3.cell (p := ⟨bx, 0, none⟩) lx).trans hx
        have hd3 : W3.cell? ⟨bd, 0, none⟩ = some (dv u) := (hk3.cell (p := ⟨bd, 0, none⟩) ld).trans hd
        gi_wp2
        go_roundw
        case rel => exact ⟨k + 1, bI (hb u (lgs u x k).1), by omega, by go_num, by rw [E1.out], rfl, by rw [E2.out]; exact hJ3, hx3, hd3⟩
        case measure => simp [intOf]; omega
      · gi_wp2
        refine bodyPost_ret (results_none rfl _ _ _) rfl ?_
        exact ⟨⟨_, rfl⟩, .inr ⟨_, trivial, hJx3⟩⟩
    · obtain rfl : k = 20 := by omega
      gi_wp2
      go_end0
      exact ⟨⟨_, rfl⟩, .inl ⟨_, rfl, hJ⟩⟩

theorem bits_stops (n : Nat) (hn : 1 ≤ n) (u : Bool) (x : Int) (h1 : 100000000 ≤ x) (h2 : x ≤ 999999999) (bx bd n₀ : Nat) (w : World) (hx : w.cell? ⟨bx, 0, none⟩ = some (.int .i64 x)) (hd : w.cell? ⟨bd, 0, none⟩ = some (dv u)) (lx : bx < n₀) (ld : bd < n₀) (hn₀ : n₀ ≤ w.heap.size) :
    SeqStopsK Fence.wide n Try.prog 120 #[.pointer (some ⟨bx, 0, none⟩), .pointer (some ⟨bd, 0, none⟩)] (fun y : Bool => #[Value.int .i64 (bI y)]) (Below n₀) (fun ys => ys = bls u x 20) (fun _ => True) 20 w := fun l J Jx W hW _ _ hY h0 =>
  bits1_in n hn u x h1 h2 l bx bd n₀ J Jx hY W ((hW.cell (p := ⟨bx, 0, none⟩) (Nat.lt_of_lt_of_le lx hn₀)).trans hx) ((hW.cell (p := ⟨bd, 0, none⟩) (Nat.lt_of_lt_of_le ld hn₀)).trans hd) lx ld h0

theorem cell_of_box_b {W : World} {B : Nat} {v : Value} {t : TypeId} (h : W.heap[B]? = some (.cells #[v] t (0, 0))) : W.cell? ⟨B, 0, none⟩ = some v ∧ W.frozen? ⟨B, 0, none⟩ = false := by
  constructor <;> simp [World.cell?, World.frozen?, h]
theorem cell_new_b (W : World) (v : Value) (t : TypeId) : (W.alloc (.cells #[v] t)).cell? ⟨W.heap.size, 0, none⟩ = some v ∧ (W.alloc (.cells #[v] t)).frozen? ⟨W.heap.size, 0, none⟩ = false :=
  cell_of_box_b (World.alloc_heap_new W _)

set_option maxRecDepth 100000 in
set_option maxHeartbeats 2000000 in
theorem bitNumber_any (u : Bool) (x : Int) (h1 : 100000000 ≤ x) (h2 : x ≤ 999999999) (bx bd : Nat) (w : World) (hx : w.cell? ⟨bx, 0, none⟩ = some (.int .i64 x)) (hd : w.cell? ⟨bd, 0, none⟩ = some (dv u)) (lx : bx < w.heap.size) (ld : bd < w.heap.size) :
    Calls Try.prog 111 #[.func (.func 120) #[] #[.pointer (some ⟨bx, 0, none⟩), .pointer (some ⟨bd, 0, none⟩)]] w fun e w' => e = .returned (.int .i64 (lgb u x)) ∧ Below w.heap.size w w' := by
  refine (callsIn_wide (n := 5)).1 ?_
  refine callsIn_of_wp_marks Try.func111 rfl trivial ?_ rfl
  simp only [Try.ntmps111, List.size_toArray, List.length_cons, List.length_nil, Nat.reduceAdd, Nat.reduceSub, Array.replicate_succ, Array.replicate_zero, List.push_toArray, List.append_toArray, List.nil_append, List.cons_append]
  gi_wp2
  have hs := cell_new_b w (.int .i64 0) 2
  have hB0 : Below w.heap.size w (w.alloc (.cells #[.int .i64 0] 2)) := (Below.refl _ w).alloc (Nat.le_refl _) _
  have hx1 : (w.alloc (.cells #[.int .i64 0] 2)).cell? ⟨bx, 0, none⟩ = some (.int .i64 x) := (hB0.cell (p := ⟨bx, 0, none⟩) lx).trans hx
  have hd1 : (w.alloc (.cells #[.int .i64 0] 2)).cell? ⟨bd, 0, none⟩ = some (dv u) := (hB0.cell (p := ⟨bd, 0, none⟩) ld).trans hd
  refine wpIn_rangeFunc_ownF rfl (by omega) (gf := 120) (lb := #[.pointer (some ⟨bx, 0, none⟩), .pointer (some ⟨bd, 0, none⟩)]) rfl trivial (enters_of Try.func120 (by kernel_rfl) rfl)
    (bits_stops (5 - 1) (by omega) u x h1 h2 bx bd w.heap.size _ hx1 hd1 lx ld (by simp)) belowK_t (belowK_b (by simp)) (Below.refl _ _) (fun _ => rfl)
    (fun pre W => (W.cell? ⟨w.heap.size, 0, none⟩ = some (.int .i64 (numB pre)) ∧ W.frozen? ⟨w.heap.size, 0, none⟩ = false) ∧ Below w.heap.size w W)
    (fun _ _ _ => False)
    (OwnFrom.and (Own.from (fun s A B row hs hg hr => ⟨cell_kept hs.1 hg hr, (frozen_kept hs.1 hg hr).trans hs.2⟩) _) (ownFrom_below (Nat.le_refl _) (by simp)))
    (fun _ _ _ _ _ hs _ _ => hs)
    ⟨by rw [numB_nil]; exact hs, hB0⟩
    (fun y => { tmps := #[.func (.func 120) #[] #[.pointer (some ⟨bx, 0, none⟩), .pointer (some ⟨bd, 0, none⟩)], undef, .int .i64 0, .pointer (some ⟨w.heap.size, 0, none⟩), .int .i64 (bI y), .func (.func 120) #[] #[.pointer (some ⟨bx, 0, none⟩), .pointer (some ⟨bd, 0, none⟩)], .int .i64 (bI y), undef, undef, undef, undef, undef], defers := [] }) ?assign ?body ?done ?stop
  case assign =>
    intro l y W K hK
    gi_wp2
    exact hK
  case body =>
    rintro l pre y W ⟨⟨hc, hf⟩, hB⟩ hlen
    obtain ⟨m1, m2⟩ := numB_bd pre (by omega)
    obtain ⟨y1, y2⟩ := bI_bd y
    gi_wp2
    exact ⟨KeepsOthers.setCell _ _ _, (Below.refl w.heap.size W).setCell (p := ⟨w.heap.size, 0, none⟩) (Nat.le_refl _) _, ⟨by rw [numB_snoc]; exact World.cell?_setCell_same' _ _ _ (by rw [hc]; rfl), by rw [World.frozen?_setCell]; exact hf⟩, hB.setCell (p := ⟨w.heap.size, 0, none⟩) (Nat.le_refl _) _⟩
  case done =>
    rintro D ys W hD rfl ⟨⟨hc, _⟩, hB⟩ hK
    gi_wp2
    refine ⟨by simp, .inl ⟨_, _, rfl, run_takeDeferred hK, ?_⟩⟩
    exact ⟨_, results_tmp rfl _ _ _, by rw [bls_num]; rfl, hB.trans (belowK_b (w := w) (Nat.le_refl _) W D _ _ (by simp at hD; omega) hK rfl rfl)⟩
  case stop =>
    rintro D c pre W _ _ h _
    exact h.elim
end Go.Proofs.Ytphebmbapllinaa

/- Contracts of chapter 3: logarithms of numbers and of figures, in the program and in the model. -/
namespace Go.Proofs.Ytphebmbapllinaa
open Go.RowKit
set_option linter.unusedVariables false
set_option linter.unusedSimpArgs false

theorem bitsOf_any (u : Bool) (x : Int) (w : World) :
    Calls Try.prog 112 #[.int .i64 x, dv u] w fun e w' => e = .returned (.func (.func 120) #[] #[.pointer (some ⟨w.heap.size, 0, none⟩), .pointer (some ⟨w.heap.size + 1, 0, none⟩)]) ∧ w' = (w.alloc (.cells #[.int .i64 x] 2)).alloc (.cells #[dv u] 112) := by
  cases u
  · rw [dv_f]
    go_enter Try.func112, Try.ntmps112
    go_wp2
    go_ret
    exact ⟨rfl, rfl⟩
  · rw [dv_t]
    go_enter Try.func112, Try.ntmps112
    go_wp2
    go_ret
    exact ⟨rfl, rfl⟩

theorem log_impl (x : Int) (w : World) (h1 : 100000000 ≤ x) (h2 : x ≤ 999999999) :
    Calls Try.prog 99 #[.int .i64 x] w fun e w' => e = .returned (.agg #[.int .i64 (lgb false x), .int .i64 (lgb true x + 1)]) ∧ Gr w w' := by
  obtain ⟨b1, b2⟩ := lgb_bd false x h1 h2
  obtain ⟨b3, b4⟩ := lgb_bd true x h1 h2
  go_enter Try.func99, Try.ntmps99
  go_wp2_with fail
  refine (bitsOf_any false x _).mono ?_
  rintro e w' ⟨rfl, rfl⟩
  go_wp2_with fail
  refine (bitNumber_any false x h1 h2 _ _ _ ?c1 ?c2 ?c3 ?c4).mono ?c5
  case c1 => go_simp
  case c2 => go_simp
  case c3 => go_simp
  case c4 => go_simp
  rintro e w' ⟨rfl, hb⟩
  obtain ⟨k, os, rfl⟩ := Gr.of_below hb
  clear hb
  go_wp2_with fail
  refine (bitsOf_any true x _).mono ?_
  rintro e w' ⟨rfl, rfl⟩
  go_wp2_with fail
  refine (bitNumber_any true x h1 h2 _ _ _ ?d1 ?d2 ?d3 ?d4).mono ?d5
  case d1 => go_simp
  case d2 => go_simp
  case d3 => go_simp
  case d4 => go_simp
  rintro e w' ⟨rfl, hb⟩
  obtain ⟨k, os, rfl⟩ := Gr.of_below hb
  clear hb
  go_wp2_with fail
  ((try simp only [Exit.inBlock, Exit.then]); refine bodyPost_ret (v := .agg #[.int .i64 (lgb false x), .int .i64 (lgb true x + 1)]) (by simp [results, Try.results99, go_sem]) rfl ?_)
  exact ⟨rfl, (by repeat (first | with_reducible exact Gr.refl _ | with_reducible refine Gr.alloc ?_ _ | with_reducible refine Gr.gr ?_ _ _ | with_reducible refine Gr.drew ?_ | with_reducible refine Gr.drewN ?_ _))⟩

theorem bits_spec (u : Bool) (x : Int) (w : World) (h1 : 100000000 ≤ x) (h2 : x ≤ 999999999) :
    Calls Try.prog 113 #[.int .i64 x, .bool u] w fun e w' => e = .returned (.int .i64 (lgb u x)) ∧ Gr w w' := by
  cases u
  · go_enter Try.func113, Try.ntmps113
    go_wp2
    go_loop [0, 5, 6] (fun r n i => ∃ (k : Nat), k ≤ 20 ∧ i = .int .i64 k ∧ r = .int .i64 (lgs false x k).1 ∧ n = .int .i64 (lgs false x k).2) (fun r n i => 20 - (intOf i).toNat)
    case atStart => exact ⟨0, by omega, rfl, by rw [lgs_zero], by rw [lgs_zero]⟩
    case round =>
      obtain ⟨k, hk, rfl, rfl, rfl⟩ := hrel
      by_cases hlt : k < 20
      · obtain ⟨r1, r2, n1, n2⟩ := lgs_bd false x h1 h2 k hk
        have E := Lib.hid (lgs_succ false x k)
        generalize (lgs false x k).1 = r at *
        generalize (lgs false x k).2 = n at *
        have SQ : sqD r = r * r / 100000000 := by unfold sqD; exact Int.fdiv_eq_ediv_of_nonneg _ (by omega)
        have sb := sqD_bd r r1 r2
        obtain ⟨q1, q2⟩ := sq_bd r r1 r2
        by_cases h : sqD r < 1000000000
        · have L1 := Lib.hid (show (lgs false x (k + 1)).1 = r * r / 100000000 by rw [E.out, nx_f, nxD_lo r h]; exact SQ)
          have L2 := Lib.hid (show (lgs false x (k + 1)).2 = 2 * n by rw [E.out, nx_f, nxD_lo r h]; simp)
          rw [SQ] at h sb
          obtain ⟨sb1, sb2⟩ := sb
          clear SQ E
          go_wp2
          go_round
          case rel => exact ⟨k + 1, by omega, by go_num, by rw [L1.out], by rw [L2.out]⟩
          case measure => simp [intOf]; omega
        · have L1 := Lib.hid (show (lgs false x (k + 1)).1 = r * r / 100000000 / 10 by rw [E.out, nx_f, nxD_hi r (by omega)]; simp only; rw [SQ]; exact Int.fdiv_eq_ediv_of_nonneg _ (by omega))
          have L2 := Lib.hid (show (lgs false x (k + 1)).2 = 2 * n + 1 by rw [E.out, nx_f, nxD_hi r (by omega)])
          rw [SQ] at h sb
          obtain ⟨sb1, sb2⟩ := sb
          have h' : 1000000000 ≤ r * r / 100000000 := by omega
          clear SQ E h
          go_wp2
          go_round
          case rel => exact ⟨k + 1, by omega, by go_num, by rw [L1.out], by rw [L2.out]⟩
          case measure => simp [intOf]; omega
      · obtain rfl : k = 20 := by omega
        go_wp2
        go_ret
        exact ⟨rfl, (by repeat (first | with_reducible exact Gr.refl _ | with_reducible refine Gr.alloc ?_ _ | with_reducible refine Gr.gr ?_ _ _ | with_reducible refine Gr.drew ?_ | with_reducible refine Gr.drewN ?_ _))⟩
  · go_enter Try.func113, Try.ntmps113
    go_wp2
    go_loop [0, 5, 6] (fun r n i => ∃ (k : Nat), k ≤ 20 ∧ i = .int .i64 k ∧ r = .int .i64 (lgs true x k).1 ∧ n = .int .i64 (lgs true x k).2) (fun r n i => 20 - (intOf i).toNat)
    case atStart => exact ⟨0, by omega, rfl, by rw [lgs_zero], by rw [lgs_zero]⟩
    case round =>
      obtain ⟨k, hk, rfl, rfl, rfl⟩ := hrel
      by_cases hlt : k < 20
      · obtain ⟨r1, r2, n1, n2⟩ := lgs_bd true x h1 h2 k hk
        have E := Lib.hid (lgs_succ true x k)
        generalize (lgs true x k).1 = r at *
        generalize (lgs true x k).2 = n at *
        have SQ := Lib.hid (show sqU r = cd (r * r) 100000000 from rfl)
        obtain ⟨sb1, sb2⟩ := sqU_bd r r1 r2
        obtain ⟨q1, q2⟩ := sq_bd r r1 r2
        by_cases h : sqU r < 1000000000
        · have L1 := Lib.hid (show (lgs true x (k + 1)).1 = sqU r by rw [E.out, nx_t, nxU_lo r h])
          have L2 := Lib.hid (show (lgs true x (k + 1)).2 = 2 * n by rw [E.out, nx_t, nxU_lo r h]; simp)
          clear E
          go_wp2_with (go_at_call 122; refine (ceil_any _ _ _ (by omega) (by omega) (by omega) (by omega) (by omega)).mono ?_; rw [← SQ.out]; rintro e w' ⟨rfl, rfl⟩)
          go_round
          case rel => exact ⟨k + 1, by omega, by go_num, by rw [L1.out], by rw [L2.out]⟩
          case measure => simp [intOf]; omega
        · have L1 := Lib.hid (show (lgs true x (k + 1)).1 = cd (sqU r) 10 by rw [E.out, nx_t, nxU_hi r (by omega)])
          have L2 := Lib.hid (show (lgs true x (k + 1)).2 = 2 * n + 1 by rw [E.out, nx_t, nxU_hi r (by omega)])
          have h' : 1000000000 ≤ sqU r := by omega
          clear E h
          go_wp2_with fail
          refine (ceil_any _ _ _ (by omega) (by omega) (by omega) (by omega) (by omega)).mono ?_
          rw [← SQ.out]
          rintro e w' ⟨rfl, rfl⟩
          go_wp2_with fail
          refine (ceil_any _ _ _ (by omega) (by omega) (by omega) (by omega) (by omega)).mono ?_
          rintro e w' ⟨rfl, rfl⟩
          go_wp2_with fail
          go_round
          case rel => exact ⟨k + 1, by omega, by go_num, by rw [L1.out], by rw [L2.out]⟩
          case measure => simp [intOf]; omega
      · obtain rfl : k = 20 := by omega
        go_wp2
        go_ret
        exact ⟨rfl, (by repeat (first | with_reducible exact Gr.refl _ | with_reducible refine Gr.alloc ?_ _ | with_reducible refine Gr.gr ?_ _ _ | with_reducible refine Gr.drew ?_ | with_reducible refine Gr.drewN ?_ _))⟩

theorem log_spec (x : Int) (w : World) (h1 : 100000000 ≤ x) (h2 : x ≤ 999999999) :
    Calls Try.prog 101 #[.int .i64 x] w fun e w' => e = .returned (.agg #[.int .i64 (lgb false x), .int .i64 (lgb true x + 1)]) ∧ Gr w w' := by
  obtain ⟨b1, b2⟩ := lgb_bd false x h1 h2
  obtain ⟨b3, b4⟩ := lgb_bd true x h1 h2
  go_enter Try.func101, Try.ntmps101
  go_wp2_with fail
  refine (bits_spec false x _ h1 h2).mono ?_
  rintro e w' ⟨rfl, k, os, rfl⟩
  go_wp2_with fail
  refine (bits_spec true x _ h1 h2).mono ?_
  rintro e w' ⟨rfl, k, os, rfl⟩
  go_wp2_with fail
  ((try simp only [Exit.inBlock, Exit.then]); refine bodyPost_ret (v := .agg #[.int .i64 (lgb false x), .int .i64 (lgb true x + 1)]) (by simp [results, Try.results101, go_sem]) rfl ?_)
  exact ⟨rfl, (by repeat (first | with_reducible exact Gr.refl _ | with_reducible refine Gr.alloc ?_ _ | with_reducible refine Gr.gr ?_ _ _ | with_reducible refine Gr.drew ?_ | with_reducible refine Gr.drewN ?_ _))⟩

/-- The logarithm of a valid figure. -/
theorem figLog_any (d t : Int) (w : World) (h : fg d t = true) :
    Calls Try.prog 75 #[.agg #[.int .i64 d, .int .i64 t]] w fun e w' => e = .returned (.agg #[.int .i64 (flg d t).1, .int .i64 (flg d t).2]) ∧ Gr w w' := by
  obtain ⟨⟨d1, d2⟩, t1, t2⟩ := (fg_iff d t).1 h
  obtain ⟨b1, b2⟩ := lgb_bd false (d * 100000) (by omega) (by omega)
  obtain ⟨b3, b4⟩ := lgb_bd true (d * 100000) (by omega) (by omega)
  have F := Lib.hid (show flg d t = (lgb false (d * 100000) + t * 1048576, lgb true (d * 100000) + 1 + t * 1048576) from rfl)
  clear h
  go_enter Try.func75, Try.ntmps75
  go_wp2_with fail
  have q1 : IntKind.i64.wrap (d * 100000) = d * 100000 := IntWalk.i64_in _ (by omega)
  have q2 : IntKind.i64.wrap (t * 1048576) = t * 1048576 := IntWalk.i64_in _ (by omega)
  go_region_held3 (fun w' => w'.cell? ⟨w.heap.size, 0, none⟩ = some (.int .i64 d) ∧ w'.cell? ⟨w.heap.size, 1, none⟩ = some (.int .i64 t)) (go_simp) (first
    | (go_at_call 99; (try rw [q1]); refine (log_impl _ _ (by omega) (by omega)).mono ?_; rintro e w' ⟨rfl, k, os, rfl⟩)
    | (go_at_call 100; (try rw [q2]); refine (moved_any _ _ _ _ (by omega) (by omega) (by omega) (by omega) (by omega) (by omega)).mono ?_; rintro e w' ⟨rfl, k, os, rfl⟩)
    | (go_at_call 100; refine (moved_any _ _ _ _ (by omega) (by omega) (by omega) (by omega) (by omega) (by omega)).mono ?_; rintro e w' ⟨rfl, k, os, rfl⟩))
  all_goals
    go_wp2
    ((try simp only [Exit.inBlock, Exit.then]); refine bodyPost_ret (v := .agg #[.int .i64 (lgb false (d * 100000) + t * 1048576), .int .i64 (lgb true (d * 100000) + 1 + t * 1048576)]) (by simp [results, Try.results75, go_sem]) rfl ?_)
    exact ⟨ret_agg (by rw [F.out]) (by rw [F.out]), (by repeat (first | with_reducible exact Gr.refl _ | with_reducible refine Gr.alloc ?_ _ | with_reducible refine Gr.gr ?_ _ _ | with_reducible refine Gr.drew ?_ | with_reducible refine Gr.drewN ?_ _))⟩

theorem figure_spec3 (d t : Int) (w : World) (h : fg d t = true) :
    Calls Try.prog 76 #[.agg #[.int .i64 d, .int .i64 t]] w fun e w' => e = .returned (.agg #[.int .i64 (flg d t).1, .int .i64 (flg d t).2]) ∧ Gr w w' := by
  obtain ⟨⟨d1, d2⟩, t1, t2⟩ := (fg_iff d t).1 h
  obtain ⟨b1, b2⟩ := lgb_bd false (d * 100000) (by omega) (by omega)
  obtain ⟨b3, b4⟩ := lgb_bd true (d * 100000) (by omega) (by omega)
  have F := Lib.hid (show flg d t = (lgb false (d * 100000) + t * 1048576, lgb true (d * 100000) + 1 + t * 1048576) from rfl)
  clear h
  go_enter Try.func76, Try.ntmps76
  go_wp2_with (go_at_call 101; refine (log_spec _ _ (by omega) (by omega)).mono ?_; rintro e w' ⟨rfl, k, os, rfl⟩)
  ((try simp only [Exit.inBlock, Exit.then]); refine bodyPost_ret (v := .agg #[.int .i64 (lgb false (d * 100000) + t * 1048576), .int .i64 (lgb true (d * 100000) + 1 + t * 1048576)]) (by simp [results, Try.results76, go_sem]) rfl ?_)
  exact ⟨ret_agg (by rw [F.out]) (by rw [F.out]), (by repeat (first | with_reducible exact Gr.refl _ | with_reducible refine Gr.alloc ?_ _ | with_reducible refine Gr.gr ?_ _ _ | with_reducible refine Gr.drew ?_ | with_reducible refine Gr.drewN ?_ _))⟩

end Go.Proofs.Ytphebmbapllinaa
