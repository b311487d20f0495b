/- Contracts of chapter 3: intervals, in the program, in the model and in the law. -/
import Derived.Test.YtggflladheemoaaDoorC02a
import Derived.Test.YtggflladheemoaaDoorMA
import Derived.IntWalk
import Derived.Deep.RegionHeld3
namespace Go.Proofs.YtggflladheemoaaDoor
open Go.RowKit
set_option linter.unusedVariables false
set_option linter.unusedSimpArgs false

theorem plus_any (a b c d : Int) (w : World) (a1 : -2000000000000000000 ≤ a) (a2 : a ≤ 2000000000000000000) (b1 : -2000000000000000000 ≤ b) (b2 : b ≤ 2000000000000000000) (c1 : -2000000000000000000 ≤ c) (c2 : c ≤ 2000000000000000000) (d1 : -2000000000000000000 ≤ d) (d2 : d ≤ 2000000000000000000) :
    Calls Tryd.prog 276 #[.agg #[.int .i64 a, .int .i64 b], .agg #[.int .i64 c, .int .i64 d]] w fun e w' => e = .returned (.agg #[.int .i64 (a + c), .int .i64 (b + d)]) ∧ Gr w w' := by
  go_enter Tryd.func276, Tryd.ntmps276
  go_wp2
  ((try simp only [Exit.inBlock, Exit.then]); refine bodyPost_ret (v := .agg #[.int .i64 (a + c), .int .i64 (b + d)]) (by simp [results, Tryd.results276, go_sem]) rfl ?_)
  exact ⟨rfl, (by repeat (first | with_reducible exact Gr.refl _ | with_reducible refine Gr.alloc ?_ _ | with_reducible refine Gr.gr ?_ _ _ | with_reducible refine Gr.drew ?_ | with_reducible refine Gr.drewN ?_ _))⟩

theorem sub_spec (a b c d : Int) (w : World) (a1 : -2000000000000000000 ≤ a) (a2 : a ≤ 2000000000000000000) (b1 : -2000000000000000000 ≤ b) (b2 : b ≤ 2000000000000000000) (c1 : -2000000000000000000 ≤ c) (c2 : c ≤ 2000000000000000000) (d1 : -2000000000000000000 ≤ d) (d2 : d ≤ 2000000000000000000) :
    Calls Tryd.prog 192 #[.agg #[.int .i64 a, .int .i64 b], .agg #[.int .i64 c, .int .i64 d]] w fun e w' => e = .returned (.agg #[.int .i64 (a - d), .int .i64 (b - c)]) ∧ Gr w w' := by
  go_enter Tryd.func192, Tryd.ntmps192
  go_wp2
  ((try simp only [Exit.inBlock, Exit.then]); refine bodyPost_ret (v := .agg #[.int .i64 (a - d), .int .i64 (b - c)]) (by simp [results, Tryd.results192, go_sem]) rfl ?_)
  exact ⟨rfl, (by repeat (first | with_reducible exact Gr.refl _ | with_reducible refine Gr.alloc ?_ _ | with_reducible refine Gr.gr ?_ _ _ | with_reducible refine Gr.drew ?_ | with_reducible refine Gr.drewN ?_ _))⟩

theorem mul_lim (a n : Int) (a1 : -1000000000000 ≤ a) (a2 : a ≤ 1000000000000) (n1 : -12 ≤ n) (n2 : n ≤ 12) : -12000000000000 ≤ a * n ∧ a * n ≤ 12000000000000 := by
  have hn : n = -12 ∨ n = -11 ∨ n = -10 ∨ n = -9 ∨ n = -8 ∨ n = -7 ∨ n = -6 ∨ n = -5 ∨ n = -4 ∨ n = -3 ∨ n = -2 ∨ n = -1 ∨ n = 0 ∨ n = 1 ∨ n = 2 ∨ n = 3 ∨ n = 4 ∨ n = 5 ∨ n = 6 ∨ n = 7 ∨ n = 8 ∨ n = 9 ∨ n = 10 ∨ n = 11 ∨ n = 12 := by omega
  rcases hn with h | h | h | h | h | h | h | h | h | h | h | h | h | h | h | h | h | h | h | h | h | h | h | h | h <;> subst h <;> omega

/-- The bounds of an interval times n, in the order of numbers. -/
def tms (a b n : Int) : Int × Int := if n < 0 then (b * n, a * n) else (a * n, b * n)
theorem tms_neg (a b n : Int) (h : n < 0) : tms a b n = (b * n, a * n) := if_pos h
theorem tms_pos (a b n : Int) (h : 0 ≤ n) : tms a b n = (a * n, b * n) := if_neg (by omega)

theorem times_any (a b n : Int) (w : World) (a1 : -1000000000000 ≤ a) (a2 : a ≤ 1000000000000) (b1 : -1000000000000 ≤ b) (b2 : b ≤ 1000000000000) (n1 : -12 ≤ n) (n2 : n ≤ 12) :
    Calls Tryd.prog 185 #[.agg #[.int .i64 a, .int .i64 b], .int .i64 n] w fun e w' => e = .returned (.agg #[.int .i64 (tms a b n).1, .int .i64 (tms a b n).2]) ∧ Gr w w' := by
  have p := mul_lim a n a1 a2 n1 n2
  have q := mul_lim b n b1 b2 n1 n2
  by_cases h : n < 0
  · have H := Lib.hid (tms_neg a b n h)
    go_enter Tryd.func185, Tryd.ntmps185
    go_wp2
    ((try simp only [Exit.inBlock, Exit.then]); refine bodyPost_ret (v := .agg #[.int .i64 (b * n), .int .i64 (a * n)]) (by simp [results, Tryd.results185, go_sem]) rfl ?_)
    exact ⟨ret_agg (by rw [H.out]) (by rw [H.out]), (by repeat (first | with_reducible exact Gr.refl _ | with_reducible refine Gr.alloc ?_ _ | with_reducible refine Gr.gr ?_ _ _ | with_reducible refine Gr.drew ?_ | with_reducible refine Gr.drewN ?_ _))⟩
  · have H := Lib.hid (tms_pos a b n (by omega))
    go_enter Tryd.func185, Tryd.ntmps185
    go_wp2
    ((try simp only [Exit.inBlock, Exit.then]); refine bodyPost_ret (v := .agg #[.int .i64 (a * n), .int .i64 (b * n)]) (by simp [results, Tryd.results185, go_sem]) rfl ?_)
    exact ⟨ret_agg (by rw [H.out]) (by rw [H.out]), (by repeat (first | with_reducible exact Gr.refl _ | with_reducible refine Gr.alloc ?_ _ | with_reducible refine Gr.gr ?_ _ _ | with_reducible refine Gr.drew ?_ | with_reducible refine Gr.drewN ?_ _))⟩

theorem times_gen (a b n : Int) (w : World) (p1 : -2000000000000000000 ≤ a * n) (p2 : a * n ≤ 2000000000000000000) (q1 : -2000000000000000000 ≤ b * n) (q2 : b * n ≤ 2000000000000000000) (a1 : -1000000000000 ≤ a) (a2 : a ≤ 1000000000000) (b1 : -1000000000000 ≤ b) (b2 : b ≤ 1000000000000) (n1 : -1000000 ≤ n) (n2 : n ≤ 1000000) :
    Calls Tryd.prog 185 #[.agg #[.int .i64 a, .int .i64 b], .int .i64 n] w fun e w' => e = .returned (.agg #[.int .i64 (tms a b n).1, .int .i64 (tms a b n).2]) ∧ Gr w w' := by
  by_cases h : n < 0
  · have H := Lib.hid (tms_neg a b n h)
    go_enter Tryd.func185, Tryd.ntmps185
    go_wp2
    ((try simp only [Exit.inBlock, Exit.then]); refine bodyPost_ret (v := .agg #[.int .i64 (b * n), .int .i64 (a * n)]) (by simp [results, Tryd.results185, go_sem]) rfl ?_)
    exact ⟨ret_agg (by rw [H.out]) (by rw [H.out]), (by repeat (first | with_reducible exact Gr.refl _ | with_reducible refine Gr.alloc ?_ _ | with_reducible refine Gr.gr ?_ _ _ | with_reducible refine Gr.drew ?_ | with_reducible refine Gr.drewN ?_ _))⟩
  · have H := Lib.hid (tms_pos a b n (by omega))
    go_enter Tryd.func185, Tryd.ntmps185
    go_wp2
    ((try simp only [Exit.inBlock, Exit.then]); refine bodyPost_ret (v := .agg #[.int .i64 (a * n), .int .i64 (b * n)]) (by simp [results, Tryd.results185, go_sem]) rfl ?_)
    exact ⟨ret_agg (by rw [H.out]) (by rw [H.out]), (by repeat (first | with_reducible exact Gr.refl _ | with_reducible refine Gr.alloc ?_ _ | with_reducible refine Gr.gr ?_ _ _ | with_reducible refine Gr.drew ?_ | with_reducible refine Gr.drewN ?_ _))⟩

theorem tms_one (a b : Int) : (tms a b (-1)).1 = -b ∧ (tms a b (-1)).2 = -a := by
  rw [tms_neg a b (-1) (by omega)]
  exact ⟨by simp, by simp⟩

theorem minus_any (a b c d : Int) (w : World) (a1 : -1000000000000 ≤ a) (a2 : a ≤ 1000000000000) (b1 : -1000000000000 ≤ b) (b2 : b ≤ 1000000000000) (c1 : -1000000000000 ≤ c) (c2 : c ≤ 1000000000000) (d1 : -1000000000000 ≤ d) (d2 : d ≤ 1000000000000) :
    Calls Tryd.prog 275 #[.agg #[.int .i64 a, .int .i64 b], .agg #[.int .i64 c, .int .i64 d]] w fun e w' => e = .returned (.agg #[.int .i64 (a - d), .int .i64 (b - c)]) ∧ Gr w w' := by
  have T1 := Lib.hid (tms_one c d).1
  have T2 := Lib.hid (tms_one c d).2
  go_enter Tryd.func275, Tryd.ntmps275
  go_wp2_with fail
  go_region_held3 (fun w' => w'.cell? ⟨w.heap.size, 0, none⟩ = some (.int .i64 a) ∧ w'.cell? ⟨w.heap.size, 1, none⟩ = some (.int .i64 b) ∧ w'.cell? ⟨w.heap.size + 1, 0, none⟩ = some (.int .i64 c) ∧ w'.cell? ⟨w.heap.size + 1, 1, none⟩ = some (.int .i64 d)) (go_simp) (first
    | (go_at_call 185; refine (times_any _ _ _ _ (by omega) (by omega) (by omega) (by omega) (by omega) (by omega)).mono ?_; rw [T1.out, T2.out]; rintro e w' ⟨rfl, k, os, rfl⟩)
    | (go_at_call 276; refine (plus_any _ _ _ _ _ (by omega) (by omega) (by omega) (by omega) (by omega) (by omega) (by omega) (by omega)).mono ?_; rintro e w' ⟨rfl, k, os, rfl⟩))
  all_goals
    go_wp2
    ((try simp only [Exit.inBlock, Exit.then]); refine bodyPost_ret (v := .agg #[.int .i64 (a + -d), .int .i64 (b + -c)]) (by simp [results, Tryd.results275, go_sem]) rfl ?_)
    exact ⟨rfl, (by repeat (first | with_reducible exact Gr.refl _ | with_reducible refine Gr.alloc ?_ _ | with_reducible refine Gr.gr ?_ _ _ | with_reducible refine Gr.drew ?_ | with_reducible refine Gr.drewN ?_ _))⟩

theorem moved_any (a b n : Int) (w : World) (a1 : -1000000000000000 ≤ a) (a2 : a ≤ 1000000000000000) (b1 : -1000000000000000 ≤ b) (b2 : b ≤ 1000000000000000) (n1 : -1000000000000000 ≤ n) (n2 : n ≤ 1000000000000000) :
    Calls Tryd.prog 267 #[.agg #[.int .i64 a, .int .i64 b], .int .i64 n] w fun e w' => e = .returned (.agg #[.int .i64 (a + n), .int .i64 (b + n)]) ∧ Gr w w' := by
  go_enter Tryd.func267, Tryd.ntmps267
  go_wp2
  ((try simp only [Exit.inBlock, Exit.then]); refine bodyPost_ret (v := .agg #[.int .i64 (a + n), .int .i64 (b + n)]) (by simp [results, Tryd.results267, go_sem]) rfl ?_)
  exact ⟨rfl, (by repeat (first | with_reducible exact Gr.refl _ | with_reducible refine Gr.alloc ?_ _ | with_reducible refine Gr.gr ?_ _ _ | with_reducible refine Gr.drew ?_ | with_reducible refine Gr.drewN ?_ _))⟩

theorem over_any (a b d : Int) (w : World) (a1 : -1000000000000000 ≤ a) (a2 : a ≤ 1000000000000000) (b1 : -1000000000000000 ≤ b) (b2 : b ≤ 1000000000000000) (d1 : 1 ≤ d) (d2 : d ≤ 1000000000000000) :
    Calls Tryd.prog 186 #[.agg #[.int .i64 a, .int .i64 b], .int .i64 d] w fun e w' => e = .returned (.agg #[.int .i64 (a.fdiv d), .int .i64 (cd b d)]) ∧ Gr w w' := by
  go_enter Tryd.func186, Tryd.ntmps186
  go_wp2_with fail
  go_region_held3 (fun w' => w'.cell? ⟨w.heap.size, 0, none⟩ = some (.int .i64 a) ∧ w'.cell? ⟨w.heap.size, 1, none⟩ = some (.int .i64 b)) (go_simp) (first
    | (go_at_call 187; refine (quotientDown_any _ _ _ (by omega) (by omega) (by omega) (by omega) (by omega)).mono ?_; rintro e w' ⟨rfl, rfl⟩)
    | (go_at_call 212; refine (quotientUp_any _ _ _ (by omega) (by omega) (by omega) (by omega) (by omega)).mono ?_; rintro e w' ⟨rfl, rfl⟩))
  all_goals
    go_wp2
    ((try simp only [Exit.inBlock, Exit.then]); refine bodyPost_ret (v := .agg #[.int .i64 (a.fdiv d), .int .i64 (cd b d)]) (by simp [results, Tryd.results186, go_sem]) rfl ?_)
    exact ⟨rfl, (by repeat (first | with_reducible exact Gr.refl _ | with_reducible refine Gr.alloc ?_ _ | with_reducible refine Gr.gr ?_ _ _ | with_reducible refine Gr.drew ?_ | with_reducible refine Gr.drewN ?_ _))⟩

end Go.Proofs.YtggflladheemoaaDoor
