/- Contracts of chapter 2: what the public functions return, in the program and in the model. -/
import Derived.Test.YtondomnepipelaaC02b
import Derived.Deep.RegionHeld3
import Derived.IntWalk
namespace Go.Proofs.Ytondomnepipelaa
open Go.RowKit
set_option linter.unusedVariables false
set_option linter.unusedSimpArgs false

/-- Two figures: both valid, or the first or the second not. -/
theorem two_cases (a s b t : Int) : ((fg a s && fg b t) = true ∧ fg a s = true ∧ fg b t = true) ∨ ((fg a s && fg b t) = false ∧ (fg a s = false ∨ (fg a s = true ∧ fg b t = false))) := by
  cases fg a s <;> cases fg b t <;> simp

theorem result_pair (p : Int × Int) (w : World) :
    Calls Try.prog 42 #[.agg #[.int .i64 p.1, .int .i64 p.2]] w fun e w' => e = .returned (.tuple #[.agg #[.int .i64 (rsl p).1.1, .int .i64 (rsl p).1.2], .int .i64 (rsl p).2]) ∧ Gr w w' := result_spec p.1 p.2 w

theorem muR_impl (a s b t : Int) (w : World) :
    Calls Try.prog 15 #[.agg #[.int .i64 a, .int .i64 s], .agg #[.int .i64 b, .int .i64 t]] w fun e w' => e = .returned (.tuple #[.agg #[.int .i64 (muR a s b t).1.1, .int .i64 (muR a s b t).1.2], .int .i64 (muR a s b t).2]) ∧ Gr w w' := by
  rcases two_cases a s b t with ⟨h0, h1, h2⟩ | ⟨hn, hc⟩
  · have H := Lib.hid (muR_ok a s b t h1 h2)
    obtain ⟨⟨a1, a2⟩, s1, s2⟩ := (fg_iff a s).1 h1
    obtain ⟨⟨b1, b2⟩, t1, t2⟩ := (fg_iff b t).1 h2
    have E0 := Lib.hid h0
    have E1 := Lib.hid h1
    have E2 := Lib.hid h2
    clear h0 h1 h2
    have p1 : 1 ≤ a * b := by have := Int.mul_le_mul a1 b1 (by omega) (by omega); omega
    have p2 : a * b ≤ 1000000000 := by have := Int.mul_le_mul a2 b2 (by omega) (by omega); omega
    have R := rdd_tens (a * b) (1) 3 (by omega) (by omega)
    have HP := Lib.hid (rdd_plus (a * b) (1) 3 (s + t - 6) (by omega) (by omega))
    have HX := Lib.hid (show ((rdd (a * b) (1) 3).1, (rdd (a * b) (1) 3).2 + (s + t - 6)) = rdd (a * b) 1 (s + t - 6 + 3) by
      rw [show s + t - 6 + 3 = 3 + (s + t - 6) by omega, ← HP.out.1, ← HP.out.2])
    go_enter Try.func15, Try.ntmps15
    go_wp2_with (go_at_call 28; refine (isFigure_impl _ _ _).mono ?_; (first | rw [E1.out] | rw [E2.out]); rintro e w' ⟨rfl, k, os, rfl⟩)
    have q1 : IntKind.i64.wrap (a * b) = a * b := IntWalk.i64_in _ (by omega)
    have q2 : IntKind.i64.wrap (s + t) = s + t := IntWalk.i64_in _ (by omega)
    have q3 : IntKind.i64.wrap (s + t - 6) = s + t - 6 := IntWalk.i64_in _ (by omega)
    go_region_held3 (fun w' => w'.cell? ⟨w.heap.size, 0, none⟩ = some (.int .i64 a) ∧ w'.cell? ⟨w.heap.size, 1, none⟩ = some (.int .i64 s) ∧ w'.cell? ⟨w.heap.size + 1, 0, none⟩ = some (.int .i64 b) ∧ w'.cell? ⟨w.heap.size + 1, 1, none⟩ = some (.int .i64 t)) (go_simp) (first
      | (go_at_call 39; refine (round_impl _ _ _ (by omega) (by omega) (by omega) (by omega)).mono ?_; rintro e w' ⟨rfl, k, os, rfl⟩)
      | (go_at_call 40; refine (shift_any _ _ _ _ (by omega) (by omega) (by omega) (by omega)).mono ?_; rw [HX.out]; rintro e w' ⟨rfl, k, os, rfl⟩))
    all_goals
      go_wp2
      ((try simp only [Exit.inBlock, Exit.then]); refine bodyPost_ret (v := .tuple #[.agg #[.int .i64 (rsl (rdd (a * b) 1 (s + t - 6 + 3))).1.1, .int .i64 (rsl (rdd (a * b) 1 (s + t - 6 + 3))).1.2], .int .i64 (rsl (rdd (a * b) 1 (s + t - 6 + 3))).2]) (by simp [results, Try.results15, go_sem]) rfl ?_)
      exact ⟨ret_fig (by rw [H.out]) (by rw [H.out]) (by rw [H.out]), (by repeat (first | with_reducible exact Gr.refl _ | with_reducible refine Gr.alloc ?_ _ | with_reducible refine Gr.gr ?_ _ _ | with_reducible refine Gr.drew ?_ | with_reducible refine Gr.drewN ?_ _))⟩
  · have H := Lib.hid (muR_no a s b t hn)
    clear hn
    rcases hc with h | ⟨h, h'⟩
    · have E1 := Lib.hid h
      clear h
      go_enter Try.func15, Try.ntmps15
      go_wp2_with (go_at_call 28; refine (isFigure_impl _ _ _).mono ?_; rw [E1.out]; rintro e w' ⟨rfl, k, os, rfl⟩)
      ((try simp only [Exit.inBlock, Exit.then]); refine bodyPost_ret (v := .tuple #[.agg #[.int .i64 0, .int .i64 0], .int .i64 1]) (by simp [results, Try.results15, go_sem]) rfl ?_)
      exact ⟨ret_fig (by rw [H.out]) (by rw [H.out]) (by rw [H.out]), (by repeat (first | with_reducible exact Gr.refl _ | with_reducible refine Gr.alloc ?_ _ | with_reducible refine Gr.gr ?_ _ _ | with_reducible refine Gr.drew ?_ | with_reducible refine Gr.drewN ?_ _))⟩
    · have E1 := Lib.hid h
      have E2 := Lib.hid h'
      clear h h'
      go_enter Try.func15, Try.ntmps15
      go_wp2_with (go_at_call 28; refine (isFigure_impl _ _ _).mono ?_; (first | rw [E1.out] | rw [E2.out]); rintro e w' ⟨rfl, k, os, rfl⟩)
      ((try simp only [Exit.inBlock, Exit.then]); refine bodyPost_ret (v := .tuple #[.agg #[.int .i64 0, .int .i64 0], .int .i64 1]) (by simp [results, Try.results15, go_sem]) rfl ?_)
      exact ⟨ret_fig (by rw [H.out]) (by rw [H.out]) (by rw [H.out]), (by repeat (first | with_reducible exact Gr.refl _ | with_reducible refine Gr.alloc ?_ _ | with_reducible refine Gr.gr ?_ _ _ | with_reducible refine Gr.drew ?_ | with_reducible refine Gr.drewN ?_ _))⟩

theorem muR_spec (a s b t : Int) (w : World) :
    Calls Try.prog 16 #[.agg #[.int .i64 a, .int .i64 s], .agg #[.int .i64 b, .int .i64 t]] w fun e w' => e = .returned (.tuple #[.agg #[.int .i64 (muR a s b t).1.1, .int .i64 (muR a s b t).1.2], .int .i64 (muR a s b t).2]) ∧ Gr w w' := by
  rcases two_cases a s b t with ⟨h0, h1, h2⟩ | ⟨hn, hc⟩
  · have H := Lib.hid (muR_ok a s b t h1 h2)
    obtain ⟨⟨a1, a2⟩, s1, s2⟩ := (fg_iff a s).1 h1
    obtain ⟨⟨b1, b2⟩, t1, t2⟩ := (fg_iff b t).1 h2
    have E0 := Lib.hid h0
    have E1 := Lib.hid h1
    have E2 := Lib.hid h2
    clear h0 h1 h2
    have p1 : 1 ≤ a * b := by have := Int.mul_le_mul a1 b1 (by omega) (by omega); omega
    have p2 : a * b ≤ 1000000000 := by have := Int.mul_le_mul a2 b2 (by omega) (by omega); omega
    go_enter Try.func16, Try.ntmps16
    go_wp2_with (first
      | (go_at_call 41; refine (two_spec _ _ _ _ _).mono ?_; rw [E0.out]; rintro e w' ⟨rfl, k, os, rfl⟩)
      | (go_at_call 43; refine (round_spec _ _ _ _ (by omega) (by omega) (by omega) (by omega) (by omega) (by omega)).mono ?_; rintro e w' ⟨rfl, k, os, rfl⟩)
      | (go_at_call 42; refine (result_pair (rdd (a * b) 1 (s + t - 6 + 3)) _).mono ?_; rintro e w' ⟨rfl, k, os, rfl⟩))
    ((try simp only [Exit.inBlock, Exit.then]); refine bodyPost_ret (v := .tuple #[.agg #[.int .i64 (rsl (rdd (a * b) 1 (s + t - 6 + 3))).1.1, .int .i64 (rsl (rdd (a * b) 1 (s + t - 6 + 3))).1.2], .int .i64 (rsl (rdd (a * b) 1 (s + t - 6 + 3))).2]) (by simp [results, Try.results16, go_sem]) rfl ?_)
    exact ⟨ret_fig (by rw [H.out]) (by rw [H.out]) (by rw [H.out]), (by repeat (first | with_reducible exact Gr.refl _ | with_reducible refine Gr.alloc ?_ _ | with_reducible refine Gr.gr ?_ _ _ | with_reducible refine Gr.drew ?_ | with_reducible refine Gr.drewN ?_ _))⟩
  · have H := Lib.hid (muR_no a s b t hn)
    have E0 := Lib.hid hn
    clear hn hc
    go_enter Try.func16, Try.ntmps16
    go_wp2_with (go_at_call 41; refine (two_spec _ _ _ _ _).mono ?_; rw [E0.out]; rintro e w' ⟨rfl, k, os, rfl⟩)
    ((try simp only [Exit.inBlock, Exit.then]); refine bodyPost_ret (v := .tuple #[.agg #[.int .i64 0, .int .i64 0], .int .i64 1]) (by simp [results, Try.results16, go_sem]) rfl ?_)
    exact ⟨ret_fig (by rw [H.out]) (by rw [H.out]) (by rw [H.out]), (by repeat (first | with_reducible exact Gr.refl _ | with_reducible refine Gr.alloc ?_ _ | with_reducible refine Gr.gr ?_ _ _ | with_reducible refine Gr.drew ?_ | with_reducible refine Gr.drewN ?_ _))⟩

end Go.Proofs.Ytondomnepipelaa
