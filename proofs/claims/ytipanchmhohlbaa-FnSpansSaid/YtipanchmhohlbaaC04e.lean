/- Contracts of chapter 4: spans of products, quotients and powers, in the program and in the model. -/
import Derived.Test.YtipanchmhohlbaaC04d
import Derived.Test.YtipanchmhohlbaaC02d
import Derived.Test.YtipanchmhohlbaaC03c
namespace Go.Proofs.Ytipanchmhohlbaa
open Go.RowKit Go.Shelf
set_option linter.unusedVariables false
set_option linter.unusedSimpArgs false

theorem fg_two (a s b t : Int) : ((fg a s && fg b t) = true ∧ fg a s = true ∧ fg b t = true) ∨ ((fg a s && fg b t) = false ∧ (fg a s = false ∨ (fg a s = true ∧ fg b t = false))) := by
  cases fg a s <;> cases fg b t <;> simp
/-- The logarithm of a valid figure is a valid interval; so are sums and differences of two. -/
theorem flg_iv (a s : Int) (h : fg a s = true) : (flg a s).1 < (flg a s).2 := by
  have := flg_width a s h
  omega
theorem iv_sum (a s b t : Int) (h1 : fg a s = true) (h2 : fg b t = true) : iv ((flg a s).1 + (flg b t).1) ((flg a s).2 + (flg b t).2) = true := by
  have b1 := flg_bd a s h1
  have b2 := flg_bd b t h2
  have w1 := flg_iv a s h1
  have w2 := flg_iv b t h2
  exact (iv_iff _ _).2 (by omega)
theorem iv_dif (a s b t : Int) (h1 : fg a s = true) (h2 : fg b t = true) : iv ((flg a s).1 - (flg b t).2) ((flg a s).2 - (flg b t).1) = true := by
  have b1 := flg_bd a s h1
  have b2 := flg_bd b t h2
  have w1 := flg_iv a s h1
  have w2 := flg_iv b t h2
  exact (iv_iff _ _).2 (by omega)

set_option maxHeartbeats 2000000 in
set_option maxRecDepth 100000 in
theorem psR_impl (a s b t : Int) (w : World) :
    Calls Try.prog 24 #[.agg #[.int .i64 a, .int .i64 s], .agg #[.int .i64 b, .int .i64 t]] w fun e w' => e = .returned (.tuple #[.agg #[.int .i64 (psR a s b t).a, .int .i64 (psR a s b t).s], .agg #[.int .i64 (psR a s b t).b, .int .i64 (psR a s b t).t], .int .i64 (psR a s b t).c]) ∧ Gr w w' := by
  rcases fg_two a s b t with ⟨h0, h1, h2⟩ | ⟨h0, h1 | ⟨h1, h2⟩⟩
  · have H := Lib.hid (psR_ok a s b t h0)
    have E1 := Lib.hid h1
    have E2 := Lib.hid h2
    have F1 := Lib.hid h1
    have F2 := Lib.hid h2
    have b1 := flg_bd a s h1
    have b2 := flg_bd b t h2
    have hS := Lib.hid (fun W => spR_impl ((flg a s).1 + (flg b t).1) ((flg a s).2 + (flg b t).2) W)
    rw [spR_ok _ _ (iv_sum a s b t h1 h2)] at hS
    generalize spU ((flg a s).1 + (flg b t).1) ((flg a s).2 + (flg b t).2) = x at *
    clear h0 h1 h2
    go_enter Try.func24, Try.ntmps24
    go_wp2_with (go_at_call 57; refine (isFigure_impl _ _ _).mono ?_; (first | rw [E1.out] | rw [E2.out]); rintro e w' ⟨rfl, k, os, rfl⟩)
    go_region_held3 (fun w' => w'.cell? ⟨w.heap.size, 0, none⟩ = some (.int .i64 a) ∧ w'.cell? ⟨w.heap.size, 1, none⟩ = some (.int .i64 s) ∧ w'.cell? ⟨w.heap.size + 1, 0, none⟩ = some (.int .i64 b) ∧ w'.cell? ⟨w.heap.size + 1, 1, none⟩ = some (.int .i64 t)) (go_simp) (first
      | (go_at_call 58; refine (figLog_any _ _ _ (by first | exact F1.out | exact F2.out)).mono ?_; rintro e w' ⟨rfl, k, os, rfl⟩)
      | (go_at_call 64; refine (plus_any _ _ _ _ _ (by omega) (by omega) (by omega) (by omega) (by omega) (by omega) (by omega) (by omega)).mono ?_; rintro e w' ⟨rfl, k, os, rfl⟩)
      | (go_at_call 30; refine (hS.out _).mono ?_; rintro e w' ⟨rfl, k, os, rfl⟩))
    all_goals
      go_wp2
      ((try simp only [Exit.inBlock, Exit.then]); refine bodyPost_ret (v := .tuple #[.agg #[.int .i64 (x).a, .int .i64 (x).s], .agg #[.int .i64 (x).b, .int .i64 (x).t], .int .i64 (x).c]) (by simp [results, Try.results24, go_sem]) rfl ?_)
      exact ⟨ret_sp' H.out, (by repeat (first | with_reducible exact Gr.refl _ | with_reducible refine Gr.alloc ?_ _ | with_reducible refine Gr.gr ?_ _ _ | with_reducible refine Gr.drew ?_ | with_reducible refine Gr.drewN ?_ _))⟩
  · have H := Lib.hid (psR_no a s b t h0)
    have E1 := Lib.hid h1
    clear h0 h1
    go_enter Try.func24, Try.ntmps24
    go_wp2_with (go_at_call 57; refine (isFigure_impl _ _ _).mono ?_; rw [E1.out]; rintro e w' ⟨rfl, k, os, rfl⟩)
    ((try simp only [Exit.inBlock, Exit.then]); refine bodyPost_ret (v := .tuple #[.agg #[.int .i64 0, .int .i64 0], .agg #[.int .i64 0, .int .i64 0], .int .i64 1]) (by simp [results, Try.results24, go_sem]) rfl ?_)
    exact ⟨ret_sp H.out, (by repeat (first | with_reducible exact Gr.refl _ | with_reducible refine Gr.alloc ?_ _ | with_reducible refine Gr.gr ?_ _ _ | with_reducible refine Gr.drew ?_ | with_reducible refine Gr.drewN ?_ _))⟩
  · have H := Lib.hid (psR_no a s b t h0)
    have E1 := Lib.hid h1
    have E2 := Lib.hid h2
    clear h0 h1 h2
    go_enter Try.func24, Try.ntmps24
    go_wp2_with (go_at_call 57; refine (isFigure_impl _ _ _).mono ?_; (first | rw [E1.out] | rw [E2.out]); rintro e w' ⟨rfl, k, os, rfl⟩)
    ((try simp only [Exit.inBlock, Exit.then]); refine bodyPost_ret (v := .tuple #[.agg #[.int .i64 0, .int .i64 0], .agg #[.int .i64 0, .int .i64 0], .int .i64 1]) (by simp [results, Try.results24, go_sem]) rfl ?_)
    exact ⟨ret_sp H.out, (by repeat (first | with_reducible exact Gr.refl _ | with_reducible refine Gr.alloc ?_ _ | with_reducible refine Gr.gr ?_ _ _ | with_reducible refine Gr.drew ?_ | with_reducible refine Gr.drewN ?_ _))⟩

set_option maxHeartbeats 2000000 in
set_option maxRecDepth 100000 in
theorem psR_spec (a s b t : Int) (w : World) :
    Calls Try.prog 25 #[.agg #[.int .i64 a, .int .i64 s], .agg #[.int .i64 b, .int .i64 t]] w fun e w' => e = .returned (.tuple #[.agg #[.int .i64 (psR a s b t).a, .int .i64 (psR a s b t).s], .agg #[.int .i64 (psR a s b t).b, .int .i64 (psR a s b t).t], .int .i64 (psR a s b t).c]) ∧ Gr w w' := by
  rcases fg_two a s b t with ⟨h0, h1, h2⟩ | ⟨h0, -⟩
  · have H := Lib.hid (psR_ok a s b t h0)
    have E := Lib.hid h0
    have F1 := Lib.hid h1
    have F2 := Lib.hid h2
    have b1 := flg_bd a s h1
    have b2 := flg_bd b t h2
    have hS := Lib.hid (fun W => spU_spec ((flg a s).1 + (flg b t).1) ((flg a s).2 + (flg b t).2) W)
    generalize spU ((flg a s).1 + (flg b t).1) ((flg a s).2 + (flg b t).2) = x at *
    clear h0 h1 h2
    go_enter Try.func25, Try.ntmps25
    go_wp2_with (go_at_call 65; refine (two_spec _ _ _ _ _).mono ?_; rw [E.out]; rintro e w' ⟨rfl, k, os, rfl⟩)
    go_region_held3 (fun w' => w'.cell? ⟨w.heap.size, 0, none⟩ = some (.int .i64 a) ∧ w'.cell? ⟨w.heap.size, 1, none⟩ = some (.int .i64 s) ∧ w'.cell? ⟨w.heap.size + 1, 0, none⟩ = some (.int .i64 b) ∧ w'.cell? ⟨w.heap.size + 1, 1, none⟩ = some (.int .i64 t)) (go_simp) (first
      | (go_at_call 68; refine (figure_spec3 _ _ _ (by first | exact F1.out | exact F2.out)).mono ?_; rintro e w' ⟨rfl, k, os, rfl⟩)
      | (go_at_call 67; refine (add_spec _ _ _ _ _ (by omega) (by omega) (by omega) (by omega) (by omega) (by omega) (by omega) (by omega)).mono ?_; rintro e w' ⟨rfl, k, os, rfl⟩)
      | (go_at_call 66; refine (hS.out _).mono ?_; rintro e w' ⟨rfl, k, os, rfl⟩))
    all_goals
      go_wp2
      ((try simp only [Exit.inBlock, Exit.then]); refine bodyPost_ret (v := .tuple #[.agg #[.int .i64 (x).a, .int .i64 (x).s], .agg #[.int .i64 (x).b, .int .i64 (x).t], .int .i64 (x).c]) (by simp [results, Try.results25, go_sem]) rfl ?_)
      exact ⟨ret_sp' H.out, (by repeat (first | with_reducible exact Gr.refl _ | with_reducible refine Gr.alloc ?_ _ | with_reducible refine Gr.gr ?_ _ _ | with_reducible refine Gr.drew ?_ | with_reducible refine Gr.drewN ?_ _))⟩
  · have H := Lib.hid (psR_no a s b t h0)
    have E := Lib.hid h0
    clear h0
    go_enter Try.func25, Try.ntmps25
    go_wp2_with (go_at_call 65; refine (two_spec _ _ _ _ _).mono ?_; rw [E.out]; rintro e w' ⟨rfl, k, os, rfl⟩)
    ((try simp only [Exit.inBlock, Exit.then]); refine bodyPost_ret (v := .tuple #[.agg #[.int .i64 0, .int .i64 0], .agg #[.int .i64 0, .int .i64 0], .int .i64 1]) (by simp [results, Try.results25, go_sem]) rfl ?_)
    exact ⟨ret_sp H.out, (by repeat (first | with_reducible exact Gr.refl _ | with_reducible refine Gr.alloc ?_ _ | with_reducible refine Gr.gr ?_ _ _ | with_reducible refine Gr.drew ?_ | with_reducible refine Gr.drewN ?_ _))⟩

set_option maxHeartbeats 2000000 in
set_option maxRecDepth 100000 in
theorem qsR_impl (a s b t : Int) (w : World) :
    Calls Try.prog 27 #[.agg #[.int .i64 a, .int .i64 s], .agg #[.int .i64 b, .int .i64 t]] w fun e w' => e = .returned (.tuple #[.agg #[.int .i64 (qsR a s b t).a, .int .i64 (qsR a s b t).s], .agg #[.int .i64 (qsR a s b t).b, .int .i64 (qsR a s b t).t], .int .i64 (qsR a s b t).c]) ∧ Gr w w' := by
  rcases fg_two a s b t with ⟨h0, h1, h2⟩ | ⟨h0, h1 | ⟨h1, h2⟩⟩
  · have H := Lib.hid (qsR_ok a s b t h0)
    have E1 := Lib.hid h1
    have E2 := Lib.hid h2
    have F1 := Lib.hid h1
    have F2 := Lib.hid h2
    have b1 := flg_bd a s h1
    have b2 := flg_bd b t h2
    have hS := Lib.hid (fun W => spR_impl ((flg a s).1 + -(flg b t).2) ((flg a s).2 + -(flg b t).1) W)
    have hT := Lib.hid (fun W => times_any (flg b t).1 (flg b t).2 (-1) W (by omega) (by omega) (by omega) (by omega) (by omega) (by omega))
    rw [(tms_one _ _).1, (tms_one _ _).2] at hT
    rw [← Int.sub_eq_add_neg, ← Int.sub_eq_add_neg, spR_ok _ _ (iv_dif a s b t h1 h2)] at hS
    rw [Int.sub_eq_add_neg, Int.sub_eq_add_neg] at hS H
    generalize spU ((flg a s).1 + -(flg b t).2) ((flg a s).2 + -(flg b t).1) = x at *
    clear h0 h1 h2
    go_enter Try.func27, Try.ntmps27
    go_wp2_with (go_at_call 57; refine (isFigure_impl _ _ _).mono ?_; (first | rw [E1.out] | rw [E2.out]); rintro e w' ⟨rfl, k, os, rfl⟩)
    go_region_held3 (fun w' => w'.cell? ⟨w.heap.size, 0, none⟩ = some (.int .i64 a) ∧ w'.cell? ⟨w.heap.size, 1, none⟩ = some (.int .i64 s) ∧ w'.cell? ⟨w.heap.size + 1, 0, none⟩ = some (.int .i64 b) ∧ w'.cell? ⟨w.heap.size + 1, 1, none⟩ = some (.int .i64 t)) (go_simp) (first
      | (go_at_call 58; refine (figLog_any _ _ _ (by first | exact F1.out | exact F2.out)).mono ?_; rintro e w' ⟨rfl, k, os, rfl⟩)
      | (go_at_call 69; refine (hT.out _).mono ?_; rintro e w' ⟨rfl, k, os, rfl⟩)
      | (go_at_call 64; refine (plus_any _ _ _ _ _ (by omega) (by omega) (by omega) (by omega) (by omega) (by omega) (by omega) (by omega)).mono ?_; rintro e w' ⟨rfl, k, os, rfl⟩)
      | (go_at_call 30; refine (hS.out _).mono ?_; rintro e w' ⟨rfl, k, os, rfl⟩))
    all_goals
      go_wp2
      ((try simp only [Exit.inBlock, Exit.then]); refine bodyPost_ret (v := .tuple #[.agg #[.int .i64 (x).a, .int .i64 (x).s], .agg #[.int .i64 (x).b, .int .i64 (x).t], .int .i64 (x).c]) (by simp [results, Try.results27, go_sem]) rfl ?_)
      exact ⟨ret_sp' H.out, (by repeat (first | with_reducible exact Gr.refl _ | with_reducible refine Gr.alloc ?_ _ | with_reducible refine Gr.gr ?_ _ _ | with_reducible refine Gr.drew ?_ | with_reducible refine Gr.drewN ?_ _))⟩
  · have H := Lib.hid (qsR_no a s b t h0)
    have E1 := Lib.hid h1
    clear h0 h1
    go_enter Try.func27, Try.ntmps27
    go_wp2_with (go_at_call 57; refine (isFigure_impl _ _ _).mono ?_; rw [E1.out]; rintro e w' ⟨rfl, k, os, rfl⟩)
    ((try simp only [Exit.inBlock, Exit.then]); refine bodyPost_ret (v := .tuple #[.agg #[.int .i64 0, .int .i64 0], .agg #[.int .i64 0, .int .i64 0], .int .i64 1]) (by simp [results, Try.results27, go_sem]) rfl ?_)
    exact ⟨ret_sp H.out, (by repeat (first | with_reducible exact Gr.refl _ | with_reducible refine Gr.alloc ?_ _ | with_reducible refine Gr.gr ?_ _ _ | with_reducible refine Gr.drew ?_ | with_reducible refine Gr.drewN ?_ _))⟩
  · have H := Lib.hid (qsR_no a s b t h0)
    have E1 := Lib.hid h1
    have E2 := Lib.hid h2
    clear h0 h1 h2
    go_enter Try.func27, Try.ntmps27
    go_wp2_with (go_at_call 57; refine (isFigure_impl _ _ _).mono ?_; (first | rw [E1.out] | rw [E2.out]); rintro e w' ⟨rfl, k, os, rfl⟩)
    ((try simp only [Exit.inBlock, Exit.then]); refine bodyPost_ret (v := .tuple #[.agg #[.int .i64 0, .int .i64 0], .agg #[.int .i64 0, .int .i64 0], .int .i64 1]) (by simp [results, Try.results27, go_sem]) rfl ?_)
    exact ⟨ret_sp H.out, (by repeat (first | with_reducible exact Gr.refl _ | with_reducible refine Gr.alloc ?_ _ | with_reducible refine Gr.gr ?_ _ _ | with_reducible refine Gr.drew ?_ | with_reducible refine Gr.drewN ?_ _))⟩

set_option maxHeartbeats 2000000 in
set_option maxRecDepth 100000 in
theorem qsR_spec (a s b t : Int) (w : World) :
    Calls Try.prog 28 #[.agg #[.int .i64 a, .int .i64 s], .agg #[.int .i64 b, .int .i64 t]] w fun e w' => e = .returned (.tuple #[.agg #[.int .i64 (qsR a s b t).a, .int .i64 (qsR a s b t).s], .agg #[.int .i64 (qsR a s b t).b, .int .i64 (qsR a s b t).t], .int .i64 (qsR a s b t).c]) ∧ Gr w w' := by
  rcases fg_two a s b t with ⟨h0, h1, h2⟩ | ⟨h0, -⟩
  · have H := Lib.hid (qsR_ok a s b t h0)
    have E := Lib.hid h0
    have F1 := Lib.hid h1
    have F2 := Lib.hid h2
    have b1 := flg_bd a s h1
    have b2 := flg_bd b t h2
    have hS := Lib.hid (fun W => spU_spec ((flg a s).1 - (flg b t).2) ((flg a s).2 - (flg b t).1) W)
    generalize spU ((flg a s).1 - (flg b t).2) ((flg a s).2 - (flg b t).1) = x at *
    clear h0 h1 h2
    go_enter Try.func28, Try.ntmps28
    go_wp2_with (go_at_call 65; refine (two_spec _ _ _ _ _).mono ?_; rw [E.out]; rintro e w' ⟨rfl, k, os, rfl⟩)
    go_region_held3 (fun w' => w'.cell? ⟨w.heap.size, 0, none⟩ = some (.int .i64 a) ∧ w'.cell? ⟨w.heap.size, 1, none⟩ = some (.int .i64 s) ∧ w'.cell? ⟨w.heap.size + 1, 0, none⟩ = some (.int .i64 b) ∧ w'.cell? ⟨w.heap.size + 1, 1, none⟩ = some (.int .i64 t)) (go_simp) (first
      | (go_at_call 68; refine (figure_spec3 _ _ _ (by first | exact F1.out | exact F2.out)).mono ?_; rintro e w' ⟨rfl, k, os, rfl⟩)
      | (go_at_call 70; refine (sub_spec _ _ _ _ _ (by omega) (by omega) (by omega) (by omega) (by omega) (by omega) (by omega) (by omega)).mono ?_; rintro e w' ⟨rfl, k, os, rfl⟩)
      | (go_at_call 66; refine (hS.out _).mono ?_; rintro e w' ⟨rfl, k, os, rfl⟩))
    all_goals
      go_wp2
      ((try simp only [Exit.inBlock, Exit.then]); refine bodyPost_ret (v := .tuple #[.agg #[.int .i64 (x).a, .int .i64 (x).s], .agg #[.int .i64 (x).b, .int .i64 (x).t], .int .i64 (x).c]) (by simp [results, Try.results28, go_sem]) rfl ?_)
      exact ⟨ret_sp' H.out, (by repeat (first | with_reducible exact Gr.refl _ | with_reducible refine Gr.alloc ?_ _ | with_reducible refine Gr.gr ?_ _ _ | with_reducible refine Gr.drew ?_ | with_reducible refine Gr.drewN ?_ _))⟩
  · have H := Lib.hid (qsR_no a s b t h0)
    have E := Lib.hid h0
    clear h0
    go_enter Try.func28, Try.ntmps28
    go_wp2_with (go_at_call 65; refine (two_spec _ _ _ _ _).mono ?_; rw [E.out]; rintro e w' ⟨rfl, k, os, rfl⟩)
    ((try simp only [Exit.inBlock, Exit.then]); refine bodyPost_ret (v := .tuple #[.agg #[.int .i64 0, .int .i64 0], .agg #[.int .i64 0, .int .i64 0], .int .i64 1]) (by simp [results, Try.results28, go_sem]) rfl ?_)
    exact ⟨ret_sp H.out, (by repeat (first | with_reducible exact Gr.refl _ | with_reducible refine Gr.alloc ?_ _ | with_reducible refine Gr.gr ?_ _ _ | with_reducible refine Gr.drew ?_ | with_reducible refine Gr.drewN ?_ _))⟩
end Go.Proofs.Ytipanchmhohlbaa
