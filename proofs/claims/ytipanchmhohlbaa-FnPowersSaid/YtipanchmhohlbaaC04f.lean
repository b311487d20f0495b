/- Contracts of chapter 4: spans of powers, errors of spans, middles, in the program and in the model. -/
import Derived.Test.YtipanchmhohlbaaC04d
import Derived.Test.YtipanchmhohlbaaC02d
import Derived.Test.YtipanchmhohlbaaC03c
import Derived.Test.YtipanchmhohlbaaC02e
import Derived.Test.YtipanchmhohlbaaM08
namespace Go.Proofs.Ytipanchmhohlbaa
open Go.RowKit Go.Shelf
set_option linter.unusedVariables false
set_option linter.unusedSimpArgs false

theorem scR_iv (a b n d : Int) (h : (scR a b n d).2 = 0) : iv (scR a b n d).1.1 (scR a b n d).1.2 = true := by
  rcases scR_facts a b n d with hc | ⟨-, -, -, -, -, hi⟩
  · exact absurd h hc
  · exact hi

set_option maxHeartbeats 2000000 in
set_option maxRecDepth 100000 in
theorem pwR_impl (a s n d : Int) (w : World) :
    Calls Try.prog 35 #[.agg #[.int .i64 a, .int .i64 s], .int .i64 n, .int .i64 d] w fun e w' => e = .returned (.tuple #[.agg #[.int .i64 (pwR a s n d).a, .int .i64 (pwR a s n d).s], .agg #[.int .i64 (pwR a s n d).b, .int .i64 (pwR a s n d).t], .int .i64 (pwR a s n d).c]) ∧ Gr w w' := by
  have e1 : fg a s = true ∨ fg a s = false := by cases fg a s <;> simp
  rcases e1 with e1 | e1
  · have E := Lib.hid e1
    have L := Lib.hid (fun W => figLog_any a s W e1)
    have hC := Lib.hid (fun W => scR_impl (flg a s).1 (flg a s).2 n d W)
    by_cases h2 : (scR (flg a s).1 (flg a s).2 n d).2 = 0
    · have H := Lib.hid (pwR_ok a s n d e1 h2)
      have hS := Lib.hid (fun W => spR_impl (scR (flg a s).1 (flg a s).2 n d).1.1 (scR (flg a s).1 (flg a s).2 n d).1.2 W)
      rw [spR_ok _ _ (scR_iv _ _ _ _ h2)] at hS
      rw [h2] at hC
      generalize (scR (flg a s).1 (flg a s).2 n d).1.1 = u at *
      generalize (scR (flg a s).1 (flg a s).2 n d).1.2 = v at *
      generalize spU u v = x at *
      clear e1 h2
      go_enter Try.func35, Try.ntmps35
      go_wp2_with (first
        | (go_at_call 57; refine (isFigure_impl _ _ _).mono ?_; rw [E.out]; rintro e w' ⟨rfl, k, os, rfl⟩)
        | (go_at_call 58; refine (L.out _).mono ?_; rintro e w' ⟨rfl, k, os, rfl⟩)
        | (go_at_call 78; refine (hC.out _).mono ?_; rintro e w' ⟨rfl, k, os, rfl⟩)
        | (go_at_call 30; refine (hS.out _).mono ?_; rintro e w' ⟨rfl, k, os, rfl⟩))
      ((try simp only [Exit.inBlock, Exit.then]); refine bodyPost_ret (v := .tuple #[.agg #[.int .i64 (x).a, .int .i64 (x).s], .agg #[.int .i64 (x).b, .int .i64 (x).t], .int .i64 (x).c]) (by simp [results, Try.results35, go_sem]) rfl ?_)
      exact ⟨ret_sp' H.out, (by repeat (first | with_reducible exact Gr.refl _ | with_reducible refine Gr.alloc ?_ _ | with_reducible refine Gr.gr ?_ _ _ | with_reducible refine Gr.drew ?_ | with_reducible refine Gr.drewN ?_ _))⟩
    · have H := Lib.hid (pwR_bad a s n d e1 h2)
      generalize (scR (flg a s).1 (flg a s).2 n d).1.1 = u at *
      generalize (scR (flg a s).1 (flg a s).2 n d).1.2 = v at *
      generalize (scR (flg a s).1 (flg a s).2 n d).2 = c at *
      have h3 : (c != 0) = true := by simp [h2]
      clear e1
      go_enter Try.func35, Try.ntmps35
      go_wp2_with (first
        | (go_at_call 57; refine (isFigure_impl _ _ _).mono ?_; rw [E.out]; rintro e w' ⟨rfl, k, os, rfl⟩)
        | (go_at_call 58; refine (L.out _).mono ?_; rintro e w' ⟨rfl, k, os, rfl⟩)
        | (go_at_call 78; refine (hC.out _).mono ?_; rintro e w' ⟨rfl, k, os, rfl⟩))
      ((try simp only [Exit.inBlock, Exit.then]); refine bodyPost_ret (v := .tuple #[.agg #[.int .i64 0, .int .i64 0], .agg #[.int .i64 0, .int .i64 0], .int .i64 c]) (by simp [results, Try.results35, go_sem]) rfl ?_)
      exact ⟨ret_sp H.out, (by repeat (first | with_reducible exact Gr.refl _ | with_reducible refine Gr.alloc ?_ _ | with_reducible refine Gr.gr ?_ _ _ | with_reducible refine Gr.drew ?_ | with_reducible refine Gr.drewN ?_ _))⟩
  · have H := Lib.hid (pwR_no a s n d e1)
    have E := Lib.hid e1
    clear e1
    go_enter Try.func35, Try.ntmps35
    go_wp2_with (go_at_call 57; refine (isFigure_impl _ _ _).mono ?_; rw [E.out]; rintro e w' ⟨rfl, k, os, rfl⟩)
    ((try simp only [Exit.inBlock, Exit.then]); refine bodyPost_ret (v := .tuple #[.agg #[.int .i64 0, .int .i64 0], .agg #[.int .i64 0, .int .i64 0], .int .i64 1]) (by simp [results, Try.results35, go_sem]) rfl ?_)
    exact ⟨ret_sp H.out, (by repeat (first | with_reducible exact Gr.refl _ | with_reducible refine Gr.alloc ?_ _ | with_reducible refine Gr.gr ?_ _ _ | with_reducible refine Gr.drew ?_ | with_reducible refine Gr.drewN ?_ _))⟩

set_option maxHeartbeats 2000000 in
set_option maxRecDepth 100000 in
theorem pwR_spec (a s n d : Int) (w : World) :
    Calls Try.prog 36 #[.agg #[.int .i64 a, .int .i64 s], .int .i64 n, .int .i64 d] w fun e w' => e = .returned (.tuple #[.agg #[.int .i64 (pwR a s n d).a, .int .i64 (pwR a s n d).s], .agg #[.int .i64 (pwR a s n d).b, .int .i64 (pwR a s n d).t], .int .i64 (pwR a s n d).c]) ∧ Gr w w' := by
  have e1 : fg a s = true ∨ fg a s = false := by cases fg a s <;> simp
  rcases e1 with e1 | e1
  · have E := Lib.hid e1
    have L := Lib.hid (fun W => figure_spec3 a s W e1)
    have hC := Lib.hid (fun W => scR_spec (flg a s).1 (flg a s).2 n d W)
    by_cases h2 : (scR (flg a s).1 (flg a s).2 n d).2 = 0
    · have H := Lib.hid (pwR_ok a s n d e1 h2)
      have hS := Lib.hid (fun W => spU_spec (scR (flg a s).1 (flg a s).2 n d).1.1 (scR (flg a s).1 (flg a s).2 n d).1.2 W)
      rw [h2] at hC
      generalize (scR (flg a s).1 (flg a s).2 n d).1.1 = u at *
      generalize (scR (flg a s).1 (flg a s).2 n d).1.2 = v at *
      generalize spU u v = x at *
      clear e1 h2
      go_enter Try.func36, Try.ntmps36
      go_wp2_with (first
        | (go_at_call 79; refine (isFigure_spec _ _ _).mono ?_; rw [E.out]; rintro e w' ⟨rfl, k, os, rfl⟩)
        | (go_at_call 68; refine (L.out _).mono ?_; rintro e w' ⟨rfl, k, os, rfl⟩)
        | (go_at_call 80; refine (hC.out _).mono ?_; rintro e w' ⟨rfl, k, os, rfl⟩)
        | (go_at_call 66; refine (hS.out _).mono ?_; rintro e w' ⟨rfl, k, os, rfl⟩))
      ((try simp only [Exit.inBlock, Exit.then]); refine bodyPost_ret (v := .tuple #[.agg #[.int .i64 (x).a, .int .i64 (x).s], .agg #[.int .i64 (x).b, .int .i64 (x).t], .int .i64 (x).c]) (by simp [results, Try.results36, go_sem]) rfl ?_)
      exact ⟨ret_sp' H.out, (by repeat (first | with_reducible exact Gr.refl _ | with_reducible refine Gr.alloc ?_ _ | with_reducible refine Gr.gr ?_ _ _ | with_reducible refine Gr.drew ?_ | with_reducible refine Gr.drewN ?_ _))⟩
    · have H := Lib.hid (pwR_bad a s n d e1 h2)
      generalize (scR (flg a s).1 (flg a s).2 n d).1.1 = u at *
      generalize (scR (flg a s).1 (flg a s).2 n d).1.2 = v at *
      generalize (scR (flg a s).1 (flg a s).2 n d).2 = c at *
      have h3 : (c != 0) = true := by simp [h2]
      clear e1
      go_enter Try.func36, Try.ntmps36
      go_wp2_with (first
        | (go_at_call 79; refine (isFigure_spec _ _ _).mono ?_; rw [E.out]; rintro e w' ⟨rfl, k, os, rfl⟩)
        | (go_at_call 68; refine (L.out _).mono ?_; rintro e w' ⟨rfl, k, os, rfl⟩)
        | (go_at_call 80; refine (hC.out _).mono ?_; rintro e w' ⟨rfl, k, os, rfl⟩))
      ((try simp only [Exit.inBlock, Exit.then]); refine bodyPost_ret (v := .tuple #[.agg #[.int .i64 0, .int .i64 0], .agg #[.int .i64 0, .int .i64 0], .int .i64 c]) (by simp [results, Try.results36, go_sem]) rfl ?_)
      exact ⟨ret_sp H.out, (by repeat (first | with_reducible exact Gr.refl _ | with_reducible refine Gr.alloc ?_ _ | with_reducible refine Gr.gr ?_ _ _ | with_reducible refine Gr.drew ?_ | with_reducible refine Gr.drewN ?_ _))⟩
  · have H := Lib.hid (pwR_no a s n d e1)
    have E := Lib.hid e1
    clear e1
    go_enter Try.func36, Try.ntmps36
    go_wp2_with (go_at_call 79; refine (isFigure_spec _ _ _).mono ?_; rw [E.out]; rintro e w' ⟨rfl, k, os, rfl⟩)
    ((try simp only [Exit.inBlock, Exit.then]); refine bodyPost_ret (v := .tuple #[.agg #[.int .i64 0, .int .i64 0], .agg #[.int .i64 0, .int .i64 0], .int .i64 1]) (by simp [results, Try.results36, go_sem]) rfl ?_)
    exact ⟨ret_sp H.out, (by repeat (first | with_reducible exact Gr.refl _ | with_reducible refine Gr.alloc ?_ _ | with_reducible refine Gr.gr ?_ _ _ | with_reducible refine Gr.drew ?_ | with_reducible refine Gr.drewN ?_ _))⟩

theorem scd_impl (a s b t : Int) (w : World) :
    Calls Try.prog 81 #[.agg #[.int .i64 a, .int .i64 s], .agg #[.int .i64 b, .int .i64 t]] w fun e w' => e = .returned (.int .i64 (scd a s b t)) ∧ Gr w w' := by
  have hC := Lib.hid (fun W => cmR_impl a s b t W)
  rcases scd_cases a s b t with ⟨h0, h⟩ | ⟨h0, h1, h2, h3, h⟩ | ⟨h0, h1, h2, h3, h⟩
  · rw [cmR_no a s b t h0] at hC
    have H := Lib.hid h
    clear h0 h
    go_enter Try.func81, Try.ntmps81
    go_wp2_with (go_at_call 62; refine (hC.out _).mono ?_; rintro e w' ⟨rfl, k, os, rfl⟩)
    go_ret
    exact ⟨ret_int (by rw [H.out]), (by repeat (first | with_reducible exact Gr.refl _ | with_reducible refine Gr.alloc ?_ _ | with_reducible refine Gr.gr ?_ _ _ | with_reducible refine Gr.drew ?_ | with_reducible refine Gr.drewN ?_ _))⟩
  · rw [cmR_ok a s b t h1 h2, cmpI_gt _ _ h3] at hC
    have H := Lib.hid h
    clear h0 h h1 h2 h3
    go_enter Try.func81, Try.ntmps81
    go_wp2_with (go_at_call 62; refine (hC.out _).mono ?_; rintro e w' ⟨rfl, k, os, rfl⟩)
    go_ret
    exact ⟨ret_int (by rw [H.out]), (by repeat (first | with_reducible exact Gr.refl _ | with_reducible refine Gr.alloc ?_ _ | with_reducible refine Gr.gr ?_ _ _ | with_reducible refine Gr.drew ?_ | with_reducible refine Gr.drewN ?_ _))⟩
  · have H := Lib.hid h
    rw [cmR_ok a s b t h1 h2] at hC
    rcases Int.lt_or_eq_of_le h3 with h4 | h4
    · rw [cmpI_lt _ _ h4] at hC
      clear h0 h h1 h2 h3 h4
      go_enter Try.func81, Try.ntmps81
      go_wp2_with (go_at_call 62; refine (hC.out _).mono ?_; rintro e w' ⟨rfl, k, os, rfl⟩)
      go_ret
      exact ⟨ret_int (by rw [H.out]), (by repeat (first | with_reducible exact Gr.refl _ | with_reducible refine Gr.alloc ?_ _ | with_reducible refine Gr.gr ?_ _ _ | with_reducible refine Gr.drew ?_ | with_reducible refine Gr.drewN ?_ _))⟩
    · rw [cmpI_eq _ _ h4] at hC
      clear h0 h h1 h2 h3 h4
      go_enter Try.func81, Try.ntmps81
      go_wp2_with (go_at_call 62; refine (hC.out _).mono ?_; rintro e w' ⟨rfl, k, os, rfl⟩)
      go_ret
      exact ⟨ret_int (by rw [H.out]), (by repeat (first | with_reducible exact Gr.refl _ | with_reducible refine Gr.alloc ?_ _ | with_reducible refine Gr.gr ?_ _ _ | with_reducible refine Gr.drew ?_ | with_reducible refine Gr.drewN ?_ _))⟩

theorem scd_code (a s b t : Int) : scd a s b t = 0 ∨ ((scd a s b t != 0) = true ∧ scd a s b t ≠ 0) := by
  rcases scd_cases a s b t with ⟨-, h⟩ | ⟨-, -, -, -, h⟩ | ⟨-, -, -, -, h⟩ <;> simp [h]

theorem seR_impl (a s b t : Int) (w : World) :
    Calls Try.prog 38 #[.agg #[.int .i64 a, .int .i64 s], .agg #[.int .i64 b, .int .i64 t]] w fun e w' => e = .returned (.tuple #[.int .i64 (seR a s b t).1, .int .i64 (seR a s b t).2]) ∧ Gr w w' := by
  have hC := Lib.hid (fun W => scd_impl a s b t W)
  rcases scd_code a s b t with h | ⟨h, h'⟩
  · have H := Lib.hid (seR_ok a s b t h)
    have hR := Lib.hid (fun W => reR_impl b t a s W)
    rw [h] at hC
    generalize (reR b t a s) = p at *
    clear h
    go_enter Try.func38, Try.ntmps38
    go_wp2_with (first
      | (go_at_call 81; refine (hC.out _).mono ?_; rintro e w' ⟨rfl, k, os, rfl⟩)
      | (go_at_call 21; refine (hR.out _).mono ?_; rintro e w' ⟨rfl, k, os, rfl⟩))
    go_ret2
    exact ⟨ret_two (by rw [H.out]) (by rw [H.out]), (by repeat (first | with_reducible exact Gr.refl _ | with_reducible refine Gr.alloc ?_ _ | with_reducible refine Gr.gr ?_ _ _ | with_reducible refine Gr.drew ?_ | with_reducible refine Gr.drewN ?_ _))⟩
  · have H := Lib.hid (seR_no a s b t h')
    generalize scd a s b t = c at *
    clear h'
    go_enter Try.func38, Try.ntmps38
    go_wp2_with (go_at_call 81; refine (hC.out _).mono ?_; rintro e w' ⟨rfl, k, os, rfl⟩)
    go_ret2
    exact ⟨ret_two (by rw [H.out]) (by rw [H.out]), (by repeat (first | with_reducible exact Gr.refl _ | with_reducible refine Gr.alloc ?_ _ | with_reducible refine Gr.gr ?_ _ _ | with_reducible refine Gr.drew ?_ | with_reducible refine Gr.drewN ?_ _))⟩

theorem seR_spec (a s b t : Int) (w : World) :
    Calls Try.prog 39 #[.agg #[.int .i64 a, .int .i64 s], .agg #[.int .i64 b, .int .i64 t]] w fun e w' => e = .returned (.tuple #[.int .i64 (seR a s b t).1, .int .i64 (seR a s b t).2]) ∧ Gr w w' := by
  rcases scd_cases a s b t with ⟨h0, h⟩ | ⟨h0, h1, h2, h3, h⟩ | ⟨h0, h1, h2, h3, h⟩
  · have H := Lib.hid (seR_no a s b t (by omega))
    rw [h] at H
    have E := Lib.hid h0
    clear h0 h
    go_enter Try.func39, Try.ntmps39
    go_wp2_with (go_at_call 65; refine (two_spec _ _ _ _ _).mono ?_; rw [E.out]; rintro e w' ⟨rfl, k, os, rfl⟩)
    go_ret2
    exact ⟨ret_two (by rw [H.out]) (by rw [H.out]), (by repeat (first | with_reducible exact Gr.refl _ | with_reducible refine Gr.alloc ?_ _ | with_reducible refine Gr.gr ?_ _ _ | with_reducible refine Gr.drew ?_ | with_reducible refine Gr.drewN ?_ _))⟩
  · have H := Lib.hid (seR_no a s b t (by omega))
    rw [h] at H
    have E := Lib.hid h0
    have hc := Lib.hid (fun W => compare_spec b t a s W h2 h1)
    rw [cmpI_lt _ _ h3] at hc
    clear h0 h h1 h2 h3
    go_enter Try.func39, Try.ntmps39
    go_wp2_with (first
      | (go_at_call 65; refine (two_spec _ _ _ _ _).mono ?_; rw [E.out]; rintro e w' ⟨rfl, k, os, rfl⟩)
      | (go_at_call 82; refine (hc.out _).mono ?_; rintro e w' ⟨rfl, k, os, rfl⟩))
    go_ret2
    exact ⟨ret_two (by rw [H.out]) (by rw [H.out]), (by repeat (first | with_reducible exact Gr.refl _ | with_reducible refine Gr.alloc ?_ _ | with_reducible refine Gr.gr ?_ _ _ | with_reducible refine Gr.drew ?_ | with_reducible refine Gr.drewN ?_ _))⟩
  · have H := Lib.hid (seR_ok a s b t h)
    have E := Lib.hid h0
    have hc := Lib.hid (fun W => compare_spec b t a s W h2 h1)
    have hR := Lib.hid (fun W => reR_spec b t a s W)
    generalize (reR b t a s) = p at *
    rcases Int.lt_or_eq_of_le h3 with h4 | h4
    · rw [cmpI_gt _ _ h4] at hc
      clear h0 h h1 h2 h3 h4
      go_enter Try.func39, Try.ntmps39
      go_wp2_with (first
        | (go_at_call 65; refine (two_spec _ _ _ _ _).mono ?_; rw [E.out]; rintro e w' ⟨rfl, k, os, rfl⟩)
        | (go_at_call 82; refine (hc.out _).mono ?_; rintro e w' ⟨rfl, k, os, rfl⟩)
        | (go_at_call 83; refine (hR.out _).mono ?_; rintro e w' ⟨rfl, k, os, rfl⟩))
      go_ret2
      exact ⟨ret_two (by rw [H.out]) (by rw [H.out]), (by repeat (first | with_reducible exact Gr.refl _ | with_reducible refine Gr.alloc ?_ _ | with_reducible refine Gr.gr ?_ _ _ | with_reducible refine Gr.drew ?_ | with_reducible refine Gr.drewN ?_ _))⟩
    · rw [cmpI_eq _ _ h4.symm] at hc
      clear h0 h h1 h2 h3 h4
      go_enter Try.func39, Try.ntmps39
      go_wp2_with (first
        | (go_at_call 65; refine (two_spec _ _ _ _ _).mono ?_; rw [E.out]; rintro e w' ⟨rfl, k, os, rfl⟩)
        | (go_at_call 82; refine (hc.out _).mono ?_; rintro e w' ⟨rfl, k, os, rfl⟩)
        | (go_at_call 83; refine (hR.out _).mono ?_; rintro e w' ⟨rfl, k, os, rfl⟩))
      go_ret2
      exact ⟨ret_two (by rw [H.out]) (by rw [H.out]), (by repeat (first | with_reducible exact Gr.refl _ | with_reducible refine Gr.alloc ?_ _ | with_reducible refine Gr.gr ?_ _ _ | with_reducible refine Gr.drew ?_ | with_reducible refine Gr.drewN ?_ _))⟩

set_option maxHeartbeats 2000000 in
set_option maxRecDepth 100000 in
theorem miR_impl (a s b t : Int) (w : World) :
    Calls Try.prog 41 #[.agg #[.int .i64 a, .int .i64 s], .agg #[.int .i64 b, .int .i64 t]] w fun e w' => e = .returned (.tuple #[.agg #[.int .i64 (miR a s b t).1.1, .int .i64 (miR a s b t).1.2], .int .i64 (miR a s b t).2]) ∧ Gr w w' := by
  have hC := Lib.hid (fun W => scd_impl a s b t W)
  rcases scd_cases a s b t with ⟨h0, h⟩ | ⟨h0, h1, h2, h3, h⟩ | ⟨h0, h1, h2, h3, h⟩
  · have H := Lib.hid (miR_no a s b t (by omega))
    rw [h] at H hC
    clear h0 h
    go_enter Try.func41, Try.ntmps41
    go_wp2_with (go_at_call 81; refine (hC.out _).mono ?_; rintro e w' ⟨rfl, k, os, rfl⟩)
    ((try simp only [Exit.inBlock, Exit.then]); refine bodyPost_ret (v := .tuple #[.agg #[.int .i64 0, .int .i64 0], .int .i64 1]) (by simp [results, Try.results41, go_sem]) rfl ?_)
    exact ⟨ret_fig (by rw [H.out]) (by rw [H.out]) (by rw [H.out]), (by repeat (first | with_reducible exact Gr.refl _ | with_reducible refine Gr.alloc ?_ _ | with_reducible refine Gr.gr ?_ _ _ | with_reducible refine Gr.drew ?_ | with_reducible refine Gr.drewN ?_ _))⟩
  · have H := Lib.hid (miR_no a s b t (by omega))
    rw [h] at H hC
    clear h0 h h1 h2 h3
    go_enter Try.func41, Try.ntmps41
    go_wp2_with (go_at_call 81; refine (hC.out _).mono ?_; rintro e w' ⟨rfl, k, os, rfl⟩)
    ((try simp only [Exit.inBlock, Exit.then]); refine bodyPost_ret (v := .tuple #[.agg #[.int .i64 0, .int .i64 0], .int .i64 5]) (by simp [results, Try.results41, go_sem]) rfl ?_)
    exact ⟨ret_fig (by rw [H.out]) (by rw [H.out]) (by rw [H.out]), (by repeat (first | with_reducible exact Gr.refl _ | with_reducible refine Gr.alloc ?_ _ | with_reducible refine Gr.gr ?_ _ _ | with_reducible refine Gr.drew ?_ | with_reducible refine Gr.drewN ?_ _))⟩
  · have H := Lib.hid (miR_ok a s b t h)
    have F1 := Lib.hid h1
    have F2 := Lib.hid h2
    have b1 := flg_bd a s h1
    have b2 := flg_bd b t h2
    rw [h] at hC
    have q : IntKind.i64.wrap ((flg a s).1 + (flg b t).2) = (flg a s).1 + (flg b t).2 := IntWalk.i64_in _ (by omega)
    clear h0 h h1 h2 h3
    go_enter Try.func41, Try.ntmps41
    go_wp2_with (go_at_call 81; refine (hC.out _).mono ?_; rintro e w' ⟨rfl, k, os, rfl⟩)
    go_region_held3 (fun w' => w'.cell? ⟨w.heap.size, 0, none⟩ = some (.int .i64 a) ∧ w'.cell? ⟨w.heap.size, 1, none⟩ = some (.int .i64 s) ∧ w'.cell? ⟨w.heap.size + 1, 0, none⟩ = some (.int .i64 b) ∧ w'.cell? ⟨w.heap.size + 1, 1, none⟩ = some (.int .i64 t)) (go_simp) (first
      | (go_at_call 58; refine (figLog_any _ _ _ (by first | exact F1.out | exact F2.out)).mono ?_; rintro e w' ⟨rfl, k, os, rfl⟩)
      | (go_at_call 84; refine (quotientDown_any _ _ _ (by omega) (by omega) (by omega) (by omega) (by omega)).mono ?_; rintro e w' ⟨rfl, rfl⟩)
      | (go_at_call 18; refine (faR_impl _ _).mono ?_; rintro e w' ⟨rfl, k, os, rfl⟩))
    all_goals
      go_wp2
      ((try simp only [Exit.inBlock, Exit.then]); refine bodyPost_ret (v := .tuple #[.agg #[.int .i64 (faR (((flg a s).1 + (flg b t).2).fdiv 2)).1.1, .int .i64 (faR (((flg a s).1 + (flg b t).2).fdiv 2)).1.2], .int .i64 (faR (((flg a s).1 + (flg b t).2).fdiv 2)).2]) (by simp [results, Try.results41, go_sem]) rfl ?_)
      exact ⟨ret_fig (by rw [H.out]) (by rw [H.out]) (by rw [H.out]), (by repeat (first | with_reducible exact Gr.refl _ | with_reducible refine Gr.alloc ?_ _ | with_reducible refine Gr.gr ?_ _ _ | with_reducible refine Gr.drew ?_ | with_reducible refine Gr.drewN ?_ _))⟩

set_option maxHeartbeats 2000000 in
set_option maxRecDepth 100000 in
theorem miR_some (a s b t : Int) (w : World) (E : Hid ((fg a s && fg b t) = true)) (h1 : fg a s = true) (h2 : fg b t = true) (H : Hid (miR a s b t = faR (((flg a s).1 + (flg b t).2).fdiv 2)))
    (c : Int) (hc0 : 0 ≤ c) (hc : Hid (∀ W, Calls Try.prog 82 #[.agg #[.int .i64 b, .int .i64 t], .agg #[.int .i64 a, .int .i64 s]] W fun e w' => e = .returned (.int .i64 c) ∧ Gr W w')) :
    Calls Try.prog 42 #[.agg #[.int .i64 a, .int .i64 s], .agg #[.int .i64 b, .int .i64 t]] w fun e w' => e = .returned (.tuple #[.agg #[.int .i64 (miR a s b t).1.1, .int .i64 (miR a s b t).1.2], .int .i64 (miR a s b t).2]) ∧ Gr w w' := by
  have F1 := Lib.hid h1
  have F2 := Lib.hid h2
  have b1 := flg_bd a s h1
  have b2 := flg_bd b t h2
  have q : IntKind.i64.wrap ((flg a s).1 + (flg b t).2) = (flg a s).1 + (flg b t).2 := IntWalk.i64_in _ (by omega)
  clear h1 h2
  have e1 : un (((flg a s).1 + (flg b t).2).fdiv 2) = true ∨ un (((flg a s).1 + (flg b t).2).fdiv 2) = false := by cases un (((flg a s).1 + (flg b t).2).fdiv 2) <;> simp
  rcases e1 with e1 | e1
  · rw [faR_ok (((flg a s).1 + (flg b t).2).fdiv 2) e1] at H
    have U := Lib.hid e1
    have hb := Lib.hid (fun W => above_spec (((flg a s).1 + (flg b t).2).fdiv 2) W)
    have hr := Lib.hid (fun W => result4_spec (ff false (((flg a s).1 + (flg b t).2).fdiv 2)) W)
    generalize ff false (((flg a s).1 + (flg b t).2).fdiv 2) = f at *
    generalize 1000 + f % 9000 = d at *
    generalize f / 9000 = g at *
    generalize nfR f = p at *
    clear e1
    go_enter Try.func42, Try.ntmps42
    go_wp2_with (first
      | (go_at_call 65; refine (two_spec _ _ _ _ _).mono ?_; rw [E.out]; rintro e w' ⟨rfl, k, os, rfl⟩)
      | (go_at_call 82; refine (hc.out _).mono ?_; rintro e w' ⟨rfl, k, os, rfl⟩))
    ((first | refine region_gr_on (by kernel_rfl) (by kernel_rfl) ?_ | refine region_gr (by kernel_rfl) (by kernel_rfl) ?_); (repeat (quiet_step (first | exact Calls.gr_of (figure_spec3 _ _ _ (by first | exact F1.out | exact F2.out)) | (refine Calls.gr_same (floor_any _ _ _ ?_ ?_ ?_ ?_ ?_) <;> omega)))); refine wpQuiet_nil ?_; intro _ hw'; obtain ⟨⟨kq, oq⟩, hw''⟩ := hw'; subst hw'')
    go_wp2_with (first
      | (go_at_call 52; refine (units_spec _ _).mono ?_; rw [U.out]; rintro e w' ⟨rfl, rfl⟩)
      | (go_at_call 56; refine (hb.out _).mono ?_; rintro e w' ⟨rfl, k, os, rfl⟩)
      | (go_at_call 53; refine (hr.out _).mono ?_; rintro e w' ⟨rfl, k, os, rfl⟩))
    ((try simp only [Exit.inBlock, Exit.then]); refine bodyPost_ret (v := .tuple #[.agg #[.int .i64 p.1.1, .int .i64 p.1.2], .int .i64 p.2]) (by simp [results, Try.results42, go_sem]) rfl ?_)
    exact ⟨ret_fig (by rw [H.out]) (by rw [H.out]) (by rw [H.out]), (by repeat (first | with_reducible exact Gr.refl _ | with_reducible refine Gr.alloc ?_ _ | with_reducible refine Gr.gr ?_ _ _ | with_reducible refine Gr.drew ?_ | with_reducible refine Gr.drewN ?_ _))⟩
  · rw [faR_no (((flg a s).1 + (flg b t).2).fdiv 2) e1] at H
    have U := Lib.hid e1
    clear e1
    go_enter Try.func42, Try.ntmps42
    go_wp2_with (first
      | (go_at_call 65; refine (two_spec _ _ _ _ _).mono ?_; rw [E.out]; rintro e w' ⟨rfl, k, os, rfl⟩)
      | (go_at_call 82; refine (hc.out _).mono ?_; rintro e w' ⟨rfl, k, os, rfl⟩))
    ((first | refine region_gr_on (by kernel_rfl) (by kernel_rfl) ?_ | refine region_gr (by kernel_rfl) (by kernel_rfl) ?_); (repeat (quiet_step (first | exact Calls.gr_of (figure_spec3 _ _ _ (by first | exact F1.out | exact F2.out)) | (refine Calls.gr_same (floor_any _ _ _ ?_ ?_ ?_ ?_ ?_) <;> omega)))); refine wpQuiet_nil ?_; intro _ hw'; obtain ⟨⟨kq, oq⟩, hw''⟩ := hw'; subst hw'')
    go_wp2_with (go_at_call 52; refine (units_spec _ _).mono ?_; rw [U.out]; rintro e w' ⟨rfl, rfl⟩)
    ((try simp only [Exit.inBlock, Exit.then]); refine bodyPost_ret (v := .tuple #[.agg #[.int .i64 0, .int .i64 0], .int .i64 2]) (by simp [results, Try.results42, go_sem]) rfl ?_)
    exact ⟨ret_fig (by rw [H.out]) (by rw [H.out]) (by rw [H.out]), (by repeat (first | with_reducible exact Gr.refl _ | with_reducible refine Gr.alloc ?_ _ | with_reducible refine Gr.gr ?_ _ _ | with_reducible refine Gr.drew ?_ | with_reducible refine Gr.drewN ?_ _))⟩

theorem miR_spec (a s b t : Int) (w : World) :
    Calls Try.prog 42 #[.agg #[.int .i64 a, .int .i64 s], .agg #[.int .i64 b, .int .i64 t]] w fun e w' => e = .returned (.tuple #[.agg #[.int .i64 (miR a s b t).1.1, .int .i64 (miR a s b t).1.2], .int .i64 (miR a s b t).2]) ∧ Gr w w' := by
  rcases scd_cases a s b t with ⟨h0, h⟩ | ⟨h0, h1, h2, h3, h⟩ | ⟨h0, h1, h2, h3, h⟩
  · have H := Lib.hid (miR_no a s b t (by omega))
    rw [h] at H
    have E := Lib.hid h0
    clear h0 h
    go_enter Try.func42, Try.ntmps42
    go_wp2_with (go_at_call 65; refine (two_spec _ _ _ _ _).mono ?_; rw [E.out]; rintro e w' ⟨rfl, k, os, rfl⟩)
    ((try simp only [Exit.inBlock, Exit.then]); refine bodyPost_ret (v := .tuple #[.agg #[.int .i64 0, .int .i64 0], .int .i64 1]) (by simp [results, Try.results42, go_sem]) rfl ?_)
    exact ⟨ret_fig (by rw [H.out]) (by rw [H.out]) (by rw [H.out]), (by repeat (first | with_reducible exact Gr.refl _ | with_reducible refine Gr.alloc ?_ _ | with_reducible refine Gr.gr ?_ _ _ | with_reducible refine Gr.drew ?_ | with_reducible refine Gr.drewN ?_ _))⟩
  · have H := Lib.hid (miR_no a s b t (by omega))
    rw [h] at H
    have E := Lib.hid h0
    have hc := Lib.hid (fun W => compare_spec b t a s W h2 h1)
    rw [cmpI_lt _ _ h3] at hc
    clear h0 h h1 h2 h3
    go_enter Try.func42, Try.ntmps42
    go_wp2_with (first
      | (go_at_call 65; refine (two_spec _ _ _ _ _).mono ?_; rw [E.out]; rintro e w' ⟨rfl, k, os, rfl⟩)
      | (go_at_call 82; refine (hc.out _).mono ?_; rintro e w' ⟨rfl, k, os, rfl⟩))
    ((try simp only [Exit.inBlock, Exit.then]); refine bodyPost_ret (v := .tuple #[.agg #[.int .i64 0, .int .i64 0], .int .i64 5]) (by simp [results, Try.results42, go_sem]) rfl ?_)
    exact ⟨ret_fig (by rw [H.out]) (by rw [H.out]) (by rw [H.out]), (by repeat (first | with_reducible exact Gr.refl _ | with_reducible refine Gr.alloc ?_ _ | with_reducible refine Gr.gr ?_ _ _ | with_reducible refine Gr.drew ?_ | with_reducible refine Gr.drewN ?_ _))⟩
  · have hc := Lib.hid (fun W => compare_spec b t a s W h2 h1)
    have hge : 0 ≤ cmpI (10000 * t + b) (10000 * s + a) := by
      rcases Int.lt_or_eq_of_le h3 with h4 | h4
      · rw [cmpI_gt _ _ h4]; omega
      · rw [cmpI_eq _ _ h4.symm]; omega
    exact miR_some a s b t w h0 h1 h2 (miR_ok a s b t h) _ hge hc
end Go.Proofs.Ytipanchmhohlbaa
