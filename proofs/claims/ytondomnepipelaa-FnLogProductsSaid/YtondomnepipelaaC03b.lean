/- Contracts of chapter 3: what the public functions of intervals return, in the program and in the model. -/
import Derived.Test.YtondomnepipelaaC03a
import Derived.Test.YtondomnepipelaaC02c
import Derived.Deep.RegionHeld3
namespace Go.Proofs.Ytondomnepipelaa
open Go.RowKit
set_option linter.unusedVariables false
set_option linter.unusedSimpArgs false

theorem iv_two (a b c d : Int) : ((iv a b && iv c d) = true ∧ iv a b = true ∧ iv c d = true) ∨ ((iv a b && iv c d) = false ∧ (iv a b = false ∨ (iv a b = true ∧ iv c d = false))) := by
  cases iv a b <;> cases iv c d <;> simp

theorem adR_impl (a b c d : Int) (w : World) :
    Calls Try.prog 18 #[.agg #[.int .i64 a, .int .i64 b], .agg #[.int .i64 c, .int .i64 d]] w fun e w' => e = .returned (.tuple #[.agg #[.int .i64 (adR a b c d).1.1, .int .i64 (adR a b c d).1.2], .int .i64 (adR a b c d).2]) ∧ Gr w w' := by
  rcases iv_two a b c d with ⟨h0, h1, h2⟩ | ⟨h0, h1 | ⟨h1, h2⟩⟩
  · obtain ⟨⟨a1, a2⟩, ⟨b1, b2⟩, -⟩ := (iv_iff a b).1 h1
    obtain ⟨⟨c1, c2⟩, ⟨d1, d2⟩, -⟩ := (iv_iff c d).1 h2
    have H := Lib.hid (adR_ok a b c d h0)
    have E1 := Lib.hid h1
    have E2 := Lib.hid h2
    clear h0 h1 h2
    go_enter Try.func18, Try.ntmps18
    go_wp2_with (first
      | (go_at_call 37; refine (isInterval_impl _ _ _).mono ?_; (first | rw [E1.out] | rw [E2.out]); rintro e w' ⟨rfl, k, os, rfl⟩)
      | (go_at_call 45; refine (plus_any _ _ _ _ _ (by omega) (by omega) (by omega) (by omega) (by omega) (by omega) (by omega) (by omega)).mono ?_; rintro e w' ⟨rfl, k, os, rfl⟩)
      | (go_at_call 46; refine (limited_any _ _ _).mono ?_; rintro e w' ⟨rfl, k, os, rfl⟩))
    ((try simp only [Exit.inBlock, Exit.then]); refine bodyPost_ret (v := .tuple #[.agg #[.int .i64 (rsi (a + c) (b + d)).1.1, .int .i64 (rsi (a + c) (b + d)).1.2], .int .i64 (rsi (a + c) (b + d)).2]) (by simp [results, Try.results18, go_sem]) rfl ?_)
    exact ⟨ret_fig (by rw [H.out]) (by rw [H.out]) (by rw [H.out]), (by repeat (first | with_reducible exact Gr.refl _ | with_reducible refine Gr.alloc ?_ _ | with_reducible refine Gr.gr ?_ _ _ | with_reducible refine Gr.drew ?_ | with_reducible refine Gr.drewN ?_ _))⟩
  · have H := Lib.hid (adR_no a b c d h0)
    have E1 := Lib.hid h1
    clear h0 h1
    go_enter Try.func18, Try.ntmps18
    go_wp2_with (go_at_call 37; refine (isInterval_impl _ _ _).mono ?_; rw [E1.out]; rintro e w' ⟨rfl, k, os, rfl⟩)
    ((try simp only [Exit.inBlock, Exit.then]); refine bodyPost_ret (v := .tuple #[.agg #[.int .i64 0, .int .i64 0], .int .i64 1]) (by simp [results, Try.results18, go_sem]) rfl ?_)
    exact ⟨ret_fig (by rw [H.out]) (by rw [H.out]) (by rw [H.out]), (by repeat (first | with_reducible exact Gr.refl _ | with_reducible refine Gr.alloc ?_ _ | with_reducible refine Gr.gr ?_ _ _ | with_reducible refine Gr.drew ?_ | with_reducible refine Gr.drewN ?_ _))⟩
  · have H := Lib.hid (adR_no a b c d h0)
    have E1 := Lib.hid h1
    have E2 := Lib.hid h2
    clear h0 h1 h2
    go_enter Try.func18, Try.ntmps18
    go_wp2_with (go_at_call 37; refine (isInterval_impl _ _ _).mono ?_; (first | rw [E1.out] | rw [E2.out]); rintro e w' ⟨rfl, k, os, rfl⟩)
    ((try simp only [Exit.inBlock, Exit.then]); refine bodyPost_ret (v := .tuple #[.agg #[.int .i64 0, .int .i64 0], .int .i64 1]) (by simp [results, Try.results18, go_sem]) rfl ?_)
    exact ⟨ret_fig (by rw [H.out]) (by rw [H.out]) (by rw [H.out]), (by repeat (first | with_reducible exact Gr.refl _ | with_reducible refine Gr.alloc ?_ _ | with_reducible refine Gr.gr ?_ _ _ | with_reducible refine Gr.drew ?_ | with_reducible refine Gr.drewN ?_ _))⟩

theorem adR_spec (a b c d : Int) (w : World) :
    Calls Try.prog 19 #[.agg #[.int .i64 a, .int .i64 b], .agg #[.int .i64 c, .int .i64 d]] w fun e w' => e = .returned (.tuple #[.agg #[.int .i64 (adR a b c d).1.1, .int .i64 (adR a b c d).1.2], .int .i64 (adR a b c d).2]) ∧ Gr w w' := by
  rcases iv_two a b c d with ⟨h0, h1, h2⟩ | ⟨h0, h1 | ⟨h1, h2⟩⟩
  · obtain ⟨⟨a1, a2⟩, ⟨b1, b2⟩, -⟩ := (iv_iff a b).1 h1
    obtain ⟨⟨c1, c2⟩, ⟨d1, d2⟩, -⟩ := (iv_iff c d).1 h2
    have H := Lib.hid (adR_ok a b c d h0)
    have E1 := Lib.hid h1
    have E2 := Lib.hid h2
    clear h0 h1 h2
    go_enter Try.func19, Try.ntmps19
    go_wp2_with (first
      | (go_at_call 47; refine (isInterval_spec _ _ _).mono ?_; (first | rw [E1.out] | rw [E2.out]); rintro e w' ⟨rfl, k, os, rfl⟩)
      | (go_at_call 49; refine (add_spec _ _ _ _ _ (by omega) (by omega) (by omega) (by omega) (by omega) (by omega) (by omega) (by omega)).mono ?_; rintro e w' ⟨rfl, k, os, rfl⟩)
      | (go_at_call 48; refine (resulti_spec _ _ _).mono ?_; rintro e w' ⟨rfl, k, os, rfl⟩))
    ((try simp only [Exit.inBlock, Exit.then]); refine bodyPost_ret (v := .tuple #[.agg #[.int .i64 (rsi (a + c) (b + d)).1.1, .int .i64 (rsi (a + c) (b + d)).1.2], .int .i64 (rsi (a + c) (b + d)).2]) (by simp [results, Try.results19, go_sem]) rfl ?_)
    exact ⟨ret_fig (by rw [H.out]) (by rw [H.out]) (by rw [H.out]), (by repeat (first | with_reducible exact Gr.refl _ | with_reducible refine Gr.alloc ?_ _ | with_reducible refine Gr.gr ?_ _ _ | with_reducible refine Gr.drew ?_ | with_reducible refine Gr.drewN ?_ _))⟩
  · have H := Lib.hid (adR_no a b c d h0)
    have E1 := Lib.hid h1
    clear h0 h1
    go_enter Try.func19, Try.ntmps19
    go_wp2_with (go_at_call 47; refine (isInterval_spec _ _ _).mono ?_; rw [E1.out]; rintro e w' ⟨rfl, k, os, rfl⟩)
    ((try simp only [Exit.inBlock, Exit.then]); refine bodyPost_ret (v := .tuple #[.agg #[.int .i64 0, .int .i64 0], .int .i64 1]) (by simp [results, Try.results19, go_sem]) rfl ?_)
    exact ⟨ret_fig (by rw [H.out]) (by rw [H.out]) (by rw [H.out]), (by repeat (first | with_reducible exact Gr.refl _ | with_reducible refine Gr.alloc ?_ _ | with_reducible refine Gr.gr ?_ _ _ | with_reducible refine Gr.drew ?_ | with_reducible refine Gr.drewN ?_ _))⟩
  · have H := Lib.hid (adR_no a b c d h0)
    have E1 := Lib.hid h1
    have E2 := Lib.hid h2
    clear h0 h1 h2
    go_enter Try.func19, Try.ntmps19
    go_wp2_with (go_at_call 47; refine (isInterval_spec _ _ _).mono ?_; (first | rw [E1.out] | rw [E2.out]); rintro e w' ⟨rfl, k, os, rfl⟩)
    ((try simp only [Exit.inBlock, Exit.then]); refine bodyPost_ret (v := .tuple #[.agg #[.int .i64 0, .int .i64 0], .int .i64 1]) (by simp [results, Try.results19, go_sem]) rfl ?_)
    exact ⟨ret_fig (by rw [H.out]) (by rw [H.out]) (by rw [H.out]), (by repeat (first | with_reducible exact Gr.refl _ | with_reducible refine Gr.alloc ?_ _ | with_reducible refine Gr.gr ?_ _ _ | with_reducible refine Gr.drew ?_ | with_reducible refine Gr.drewN ?_ _))⟩

theorem tms_one (a b : Int) : (tms a b (-1)).1 = -b ∧ (tms a b (-1)).2 = -a := by
  rw [tms_neg a b (-1) (by omega)]
  exact ⟨by simp, by simp⟩

theorem suR_impl (a b c d : Int) (w : World) :
    Calls Try.prog 21 #[.agg #[.int .i64 a, .int .i64 b], .agg #[.int .i64 c, .int .i64 d]] w fun e w' => e = .returned (.tuple #[.agg #[.int .i64 (suR a b c d).1.1, .int .i64 (suR a b c d).1.2], .int .i64 (suR a b c d).2]) ∧ Gr w w' := by
  rcases iv_two a b c d with ⟨h0, h1, h2⟩ | ⟨h0, h1 | ⟨h1, h2⟩⟩
  · obtain ⟨⟨a1, a2⟩, ⟨b1, b2⟩, -⟩ := (iv_iff a b).1 h1
    obtain ⟨⟨c1, c2⟩, ⟨d1, d2⟩, -⟩ := (iv_iff c d).1 h2
    have H := Lib.hid (suR_ok a b c d h0)
    have E1 := Lib.hid h1
    have E2 := Lib.hid h2
    have T1 := Lib.hid (tms_one c d).1
    have T2 := Lib.hid (tms_one c d).2
    clear h0 h1 h2
    go_enter Try.func21, Try.ntmps21
    go_wp2_with (go_at_call 37; refine (isInterval_impl _ _ _).mono ?_; (first | rw [E1.out] | rw [E2.out]); rintro e w' ⟨rfl, k, os, rfl⟩)
    go_region_held3 (fun w' => w'.cell? ⟨w.heap.size, 0, none⟩ = some (.int .i64 a) ∧ w'.cell? ⟨w.heap.size, 1, none⟩ = some (.int .i64 b) ∧ w'.cell? ⟨w.heap.size + 1, 0, none⟩ = some (.int .i64 c) ∧ w'.cell? ⟨w.heap.size + 1, 1, none⟩ = some (.int .i64 d)) (go_simp) (first
      | (go_at_call 50; refine (times_any _ _ _ _ (by omega) (by omega) (by omega) (by omega) (by omega) (by omega)).mono ?_; rw [T1.out, T2.out]; rintro e w' ⟨rfl, k, os, rfl⟩)
      | (go_at_call 45; refine (plus_any _ _ _ _ _ (by omega) (by omega) (by omega) (by omega) (by omega) (by omega) (by omega) (by omega)).mono ?_; rintro e w' ⟨rfl, k, os, rfl⟩)
      | (go_at_call 46; refine (limited_any _ _ _).mono ?_; rintro e w' ⟨rfl, k, os, rfl⟩))
    all_goals
      go_wp2
      ((try simp only [Exit.inBlock, Exit.then]); refine bodyPost_ret (v := .tuple #[.agg #[.int .i64 (rsi (a + -d) (b + -c)).1.1, .int .i64 (rsi (a + -d) (b + -c)).1.2], .int .i64 (rsi (a + -d) (b + -c)).2]) (by simp [results, Try.results21, go_sem]) rfl ?_)
      exact ⟨ret_fig (by rw [H.out]; rfl) (by rw [H.out]; rfl) (by rw [H.out]; rfl), (by repeat (first | with_reducible exact Gr.refl _ | with_reducible refine Gr.alloc ?_ _ | with_reducible refine Gr.gr ?_ _ _ | with_reducible refine Gr.drew ?_ | with_reducible refine Gr.drewN ?_ _))⟩
  · have H := Lib.hid (suR_no a b c d h0)
    have E1 := Lib.hid h1
    clear h0 h1
    go_enter Try.func21, Try.ntmps21
    go_wp2_with (go_at_call 37; refine (isInterval_impl _ _ _).mono ?_; rw [E1.out]; rintro e w' ⟨rfl, k, os, rfl⟩)
    ((try simp only [Exit.inBlock, Exit.then]); refine bodyPost_ret (v := .tuple #[.agg #[.int .i64 0, .int .i64 0], .int .i64 1]) (by simp [results, Try.results21, go_sem]) rfl ?_)
    exact ⟨ret_fig (by rw [H.out]) (by rw [H.out]) (by rw [H.out]), (by repeat (first | with_reducible exact Gr.refl _ | with_reducible refine Gr.alloc ?_ _ | with_reducible refine Gr.gr ?_ _ _ | with_reducible refine Gr.drew ?_ | with_reducible refine Gr.drewN ?_ _))⟩
  · have H := Lib.hid (suR_no a b c d h0)
    have E1 := Lib.hid h1
    have E2 := Lib.hid h2
    clear h0 h1 h2
    go_enter Try.func21, Try.ntmps21
    go_wp2_with (go_at_call 37; refine (isInterval_impl _ _ _).mono ?_; (first | rw [E1.out] | rw [E2.out]); rintro e w' ⟨rfl, k, os, rfl⟩)
    ((try simp only [Exit.inBlock, Exit.then]); refine bodyPost_ret (v := .tuple #[.agg #[.int .i64 0, .int .i64 0], .int .i64 1]) (by simp [results, Try.results21, go_sem]) rfl ?_)
    exact ⟨ret_fig (by rw [H.out]) (by rw [H.out]) (by rw [H.out]), (by repeat (first | with_reducible exact Gr.refl _ | with_reducible refine Gr.alloc ?_ _ | with_reducible refine Gr.gr ?_ _ _ | with_reducible refine Gr.drew ?_ | with_reducible refine Gr.drewN ?_ _))⟩

theorem suR_spec (a b c d : Int) (w : World) :
    Calls Try.prog 22 #[.agg #[.int .i64 a, .int .i64 b], .agg #[.int .i64 c, .int .i64 d]] w fun e w' => e = .returned (.tuple #[.agg #[.int .i64 (suR a b c d).1.1, .int .i64 (suR a b c d).1.2], .int .i64 (suR a b c d).2]) ∧ Gr w w' := by
  rcases iv_two a b c d with ⟨h0, h1, h2⟩ | ⟨h0, h1 | ⟨h1, h2⟩⟩
  · obtain ⟨⟨a1, a2⟩, ⟨b1, b2⟩, -⟩ := (iv_iff a b).1 h1
    obtain ⟨⟨c1, c2⟩, ⟨d1, d2⟩, -⟩ := (iv_iff c d).1 h2
    have H := Lib.hid (suR_ok a b c d h0)
    have E1 := Lib.hid h1
    have E2 := Lib.hid h2
    clear h0 h1 h2
    go_enter Try.func22, Try.ntmps22
    go_wp2_with (first
      | (go_at_call 47; refine (isInterval_spec _ _ _).mono ?_; (first | rw [E1.out] | rw [E2.out]); rintro e w' ⟨rfl, k, os, rfl⟩)
      | (go_at_call 51; refine (sub_spec _ _ _ _ _ (by omega) (by omega) (by omega) (by omega) (by omega) (by omega) (by omega) (by omega)).mono ?_; rintro e w' ⟨rfl, k, os, rfl⟩)
      | (go_at_call 48; refine (resulti_spec _ _ _).mono ?_; rintro e w' ⟨rfl, k, os, rfl⟩))
    ((try simp only [Exit.inBlock, Exit.then]); refine bodyPost_ret (v := .tuple #[.agg #[.int .i64 (rsi (a - d) (b - c)).1.1, .int .i64 (rsi (a - d) (b - c)).1.2], .int .i64 (rsi (a - d) (b - c)).2]) (by simp [results, Try.results22, go_sem]) rfl ?_)
    exact ⟨ret_fig (by rw [H.out]) (by rw [H.out]) (by rw [H.out]), (by repeat (first | with_reducible exact Gr.refl _ | with_reducible refine Gr.alloc ?_ _ | with_reducible refine Gr.gr ?_ _ _ | with_reducible refine Gr.drew ?_ | with_reducible refine Gr.drewN ?_ _))⟩
  · have H := Lib.hid (suR_no a b c d h0)
    have E1 := Lib.hid h1
    clear h0 h1
    go_enter Try.func22, Try.ntmps22
    go_wp2_with (go_at_call 47; refine (isInterval_spec _ _ _).mono ?_; rw [E1.out]; rintro e w' ⟨rfl, k, os, rfl⟩)
    ((try simp only [Exit.inBlock, Exit.then]); refine bodyPost_ret (v := .tuple #[.agg #[.int .i64 0, .int .i64 0], .int .i64 1]) (by simp [results, Try.results22, go_sem]) rfl ?_)
    exact ⟨ret_fig (by rw [H.out]) (by rw [H.out]) (by rw [H.out]), (by repeat (first | with_reducible exact Gr.refl _ | with_reducible refine Gr.alloc ?_ _ | with_reducible refine Gr.gr ?_ _ _ | with_reducible refine Gr.drew ?_ | with_reducible refine Gr.drewN ?_ _))⟩
  · have H := Lib.hid (suR_no a b c d h0)
    have E1 := Lib.hid h1
    have E2 := Lib.hid h2
    clear h0 h1 h2
    go_enter Try.func22, Try.ntmps22
    go_wp2_with (go_at_call 47; refine (isInterval_spec _ _ _).mono ?_; (first | rw [E1.out] | rw [E2.out]); rintro e w' ⟨rfl, k, os, rfl⟩)
    ((try simp only [Exit.inBlock, Exit.then]); refine bodyPost_ret (v := .tuple #[.agg #[.int .i64 0, .int .i64 0], .int .i64 1]) (by simp [results, Try.results22, go_sem]) rfl ?_)
    exact ⟨ret_fig (by rw [H.out]) (by rw [H.out]) (by rw [H.out]), (by repeat (first | with_reducible exact Gr.refl _ | with_reducible refine Gr.alloc ?_ _ | with_reducible refine Gr.gr ?_ _ _ | with_reducible refine Gr.drew ?_ | with_reducible refine Gr.drewN ?_ _))⟩

theorem wiR_impl (a b : Int) (w : World) :
    Calls Try.prog 13 #[.agg #[.int .i64 a, .int .i64 b]] w fun e w' => e = .returned (.tuple #[.int .i64 (wiR a b).1, .int .i64 (wiR a b).2]) ∧ Gr w w' := by
  have e1 : iv a b = true ∨ iv a b = false := by cases iv a b <;> simp
  rcases e1 with e1 | e1
  · obtain ⟨⟨a1, a2⟩, ⟨b1, b2⟩, -⟩ := (iv_iff a b).1 e1
    have H := Lib.hid (wiR_ok a b e1)
    have E := Lib.hid e1
    clear e1
    go_enter Try.func13, Try.ntmps13
    go_wp2_with (go_at_call 37; refine (isInterval_impl _ _ _).mono ?_; rw [E.out]; rintro e w' ⟨rfl, k, os, rfl⟩)
    go_ret2
    exact ⟨ret_two (by rw [H.out]) (by rw [H.out]), (by repeat (first | with_reducible exact Gr.refl _ | with_reducible refine Gr.alloc ?_ _ | with_reducible refine Gr.gr ?_ _ _ | with_reducible refine Gr.drew ?_ | with_reducible refine Gr.drewN ?_ _))⟩
  · have H := Lib.hid (wiR_no a b e1)
    have E := Lib.hid e1
    clear e1
    go_enter Try.func13, Try.ntmps13
    go_wp2_with (go_at_call 37; refine (isInterval_impl _ _ _).mono ?_; rw [E.out]; rintro e w' ⟨rfl, k, os, rfl⟩)
    go_ret2
    exact ⟨ret_two (by rw [H.out]) (by rw [H.out]), (by repeat (first | with_reducible exact Gr.refl _ | with_reducible refine Gr.alloc ?_ _ | with_reducible refine Gr.gr ?_ _ _ | with_reducible refine Gr.drew ?_ | with_reducible refine Gr.drewN ?_ _))⟩

theorem ret_three {a b c d e f : Int} (h : a = d) (h' : b = e) (h'' : c = f) : Ending.returned (.tuple #[.int .i64 a, .int .i64 b, .int .i64 c]) = .returned (.tuple #[.int .i64 d, .int .i64 e, .int .i64 f]) := by rw [h, h', h'']

end Go.Proofs.Ytondomnepipelaa
