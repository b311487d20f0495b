/- Plain mathematics, merged. -/
import Derived.Test.Ytphebmbapllinaa1A
import Derived.Test.YtphebmbapllinaaMA
import Derived.Test.YtphebmbapllinaaGr
import Derived.Deep.RegionHeld3
import Derived.IntWalk
/- Contracts of chapter 2: figures, in the program, in the model and in the law. -/
namespace Go.Proofs.Ytphebmbapllinaa
open Go.RowKit
set_option linter.unusedVariables false
set_option linter.unusedSimpArgs false

/-- A figure and a code, as a result. -/
theorem ret_fig {a b c d e f : Int} (h : a = b) (h1 : c = d) (h2 : e = f) : Ending.returned (.tuple #[.agg #[.int .i64 a, .int .i64 c], .int .i64 e]) = .returned (.tuple #[.agg #[.int .i64 b, .int .i64 d], .int .i64 f]) := by rw [h, h1, h2]
theorem ret_agg {a b c d : Int} (h : a = b) (h1 : c = d) : Ending.returned (.agg #[.int .i64 a, .int .i64 c]) = .returned (.agg #[.int .i64 b, .int .i64 d]) := by rw [h, h1]

theorem toFigure_any (d t : Int) (w : World) :
    Calls Try.prog 97 #[.agg #[.int .i64 d, .int .i64 t]] w fun e w' => e = .returned (.agg #[.int .i64 d, .int .i64 t]) ∧ Gr w w' := by
  go_enter Try.func97, Try.ntmps97
  go_wp2
  ((try simp only [Exit.inBlock, Exit.then]); refine bodyPost_ret (v := .agg #[.int .i64 d, .int .i64 t]) (by simp [results, Try.results97, go_sem]) rfl ?_)
  exact ⟨rfl, (by repeat (first | with_reducible exact Gr.refl _ | with_reducible refine Gr.alloc ?_ _ | with_reducible refine Gr.gr ?_ _ _ | with_reducible refine Gr.drew ?_ | with_reducible refine Gr.drewN ?_ _))⟩

theorem eqFigure_any (a s b t : Int) (w : World) :
    Calls Try.prog 40 #[.agg #[.int .i64 a, .int .i64 s], .agg #[.int .i64 b, .int .i64 t]] w fun e w' => e = .returned (.bool (decide (a = b ∧ s = t))) ∧ Gr w w' := by
  have hc : (a = b ∧ s = t) ∨ ((a != b) = true ∧ a ≠ b) ∨ (a = b ∧ (s != t) = true ∧ s ≠ t) := by
    by_cases h1 : a = b <;> by_cases h2 : s = t <;> simp_all
  rcases hc with ⟨rfl, rfl⟩ | ⟨n1, n2⟩ | ⟨rfl, n1, n2⟩
  all_goals
    go_enter Try.func40, Try.ntmps40
    go_wp2
    go_ret
    exact ⟨ret_bool (by simp_all), (by repeat (first | with_reducible exact Gr.refl _ | with_reducible refine Gr.alloc ?_ _ | with_reducible refine Gr.gr ?_ _ _ | with_reducible refine Gr.drew ?_ | with_reducible refine Gr.drewN ?_ _))⟩

theorem isFigure_impl (d t : Int) (w : World) :
    Calls Try.prog 54 #[.agg #[.int .i64 d, .int .i64 t]] w fun e w' => e = .returned (.bool (fg d t)) ∧ Gr w w' := by
  have hc : d < 1000 ∨ (1000 ≤ d ∧ 9999 < d) ∨ (1000 ≤ d ∧ d ≤ 9999 ∧ t < -30) ∨ (1000 ≤ d ∧ d ≤ 9999 ∧ -30 ≤ t ∧ 30 < t) ∨ (1000 ≤ d ∧ d ≤ 9999 ∧ -30 ≤ t ∧ t ≤ 30) := by omega
  rcases hc with h | ⟨h, h1⟩ | ⟨h, h1, h2⟩ | ⟨h, h1, h2, h3⟩ | ⟨h, h1, h2, h3⟩
  all_goals
    go_enter Try.func54, Try.ntmps54
    go_wp2
    go_ret
    exact ⟨ret_bool (by unfold fg; first | exact (decide_eq_true (by omega)).symm | exact (decide_eq_false (by omega)).symm | exact decide_eq_decide.2 ⟨fun _ => by omega, fun _ => by omega⟩), (by repeat (first | with_reducible exact Gr.refl _ | with_reducible refine Gr.alloc ?_ _ | with_reducible refine Gr.gr ?_ _ _ | with_reducible refine Gr.drew ?_ | with_reducible refine Gr.drewN ?_ _))⟩

theorem isFigure_spec (d t : Int) (w : World) :
    Calls Try.prog 68 #[.agg #[.int .i64 d, .int .i64 t]] w fun e w' => e = .returned (.bool (fg d t)) ∧ Gr w w' := by
  by_cases h1 : 1000 ≤ d ∧ d ≤ 9999
  all_goals
    have HD := Lib.hid h1
    go_enter Try.func68, Try.ntmps68
    go_wp2_with (go_at_call 48; refine (in_any _ _ _ _).mono ?_; rintro e w' ⟨rfl, rfl⟩)
    go_ret
    exact ⟨ret_bool (by simp [fg, HD.out]), (by repeat (first | with_reducible exact Gr.refl _ | with_reducible refine Gr.alloc ?_ _ | with_reducible refine Gr.gr ?_ _ _ | with_reducible refine Gr.drew ?_ | with_reducible refine Gr.drewN ?_ _))⟩

theorem two_spec (a s b t : Int) (w : World) :
    Calls Try.prog 88 #[.agg #[.int .i64 a, .int .i64 s], .agg #[.int .i64 b, .int .i64 t]] w fun e w' => e = .returned (.bool (fg a s && fg b t)) ∧ Gr w w' := by
  have e1 : fg a s = true ∨ fg a s = false := by cases fg a s <;> simp
  rcases e1 with e1 | e1
  all_goals
    go_enter Try.func88, Try.ntmps88
    go_wp2_with (go_at_call 68; refine (isFigure_spec _ _ _).mono ?_; rintro e w' ⟨rfl, k, os, rfl⟩)
    go_ret
    exact ⟨ret_bool (by simp [e1]), (by repeat (first | with_reducible exact Gr.refl _ | with_reducible refine Gr.alloc ?_ _ | with_reducible refine Gr.gr ?_ _ _ | with_reducible refine Gr.drew ?_ | with_reducible refine Gr.drewN ?_ _))⟩

theorem shift_any (d t u : Int) (w : World) (h1 : -1000000000000 ≤ t) (h2 : t ≤ 1000000000000) (h3 : -1000000000000 ≤ u) (h4 : u ≤ 1000000000000) :
    Calls Try.prog 109 #[.agg #[.int .i64 d, .int .i64 t], .int .i64 u] w fun e w' => e = .returned (.tuple #[.agg #[.int .i64 (rsl (d, t + u)).1.1, .int .i64 (rsl (d, t + u)).1.2], .int .i64 (rsl (d, t + u)).2]) ∧ Gr w w' := by
  have e1 : fg d (t + u) = true ∨ fg d (t + u) = false := by cases fg d (t + u) <;> simp
  rcases e1 with e1 | e1
  · have H := Lib.hid (rsl_ok (d, t + u) e1)
    have E := Lib.hid e1
    clear e1
    go_enter Try.func109, Try.ntmps109
    go_wp2_with (go_at_call 54; refine (isFigure_impl _ _ _).mono ?_; rw [E.out]; rintro e w' ⟨rfl, k, os, rfl⟩)
    ((try simp only [Exit.inBlock, Exit.then]); refine bodyPost_ret (v := .tuple #[.agg #[.int .i64 d, .int .i64 (t + u)], .int .i64 0]) (by simp [results, Try.results109, go_sem]) rfl ?_)
    exact ⟨ret_fig (by rw [H.out]) (by rw [H.out]) (by rw [H.out]), (by repeat (first | with_reducible exact Gr.refl _ | with_reducible refine Gr.alloc ?_ _ | with_reducible refine Gr.gr ?_ _ _ | with_reducible refine Gr.drew ?_ | with_reducible refine Gr.drewN ?_ _))⟩
  · have H := Lib.hid (rsl_no (d, t + u) e1)
    have E := Lib.hid e1
    clear e1
    go_enter Try.func109, Try.ntmps109
    go_wp2_with (go_at_call 54; refine (isFigure_impl _ _ _).mono ?_; rw [E.out]; rintro e w' ⟨rfl, k, os, rfl⟩)
    ((try simp only [Exit.inBlock, Exit.then]); refine bodyPost_ret (v := .tuple #[.agg #[.int .i64 0, .int .i64 0], .int .i64 3]) (by simp [results, Try.results109, go_sem]) rfl ?_)
    exact ⟨ret_fig (by rw [H.out]) (by rw [H.out]) (by rw [H.out]), (by repeat (first | with_reducible exact Gr.refl _ | with_reducible refine Gr.alloc ?_ _ | with_reducible refine Gr.gr ?_ _ _ | with_reducible refine Gr.drew ?_ | with_reducible refine Gr.drewN ?_ _))⟩

theorem result_spec (d t : Int) (w : World) :
    Calls Try.prog 89 #[.agg #[.int .i64 d, .int .i64 t]] w fun e w' => e = .returned (.tuple #[.agg #[.int .i64 (rsl (d, t)).1.1, .int .i64 (rsl (d, t)).1.2], .int .i64 (rsl (d, t)).2]) ∧ Gr w w' := by
  have e1 : fg d t = true ∨ fg d t = false := by cases fg d t <;> simp
  rcases e1 with e1 | e1
  · have H := Lib.hid (rsl_ok (d, t) e1)
    have E := Lib.hid e1
    clear e1
    go_enter Try.func89, Try.ntmps89
    go_wp2_with (go_at_call 68; refine (isFigure_spec _ _ _).mono ?_; rw [E.out]; rintro e w' ⟨rfl, k, os, rfl⟩)
    ((try simp only [Exit.inBlock, Exit.then]); refine bodyPost_ret (v := .tuple #[.agg #[.int .i64 d, .int .i64 t], .int .i64 0]) (by simp [results, Try.results89, go_sem]) rfl ?_)
    exact ⟨ret_fig (by rw [H.out]) (by rw [H.out]) (by rw [H.out]), (by repeat (first | with_reducible exact Gr.refl _ | with_reducible refine Gr.alloc ?_ _ | with_reducible refine Gr.gr ?_ _ _ | with_reducible refine Gr.drew ?_ | with_reducible refine Gr.drewN ?_ _))⟩
  · have H := Lib.hid (rsl_no (d, t) e1)
    have E := Lib.hid e1
    clear e1
    go_enter Try.func89, Try.ntmps89
    go_wp2_with (go_at_call 68; refine (isFigure_spec _ _ _).mono ?_; rw [E.out]; rintro e w' ⟨rfl, k, os, rfl⟩)
    ((try simp only [Exit.inBlock, Exit.then]); refine bodyPost_ret (v := .tuple #[.agg #[.int .i64 0, .int .i64 0], .int .i64 3]) (by simp [results, Try.results89, go_sem]) rfl ?_)
    exact ⟨ret_fig (by rw [H.out]) (by rw [H.out]) (by rw [H.out]), (by repeat (first | with_reducible exact Gr.refl _ | with_reducible refine Gr.alloc ?_ _ | with_reducible refine Gr.gr ?_ _ _ | with_reducible refine Gr.drew ?_ | with_reducible refine Gr.drewN ?_ _))⟩
end Go.Proofs.Ytphebmbapllinaa

/- A figure is equal to itself. -/
namespace Go.Proofs.Ytphebmbapllinaa
open Go.RowKit
theorem eqFigure_same (a s : Int) (w : World) :
    Calls Try.prog 40 #[.agg #[.int .i64 a, .int .i64 s], .agg #[.int .i64 a, .int .i64 s]] w fun e w' => e = .returned (.bool true) ∧ Gr w w' :=
  (eqFigure_any a s a s w).mono fun e w' ⟨he, h⟩ => ⟨by rw [he]; exact ret_bool (by simp), h⟩
end Go.Proofs.Ytphebmbapllinaa

/- Contracts of chapter 2: fractions rounded to a figure. -/
namespace Go.Proofs.Ytphebmbapllinaa
open Go.RowKit
set_option linter.unusedVariables false
set_option linter.unusedSimpArgs false

theorem round_impl (n d : Int) (w : World) (n1 : 1 ≤ n) (n2 : n ≤ 1000000000) (d1 : 1 ≤ d) (d2 : d ≤ 1000000000) :
    Calls Try.prog 108 #[.int .i64 n, .int .i64 d] w fun e w' => e = .returned (.agg #[.int .i64 (rdd n d 3).1, .int .i64 (rdd n d 3).2]) ∧ Gr w w' := by
  go_enter Try.func108, Try.ntmps108
  go_wp2
  go_loop [0, 5] (fun x y => ∃ (m : Int) (i : Nat), x = .int .i64 m ∧ y = .int .i64 (3 - i) ∧ 0 < m ∧ m ≤ 10000000000000 ∧ p10 i ≤ m ∧ (m < 10000 * d ∨ i = 0) ∧ Hid (rdd m d (3 - i) = rdd n d 3)) (fun x _ => (1000 * d - intOf x).toNat)
  case atStart => exact ⟨n, 0, rfl, rfl, by omega, by omega, by simp [p10]; omega, .inr rfl, Lib.hid (by simp)⟩
  case round =>
    obtain ⟨m, i, rfl, rfl, hm, hm2, hi, ho, HR⟩ := hrel
    have hi2 := p10_le i (by omega)
    by_cases hlt : m < 1000 * d
    · have HD := Lib.hid (rdd_down m d (3 - i) (by omega) hm hlt)
      have HS := Lib.hid (p10_succ i)
      go_wp2
      go_round
      case rel => exact ⟨10 * m, i + 1, by congr 1; omega, by congr 1; omega, by omega, by omega, by rw [HS.out]; omega, .inl (by omega), Lib.hid (by rw [← HR.out, ← HD.out]; congr 1; omega)⟩
      case measure => simp [intOf]; omega
    · have hlo : 1000 * d ≤ m := by omega
      clear hlt
      go_wp2
      go_loop [1, 5] (fun x y => ∃ (e : Int) (j : Nat), x = .int .i64 e ∧ y = .int .i64 (3 - i + j) ∧ 0 < e ∧ p10 j ≤ e ∧ 1000 * e ≤ m ∧ Hid (rdd m e (3 - i + j) = rdd n d 3)) (fun x _ => (m - intOf x).toNat)
      case atStart => exact ⟨d, 0, rfl, by simp, by omega, by simp [p10]; omega, by omega, Lib.hid (by rw [← HR.out]; simp)⟩
      case round =>
        obtain ⟨e, j, rfl, rfl, he, hj, hle, HQ⟩ := hrel
        have hj2 := p10_le j (by omega)
        by_cases hge : 10000 * e ≤ m
        · have HD := Lib.hid (rdd_up m e (3 - i + j) he hm hge)
          have HS := Lib.hid (p10_succ j)
          go_wp2
          go_round
          case rel => exact ⟨10 * e, j + 1, by congr 1; omega, by congr 1; omega, by omega, by rw [HS.out]; omega, by omega, Lib.hid (by rw [← HQ.out, ← HD.out]; congr 1; omega)⟩
          case measure => simp [intOf]; omega
        · have hnd := nd_bd m e he (by omega) hle
          have HE := Lib.hid (rdd_end m e (3 - i + j) he (by omega) hle)
          have hge' : m < 10000 * e := by omega
          clear hge
          by_cases h9 : 9999 < nd m e
          · have HN := Lib.hid (HE.out.2 h9)
            go_wp2_with (go_at_call 119; refine (quotientNear_any _ _ _ (by omega) (by omega) (by omega) (by omega) (by omega)).mono ?_; rintro e w' ⟨rfl, rfl⟩)
            ((try simp only [Exit.inBlock, Exit.then]); refine bodyPost_ret (v := .agg #[.int .i64 1000, .int .i64 (3 - i + j + 1)]) (by simp [results, Try.results108, go_sem]) rfl ?_)
            exact ⟨ret_agg (by rw [← HQ.out, HN.out]) (by rw [← HQ.out, HN.out]), (by repeat (first | with_reducible exact Gr.refl _ | with_reducible refine Gr.alloc ?_ _ | with_reducible refine Gr.gr ?_ _ _ | with_reducible refine Gr.drew ?_ | with_reducible refine Gr.drewN ?_ _))⟩
          · have HN := Lib.hid (HE.out.1 (by omega))
            go_wp2_with (go_at_call 119; refine (quotientNear_any _ _ _ (by omega) (by omega) (by omega) (by omega) (by omega)).mono ?_; rintro e w' ⟨rfl, rfl⟩)
            ((try simp only [Exit.inBlock, Exit.then]); refine bodyPost_ret (v := .agg #[.int .i64 (nd m e), .int .i64 (3 - i + j)]) (by simp [results, Try.results108, go_sem]) rfl ?_)
            exact ⟨ret_agg (by rw [← HQ.out, HN.out]) (by rw [← HQ.out, HN.out]), (by repeat (first | with_reducible exact Gr.refl _ | with_reducible refine Gr.alloc ?_ _ | with_reducible refine Gr.gr ?_ _ _ | with_reducible refine Gr.drew ?_ | with_reducible refine Gr.drewN ?_ _))⟩

theorem round_spec (n d t : Int) (w : World) (n1 : 1 ≤ n) (n2 : n ≤ 1000000000) (d1 : 1 ≤ d) (d2 : d ≤ 1000000000) (t1 : -1000000 ≤ t) (t2 : t ≤ 1000000) :
    Calls Try.prog 90 #[.int .i64 n, .int .i64 d, .int .i64 t] w fun e w' => e = .returned (.agg #[.int .i64 (rdd n d (t + 3)).1, .int .i64 (rdd n d (t + 3)).2]) ∧ Gr w w' := by
  go_enter Try.func90, Try.ntmps90
  go_wp2
  go_loop [1, 2] (fun x y => ∃ (e : Int) (j : Nat), x = .int .i64 e ∧ y = .int .i64 (t + 3 + j) ∧ 0 < e ∧ p10 j ≤ e ∧ e ≤ 1000000000 ∧ (1000 * e ≤ n ∨ j = 0) ∧ Hid (rdd n e (t + 3 + j) = rdd n d (t + 3))) (fun x _ => (n - intOf x).toNat)
  case atStart => exact ⟨d, 0, rfl, by simp, by omega, by simp [p10]; omega, by omega, .inr rfl, Lib.hid (by simp)⟩
  case round =>
    obtain ⟨e, j, rfl, rfl, he, hj, he2, ho, HR⟩ := hrel
    have hj2 := p10_le j (by omega)
    by_cases hge : 10000 * e ≤ n
    · have HD := Lib.hid (rdd_up n e (t + 3 + j) he (by omega) hge)
      have HS := Lib.hid (p10_succ j)
      go_wp2
      go_round
      case rel => exact ⟨10 * e, j + 1, rfl, by congr 1; omega, by omega, by rw [HS.out]; omega, by omega, .inl (by omega), Lib.hid (by rw [← HR.out, ← HD.out]; congr 1; omega)⟩
      case measure => simp [intOf]; omega
    · have hge' : n < 10000 * e := by omega
      clear hge
      go_wp2
      go_loop [0, 2] (fun x y => ∃ (m : Int) (i : Nat), x = .int .i64 m ∧ y = .int .i64 (t + 3 + j - i) ∧ 0 < m ∧ p10 i ≤ m ∧ m < 10000 * e ∧ Hid (rdd m e (t + 3 + j - i) = rdd n d (t + 3))) (fun x _ => (1000 * e - intOf x).toNat)
      case atStart => exact ⟨n, 0, rfl, by simp, by omega, by simp [p10]; omega, by omega, Lib.hid (by rw [← HR.out]; simp)⟩
      case round =>
        obtain ⟨m, i, rfl, rfl, hm, hi, hlt, HQ⟩ := hrel
        have hi2 := p10_le i (by omega)
        by_cases hlo : m < 1000 * e
        · have HD := Lib.hid (rdd_down m e (t + 3 + j - i) he hm hlo)
          have HS := Lib.hid (p10_succ i)
          go_wp2
          go_round
          case rel => exact ⟨10 * m, i + 1, rfl, by congr 1; omega, by omega, by rw [HS.out]; omega, by omega, Lib.hid (by rw [← HQ.out, ← HD.out]; congr 1; omega)⟩
          case measure => simp [intOf]; omega
        · have hlo' : 1000 * e ≤ m := by omega
          clear hlo
          have hnd := nd_bd m e he hlt hlo'
          have HE := Lib.hid (rdd_end m e (t + 3 + j - i) he hlt hlo')
          by_cases h9 : nd m e = 10000
          · have HN := Lib.hid (HE.out.2 (by omega))
            have H9 := Lib.hid h9
            clear h9
            go_wp2_with (go_at_call 110; refine (nearest_any _ _ _ (by omega) (by omega) (by omega) (by omega) (by omega)).mono ?_; rw [H9.out]; rintro e w' ⟨rfl, rfl⟩)
            ((try simp only [Exit.inBlock, Exit.then]); refine bodyPost_ret (v := .agg #[.int .i64 1000, .int .i64 (t + 3 + j - i + 1)]) (by simp [results, Try.results90, go_sem]) rfl ?_)
            exact ⟨ret_agg (by rw [← HQ.out, HN.out]) (by rw [← HQ.out, HN.out]), (by repeat (first | with_reducible exact Gr.refl _ | with_reducible refine Gr.alloc ?_ _ | with_reducible refine Gr.gr ?_ _ _ | with_reducible refine Gr.drew ?_ | with_reducible refine Gr.drewN ?_ _))⟩
          · have HN := Lib.hid (HE.out.1 (by omega))
            have h9' : (nd m e == 10000) = false := by simp [h9]
            go_wp2_with (go_at_call 110; refine (nearest_any _ _ _ (by omega) (by omega) (by omega) (by omega) (by omega)).mono ?_; rintro e w' ⟨rfl, rfl⟩)
            ((try simp only [Exit.inBlock, Exit.then]); refine bodyPost_ret (v := .agg #[.int .i64 (nd m e), .int .i64 (t + 3 + j - i)]) (by simp [results, Try.results90, go_sem]) rfl ?_)
            exact ⟨ret_agg (by rw [← HQ.out, HN.out]) (by rw [← HQ.out, HN.out]), (by repeat (first | with_reducible exact Gr.refl _ | with_reducible refine Gr.alloc ?_ _ | with_reducible refine Gr.gr ?_ _ _ | with_reducible refine Gr.drew ?_ | with_reducible refine Gr.drewN ?_ _))⟩
end Go.Proofs.Ytphebmbapllinaa

/- Contracts of chapter 2: what the public functions return, in the program and in the model. -/
namespace Go.Proofs.Ytphebmbapllinaa
open Go.RowKit
set_option linter.unusedVariables false
set_option linter.unusedSimpArgs false

/-- Two figures: both valid, or the first or the second not. -/
theorem two_cases (a s b t : Int) : ((fg a s && fg b t) = true ∧ fg a s = true ∧ fg b t = true) ∨ ((fg a s && fg b t) = false ∧ (fg a s = false ∨ (fg a s = true ∧ fg b t = false))) := by
  cases fg a s <;> cases fg b t <;> simp

theorem result_pair (p : Int × Int) (w : World) :
    Calls Try.prog 89 #[.agg #[.int .i64 p.1, .int .i64 p.2]] w fun e w' => e = .returned (.tuple #[.agg #[.int .i64 (rsl p).1.1, .int .i64 (rsl p).1.2], .int .i64 (rsl p).2]) ∧ Gr w w' := result_spec p.1 p.2 w

theorem muR_impl (a s b t : Int) (w : World) :
    Calls Try.prog 87 #[.agg #[.int .i64 a, .int .i64 s], .agg #[.int .i64 b, .int .i64 t]] w fun e w' => e = .returned (.tuple #[.agg #[.int .i64 (muR a s b t).1.1, .int .i64 (muR a s b t).1.2], .int .i64 (muR a s b t).2]) ∧ Gr w w' := by
  rcases two_cases a s b t with ⟨h0, h1, h2⟩ | ⟨hn, hc⟩
  · have H := Lib.hid (muR_ok a s b t h1 h2)
    obtain ⟨⟨a1, a2⟩, s1, s2⟩ := (fg_iff a s).1 h1
    obtain ⟨⟨b1, b2⟩, t1, t2⟩ := (fg_iff b t).1 h2
    have E0 := Lib.hid h0
    have E1 := Lib.hid h1
    have E2 := Lib.hid h2
    clear h0 h1 h2
    have p1 : 1 ≤ a * b := by have := Int.mul_le_mul a1 b1 (by omega) (by omega); omega
    have p2 : a * b ≤ 1000000000 := by have := Int.mul_le_mul a2 b2 (by omega) (by omega); omega
    have R := rdd_tens (a * b) (1) 3 (by omega) (by omega)
    have HP := Lib.hid (rdd_plus (a * b) (1) 3 (s + t - 6) (by omega) (by omega))
    have HX := Lib.hid (show ((rdd (a * b) (1) 3).1, (rdd (a * b) (1) 3).2 + (s + t - 6)) = rdd (a * b) 1 (s + t - 6 + 3) by
      rw [show s + t - 6 + 3 = 3 + (s + t - 6) by omega, ← HP.out.1, ← HP.out.2])
    go_enter Try.func87, Try.ntmps87
    go_wp2_with (go_at_call 54; refine (isFigure_impl _ _ _).mono ?_; (first | rw [E1.out] | rw [E2.out]); rintro e w' ⟨rfl, k, os, rfl⟩)
    have q1 : IntKind.i64.wrap (a * b) = a * b := IntWalk.i64_in _ (by omega)
    have q2 : IntKind.i64.wrap (s + t) = s + t := IntWalk.i64_in _ (by omega)
    have q3 : IntKind.i64.wrap (s + t - 6) = s + t - 6 := IntWalk.i64_in _ (by omega)
    go_region_held3 (fun w' => w'.cell? ⟨w.heap.size, 0, none⟩ = some (.int .i64 a) ∧ w'.cell? ⟨w.heap.size, 1, none⟩ = some (.int .i64 s) ∧ w'.cell? ⟨w.heap.size + 1, 0, none⟩ = some (.int .i64 b) ∧ w'.cell? ⟨w.heap.size + 1, 1, none⟩ = some (.int .i64 t)) (go_simp) (first
      | (go_at_call 108; refine (round_impl _ _ _ (by omega) (by omega) (by omega) (by omega)).mono ?_; rintro e w' ⟨rfl, k, os, rfl⟩)
      | (go_at_call 109; refine (shift_any _ _ _ _ (by omega) (by omega) (by omega) (by omega)).mono ?_; rw [HX.out]; rintro e w' ⟨rfl, k, os, rfl⟩))
    all_goals
      go_wp2
      ((try simp only [Exit.inBlock, Exit.then]); refine bodyPost_ret (v := .tuple #[.agg #[.int .i64 (rsl (rdd (a * b) 1 (s + t - 6 + 3))).1.1, .int .i64 (rsl (rdd (a * b) 1 (s + t - 6 + 3))).1.2], .int .i64 (rsl (rdd (a * b) 1 (s + t - 6 + 3))).2]) (by simp [results, Try.results87, go_sem]) rfl ?_)
      exact ⟨ret_fig (by rw [H.out]) (by rw [H.out]) (by rw [H.out]), (by repeat (first | with_reducible exact Gr.refl _ | with_reducible refine Gr.alloc ?_ _ | with_reducible refine Gr.gr ?_ _ _ | with_reducible refine Gr.drew ?_ | with_reducible refine Gr.drewN ?_ _))⟩
  · have H := Lib.hid (muR_no a s b t hn)
    clear hn
    rcases hc with h | ⟨h, h'⟩
    · have E1 := Lib.hid h
      clear h
      go_enter Try.func87, Try.ntmps87
      go_wp2_with (go_at_call 54; refine (isFigure_impl _ _ _).mono ?_; rw [E1.out]; rintro e w' ⟨rfl, k, os, rfl⟩)
      ((try simp only [Exit.inBlock, Exit.then]); refine bodyPost_ret (v := .tuple #[.agg #[.int .i64 0, .int .i64 0], .int .i64 1]) (by simp [results, Try.results87, go_sem]) rfl ?_)
      exact ⟨ret_fig (by rw [H.out]) (by rw [H.out]) (by rw [H.out]), (by repeat (first | with_reducible exact Gr.refl _ | with_reducible refine Gr.alloc ?_ _ | with_reducible refine Gr.gr ?_ _ _ | with_reducible refine Gr.drew ?_ | with_reducible refine Gr.drewN ?_ _))⟩
    · have E1 := Lib.hid h
      have E2 := Lib.hid h'
      clear h h'
      go_enter Try.func87, Try.ntmps87
      go_wp2_with (go_at_call 54; refine (isFigure_impl _ _ _).mono ?_; (first | rw [E1.out] | rw [E2.out]); rintro e w' ⟨rfl, k, os, rfl⟩)
      ((try simp only [Exit.inBlock, Exit.then]); refine bodyPost_ret (v := .tuple #[.agg #[.int .i64 0, .int .i64 0], .int .i64 1]) (by simp [results, Try.results87, go_sem]) rfl ?_)
      exact ⟨ret_fig (by rw [H.out]) (by rw [H.out]) (by rw [H.out]), (by repeat (first | with_reducible exact Gr.refl _ | with_reducible refine Gr.alloc ?_ _ | with_reducible refine Gr.gr ?_ _ _ | with_reducible refine Gr.drew ?_ | with_reducible refine Gr.drewN ?_ _))⟩

theorem muR_spec (a s b t : Int) (w : World) :
    Calls Try.prog 59 #[.agg #[.int .i64 a, .int .i64 s], .agg #[.int .i64 b, .int .i64 t]] w fun e w' => e = .returned (.tuple #[.agg #[.int .i64 (muR a s b t).1.1, .int .i64 (muR a s b t).1.2], .int .i64 (muR a s b t).2]) ∧ Gr w w' := by
  rcases two_cases a s b t with ⟨h0, h1, h2⟩ | ⟨hn, hc⟩
  · have H := Lib.hid (muR_ok a s b t h1 h2)
    obtain ⟨⟨a1, a2⟩, s1, s2⟩ := (fg_iff a s).1 h1
    obtain ⟨⟨b1, b2⟩, t1, t2⟩ := (fg_iff b t).1 h2
    have E0 := Lib.hid h0
    have E1 := Lib.hid h1
    have E2 := Lib.hid h2
    clear h0 h1 h2
    have p1 : 1 ≤ a * b := by have := Int.mul_le_mul a1 b1 (by omega) (by omega); omega
    have p2 : a * b ≤ 1000000000 := by have := Int.mul_le_mul a2 b2 (by omega) (by omega); omega
    go_enter Try.func59, Try.ntmps59
    go_wp2_with (first
      | (go_at_call 88; refine (two_spec _ _ _ _ _).mono ?_; rw [E0.out]; rintro e w' ⟨rfl, k, os, rfl⟩)
      | (go_at_call 90; refine (round_spec _ _ _ _ (by omega) (by omega) (by omega) (by omega) (by omega) (by omega)).mono ?_; rintro e w' ⟨rfl, k, os, rfl⟩)
      | (go_at_call 89; refine (result_pair (rdd (a * b) 1 (s + t - 6 + 3)) _).mono ?_; rintro e w' ⟨rfl, k, os, rfl⟩))
    ((try simp only [Exit.inBlock, Exit.then]); refine bodyPost_ret (v := .tuple #[.agg #[.int .i64 (rsl (rdd (a * b) 1 (s + t - 6 + 3))).1.1, .int .i64 (rsl (rdd (a * b) 1 (s + t - 6 + 3))).1.2], .int .i64 (rsl (rdd (a * b) 1 (s + t - 6 + 3))).2]) (by simp [results, Try.results59, go_sem]) rfl ?_)
    exact ⟨ret_fig (by rw [H.out]) (by rw [H.out]) (by rw [H.out]), (by repeat (first | with_reducible exact Gr.refl _ | with_reducible refine Gr.alloc ?_ _ | with_reducible refine Gr.gr ?_ _ _ | with_reducible refine Gr.drew ?_ | with_reducible refine Gr.drewN ?_ _))⟩
  · have H := Lib.hid (muR_no a s b t hn)
    have E0 := Lib.hid hn
    clear hn hc
    go_enter Try.func59, Try.ntmps59
    go_wp2_with (go_at_call 88; refine (two_spec _ _ _ _ _).mono ?_; rw [E0.out]; rintro e w' ⟨rfl, k, os, rfl⟩)
    ((try simp only [Exit.inBlock, Exit.then]); refine bodyPost_ret (v := .tuple #[.agg #[.int .i64 0, .int .i64 0], .int .i64 1]) (by simp [results, Try.results59, go_sem]) rfl ?_)
    exact ⟨ret_fig (by rw [H.out]) (by rw [H.out]) (by rw [H.out]), (by repeat (first | with_reducible exact Gr.refl _ | with_reducible refine Gr.alloc ?_ _ | with_reducible refine Gr.gr ?_ _ _ | with_reducible refine Gr.drew ?_ | with_reducible refine Gr.drewN ?_ _))⟩

theorem diR_impl (a s b t : Int) (w : World) :
    Calls Try.prog 86 #[.agg #[.int .i64 a, .int .i64 s], .agg #[.int .i64 b, .int .i64 t]] w fun e w' => e = .returned (.tuple #[.agg #[.int .i64 (diR a s b t).1.1, .int .i64 (diR a s b t).1.2], .int .i64 (diR a s b t).2]) ∧ Gr w w' := by
  rcases two_cases a s b t with ⟨h0, h1, h2⟩ | ⟨hn, hc⟩
  · have H := Lib.hid (diR_ok a s b t h1 h2)
    obtain ⟨⟨a1, a2⟩, s1, s2⟩ := (fg_iff a s).1 h1
    obtain ⟨⟨b1, b2⟩, t1, t2⟩ := (fg_iff b t).1 h2
    have E0 := Lib.hid h0
    have E1 := Lib.hid h1
    have E2 := Lib.hid h2
    clear h0 h1 h2
    have R := rdd_tens (a) (b) 3 (by omega) (by omega)
    have HP := Lib.hid (rdd_plus (a) (b) 3 (s - t) (by omega) (by omega))
    have HX := Lib.hid (show ((rdd (a) (b) 3).1, (rdd (a) (b) 3).2 + (s - t)) = rdd a b (s - t + 3) by
      rw [show s - t + 3 = 3 + (s - t) by omega, ← HP.out.1, ← HP.out.2])
    go_enter Try.func86, Try.ntmps86
    go_wp2_with (go_at_call 54; refine (isFigure_impl _ _ _).mono ?_; (first | rw [E1.out] | rw [E2.out]); rintro e w' ⟨rfl, k, os, rfl⟩)
    have q1 : IntKind.i64.wrap (s - t) = s - t := IntWalk.i64_in _ (by omega)
    go_region_held3 (fun w' => w'.cell? ⟨w.heap.size, 0, none⟩ = some (.int .i64 a) ∧ w'.cell? ⟨w.heap.size, 1, none⟩ = some (.int .i64 s) ∧ w'.cell? ⟨w.heap.size + 1, 0, none⟩ = some (.int .i64 b) ∧ w'.cell? ⟨w.heap.size + 1, 1, none⟩ = some (.int .i64 t)) (go_simp) (first
      | (go_at_call 108; refine (round_impl _ _ _ (by omega) (by omega) (by omega) (by omega)).mono ?_; rintro e w' ⟨rfl, k, os, rfl⟩)
      | (go_at_call 109; refine (shift_any _ _ _ _ (by omega) (by omega) (by omega) (by omega)).mono ?_; rw [HX.out]; rintro e w' ⟨rfl, k, os, rfl⟩))
    all_goals
      go_wp2
      ((try simp only [Exit.inBlock, Exit.then]); refine bodyPost_ret (v := .tuple #[.agg #[.int .i64 (rsl (rdd a b (s - t + 3))).1.1, .int .i64 (rsl (rdd a b (s - t + 3))).1.2], .int .i64 (rsl (rdd a b (s - t + 3))).2]) (by simp [results, Try.results86, go_sem]) rfl ?_)
      exact ⟨ret_fig (by rw [H.out]) (by rw [H.out]) (by rw [H.out]), (by repeat (first | with_reducible exact Gr.refl _ | with_reducible refine Gr.alloc ?_ _ | with_reducible refine Gr.gr ?_ _ _ | with_reducible refine Gr.drew ?_ | with_reducible refine Gr.drewN ?_ _))⟩
  · have H := Lib.hid (diR_no a s b t hn)
    clear hn
    rcases hc with h | ⟨h, h'⟩
    · have E1 := Lib.hid h
      clear h
      go_enter Try.func86, Try.ntmps86
      go_wp2_with (go_at_call 54; refine (isFigure_impl _ _ _).mono ?_; rw [E1.out]; rintro e w' ⟨rfl, k, os, rfl⟩)
      ((try simp only [Exit.inBlock, Exit.then]); refine bodyPost_ret (v := .tuple #[.agg #[.int .i64 0, .int .i64 0], .int .i64 1]) (by simp [results, Try.results86, go_sem]) rfl ?_)
      exact ⟨ret_fig (by rw [H.out]) (by rw [H.out]) (by rw [H.out]), (by repeat (first | with_reducible exact Gr.refl _ | with_reducible refine Gr.alloc ?_ _ | with_reducible refine Gr.gr ?_ _ _ | with_reducible refine Gr.drew ?_ | with_reducible refine Gr.drewN ?_ _))⟩
    · have E1 := Lib.hid h
      have E2 := Lib.hid h'
      clear h h'
      go_enter Try.func86, Try.ntmps86
      go_wp2_with (go_at_call 54; refine (isFigure_impl _ _ _).mono ?_; (first | rw [E1.out] | rw [E2.out]); rintro e w' ⟨rfl, k, os, rfl⟩)
      ((try simp only [Exit.inBlock, Exit.then]); refine bodyPost_ret (v := .tuple #[.agg #[.int .i64 0, .int .i64 0], .int .i64 1]) (by simp [results, Try.results86, go_sem]) rfl ?_)
      exact ⟨ret_fig (by rw [H.out]) (by rw [H.out]) (by rw [H.out]), (by repeat (first | with_reducible exact Gr.refl _ | with_reducible refine Gr.alloc ?_ _ | with_reducible refine Gr.gr ?_ _ _ | with_reducible refine Gr.drew ?_ | with_reducible refine Gr.drewN ?_ _))⟩

theorem diR_spec (a s b t : Int) (w : World) :
    Calls Try.prog 60 #[.agg #[.int .i64 a, .int .i64 s], .agg #[.int .i64 b, .int .i64 t]] w fun e w' => e = .returned (.tuple #[.agg #[.int .i64 (diR a s b t).1.1, .int .i64 (diR a s b t).1.2], .int .i64 (diR a s b t).2]) ∧ Gr w w' := by
  rcases two_cases a s b t with ⟨h0, h1, h2⟩ | ⟨hn, hc⟩
  · have H := Lib.hid (diR_ok a s b t h1 h2)
    obtain ⟨⟨a1, a2⟩, s1, s2⟩ := (fg_iff a s).1 h1
    obtain ⟨⟨b1, b2⟩, t1, t2⟩ := (fg_iff b t).1 h2
    have E0 := Lib.hid h0
    have E1 := Lib.hid h1
    have E2 := Lib.hid h2
    clear h0 h1 h2
    go_enter Try.func60, Try.ntmps60
    go_wp2_with (first
      | (go_at_call 88; refine (two_spec _ _ _ _ _).mono ?_; rw [E0.out]; rintro e w' ⟨rfl, k, os, rfl⟩)
      | (go_at_call 90; refine (round_spec _ _ _ _ (by omega) (by omega) (by omega) (by omega) (by omega) (by omega)).mono ?_; rintro e w' ⟨rfl, k, os, rfl⟩)
      | (go_at_call 89; refine (result_pair (rdd a b (s - t + 3)) _).mono ?_; rintro e w' ⟨rfl, k, os, rfl⟩))
    ((try simp only [Exit.inBlock, Exit.then]); refine bodyPost_ret (v := .tuple #[.agg #[.int .i64 (rsl (rdd a b (s - t + 3))).1.1, .int .i64 (rsl (rdd a b (s - t + 3))).1.2], .int .i64 (rsl (rdd a b (s - t + 3))).2]) (by simp [results, Try.results60, go_sem]) rfl ?_)
    exact ⟨ret_fig (by rw [H.out]) (by rw [H.out]) (by rw [H.out]), (by repeat (first | with_reducible exact Gr.refl _ | with_reducible refine Gr.alloc ?_ _ | with_reducible refine Gr.gr ?_ _ _ | with_reducible refine Gr.drew ?_ | with_reducible refine Gr.drewN ?_ _))⟩
  · have H := Lib.hid (diR_no a s b t hn)
    have E0 := Lib.hid hn
    clear hn hc
    go_enter Try.func60, Try.ntmps60
    go_wp2_with (go_at_call 88; refine (two_spec _ _ _ _ _).mono ?_; rw [E0.out]; rintro e w' ⟨rfl, k, os, rfl⟩)
    ((try simp only [Exit.inBlock, Exit.then]); refine bodyPost_ret (v := .tuple #[.agg #[.int .i64 0, .int .i64 0], .int .i64 1]) (by simp [results, Try.results60, go_sem]) rfl ?_)
    exact ⟨ret_fig (by rw [H.out]) (by rw [H.out]) (by rw [H.out]), (by repeat (first | with_reducible exact Gr.refl _ | with_reducible refine Gr.alloc ?_ _ | with_reducible refine Gr.gr ?_ _ _ | with_reducible refine Gr.drew ?_ | with_reducible refine Gr.drewN ?_ _))⟩

end Go.Proofs.Ytphebmbapllinaa
