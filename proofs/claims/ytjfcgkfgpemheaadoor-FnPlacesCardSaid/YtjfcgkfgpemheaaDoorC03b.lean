/- Contracts of chapter 3: what the public functions of intervals return, in the program and in the model. -/
import Derived.Test.YtjfcgkfgpemheaaDoorC03a
import Derived.Test.YtjfcgkfgpemheaaDoorC02c
import Derived.Deep.RegionHeld3
namespace Go.Proofs.YtjfcgkfgpemheaaDoor
open Go.RowKit
set_option linter.unusedVariables false
set_option linter.unusedSimpArgs false

theorem iv_two (a b c d : Int) : ((iv a b && iv c d) = true ∧ iv a b = true ∧ iv c d = true) ∨ ((iv a b && iv c d) = false ∧ (iv a b = false ∨ (iv a b = true ∧ iv c d = false))) := by
  cases iv a b <;> cases iv c d <;> simp

theorem suR_impl (a b c d : Int) (w : World) :
    Calls Tryd.prog 51 #[.agg #[.int .i64 a, .int .i64 b], .agg #[.int .i64 c, .int .i64 d]] w fun e w' => e = .returned (.tuple #[.agg #[.int .i64 (suR a b c d).1.1, .int .i64 (suR a b c d).1.2], .int .i64 (suR a b c d).2]) ∧ Gr w w' := by
  rcases iv_two a b c d with ⟨h0, h1, h2⟩ | ⟨h0, h1 | ⟨h1, h2⟩⟩
  · obtain ⟨⟨a1, a2⟩, ⟨b1, b2⟩, -⟩ := (iv_iff a b).1 h1
    obtain ⟨⟨c1, c2⟩, ⟨d1, d2⟩, -⟩ := (iv_iff c d).1 h2
    have H := Lib.hid (suR_ok a b c d h0)
    have E1 := Lib.hid h1
    have E2 := Lib.hid h2
    clear h0 h1 h2
    go_enter Tryd.func51, Tryd.ntmps51
    go_wp2_with (first
      | (go_at_call 67; refine (isInterval_impl _ _ _).mono ?_; (first | rw [E1.out] | rw [E2.out]); rintro e w' ⟨rfl, k, os, rfl⟩)
      | (go_at_call 68; refine (minus_any _ _ _ _ _ (by omega) (by omega) (by omega) (by omega) (by omega) (by omega) (by omega) (by omega)).mono ?_; rintro e w' ⟨rfl, k, os, rfl⟩)
      | (go_at_call 69; refine (limited_any _ _ _).mono ?_; rintro e w' ⟨rfl, k, os, rfl⟩))
    ((try simp only [Exit.inBlock, Exit.then]); refine bodyPost_ret (v := .tuple #[.agg #[.int .i64 (rsi (a - d) (b - c)).1.1, .int .i64 (rsi (a - d) (b - c)).1.2], .int .i64 (rsi (a - d) (b - c)).2]) (by simp [results, Tryd.results51, go_sem]) rfl ?_)
    exact ⟨ret_fig (by rw [H.out]) (by rw [H.out]) (by rw [H.out]), (by repeat (first | with_reducible exact Gr.refl _ | with_reducible refine Gr.alloc ?_ _ | with_reducible refine Gr.gr ?_ _ _ | with_reducible refine Gr.drew ?_ | with_reducible refine Gr.drewN ?_ _))⟩
  · have H := Lib.hid (suR_no a b c d h0)
    have E1 := Lib.hid h1
    clear h0 h1
    go_enter Tryd.func51, Tryd.ntmps51
    go_wp2_with (go_at_call 67; refine (isInterval_impl _ _ _).mono ?_; rw [E1.out]; rintro e w' ⟨rfl, k, os, rfl⟩)
    ((try simp only [Exit.inBlock, Exit.then]); refine bodyPost_ret (v := .tuple #[.agg #[.int .i64 0, .int .i64 0], .int .i64 1]) (by simp [results, Tryd.results51, go_sem]) rfl ?_)
    exact ⟨ret_fig (by rw [H.out]) (by rw [H.out]) (by rw [H.out]), (by repeat (first | with_reducible exact Gr.refl _ | with_reducible refine Gr.alloc ?_ _ | with_reducible refine Gr.gr ?_ _ _ | with_reducible refine Gr.drew ?_ | with_reducible refine Gr.drewN ?_ _))⟩
  · have H := Lib.hid (suR_no a b c d h0)
    have E1 := Lib.hid h1
    have E2 := Lib.hid h2
    clear h0 h1 h2
    go_enter Tryd.func51, Tryd.ntmps51
    go_wp2_with (go_at_call 67; refine (isInterval_impl _ _ _).mono ?_; (first | rw [E1.out] | rw [E2.out]); rintro e w' ⟨rfl, k, os, rfl⟩)
    ((try simp only [Exit.inBlock, Exit.then]); refine bodyPost_ret (v := .tuple #[.agg #[.int .i64 0, .int .i64 0], .int .i64 1]) (by simp [results, Tryd.results51, go_sem]) rfl ?_)
    exact ⟨ret_fig (by rw [H.out]) (by rw [H.out]) (by rw [H.out]), (by repeat (first | with_reducible exact Gr.refl _ | with_reducible refine Gr.alloc ?_ _ | with_reducible refine Gr.gr ?_ _ _ | with_reducible refine Gr.drew ?_ | with_reducible refine Gr.drewN ?_ _))⟩

theorem ret_three {a b c d e f : Int} (h : a = d) (h' : b = e) (h'' : c = f) : Ending.returned (.tuple #[.int .i64 a, .int .i64 b, .int .i64 c]) = .returned (.tuple #[.int .i64 d, .int .i64 e, .int .i64 f]) := by rw [h, h', h'']

theorem mod_spec (a m : Int) (w : World) (a1 : -1000000000000000 ≤ a) (a2 : a ≤ 1000000000000000) (m1 : 1 ≤ m) (m2 : m ≤ 1000000000000000) :
    Calls Tryd.prog 60 #[.int .i64 a, .int .i64 m] w fun e w' => e = .returned (.int .i64 (a % m)) ∧ Gr w w' := by
  obtain ⟨t1, t2, t3, t4⟩ := mod_bds a m m1
  by_cases h : 0 ≤ a
  all_goals
    go_enter Tryd.func60, Tryd.ntmps60
    go_wp2
    go_ret
    exact ⟨ret_int (by first | exact mod_1 a m | exact mod_2 a m | exact tmod_emod' a m | exact Int.emod_emod _ _), (by repeat (first | with_reducible exact Gr.refl _ | with_reducible refine Gr.alloc ?_ _ | with_reducible refine Gr.gr ?_ _ _ | with_reducible refine Gr.drew ?_ | with_reducible refine Gr.drewN ?_ _))⟩

end Go.Proofs.YtjfcgkfgpemheaaDoor
