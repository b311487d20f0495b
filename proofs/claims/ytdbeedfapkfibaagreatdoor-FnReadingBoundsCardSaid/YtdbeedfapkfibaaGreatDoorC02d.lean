/- Contracts of chapter 2: comparing, rounding to fewer digits, relative errors. -/
import Derived.Test.YtdbeedfapkfibaaGreatDoor2A
namespace Go.Proofs.YtdbeedfapkfibaaGreatDoor
open Go.RowKit
set_option linter.unusedVariables false
set_option linter.unusedSimpArgs false

theorem compare_spec (a s b t : Int) (w : World) (h1 : fg a s = true) (h2 : fg b t = true) :
    Calls Tryz.prog 66 #[.agg #[.int .i64 a, .int .i64 s], .agg #[.int .i64 b, .int .i64 t]] w fun e w' => e = .returned (.int .i64 (cmpI (10000 * s + a) (10000 * t + b))) ∧ Gr w w' := by
  obtain ⟨⟨a1, a2⟩, s1, s2⟩ := (fg_iff a s).1 h1
  obtain ⟨⟨b1, b2⟩, t1, t2⟩ := (fg_iff b t).1 h2
  have q1 : IntKind.i64.wrap (10000 * s) = 10000 * s := IntWalk.i64_in _ (by omega)
  have q2 : IntKind.i64.wrap (10000 * s + a) = 10000 * s + a := IntWalk.i64_in _ (by omega)
  have q3 : IntKind.i64.wrap (10000 * t) = 10000 * t := IntWalk.i64_in _ (by omega)
  have q4 : IntKind.i64.wrap (10000 * t + b) = 10000 * t + b := IntWalk.i64_in _ (by omega)
  rcases Int.lt_trichotomy (10000 * s + a) (10000 * t + b) with h | h | h
  · have H := Lib.hid (cmpI_lt _ _ h)
    go_enter Tryz.func66, Tryz.ntmps66
    go_wp2
    go_quiet (fail)
    go_wp2
    go_ret
    exact ⟨ret_int (by rw [H.out]), (by repeat (first | with_reducible exact Gr.refl _ | with_reducible refine Gr.alloc ?_ _ | with_reducible refine Gr.gr ?_ _ _ | with_reducible refine Gr.drew ?_ | with_reducible refine Gr.drewN ?_ _))⟩
  · have H := Lib.hid (cmpI_eq _ _ h)
    go_enter Tryz.func66, Tryz.ntmps66
    go_wp2
    go_quiet (fail)
    go_wp2
    go_ret
    exact ⟨ret_int (by rw [H.out]), (by repeat (first | with_reducible exact Gr.refl _ | with_reducible refine Gr.alloc ?_ _ | with_reducible refine Gr.gr ?_ _ _ | with_reducible refine Gr.drew ?_ | with_reducible refine Gr.drewN ?_ _))⟩
  · have H := Lib.hid (cmpI_gt _ _ h)
    go_enter Tryz.func66, Tryz.ntmps66
    go_wp2
    go_quiet (fail)
    go_wp2
    go_ret
    exact ⟨ret_int (by rw [H.out]), (by repeat (first | with_reducible exact Gr.refl _ | with_reducible refine Gr.alloc ?_ _ | with_reducible refine Gr.gr ?_ _ _ | with_reducible refine Gr.drew ?_ | with_reducible refine Gr.drewN ?_ _))⟩

theorem cmR_impl (a s b t : Int) (w : World) :
    Calls Tryz.prog 43 #[.agg #[.int .i64 a, .int .i64 s], .agg #[.int .i64 b, .int .i64 t]] w fun e w' => e = .returned (.tuple #[.int .i64 (cmR a s b t).1, .int .i64 (cmR a s b t).2]) ∧ Gr w w' := by
  rcases two_cases a s b t with ⟨h0, h1, h2⟩ | ⟨hn, hc⟩
  · have H := Lib.hid (cmR_ok a s b t h1 h2)
    obtain ⟨⟨a1, a2⟩, s1, s2⟩ := (fg_iff a s).1 h1
    obtain ⟨⟨b1, b2⟩, t1, t2⟩ := (fg_iff b t).1 h2
    have E1 := Lib.hid h1
    have E2 := Lib.hid h2
    clear h0 h1 h2
    go_enter Tryz.func43, Tryz.ntmps43
    go_wp2_with (go_at_call 22; refine (isFigure_impl _ _ _).mono ?_; (first | rw [E1.out] | rw [E2.out]); rintro e w' ⟨rfl, k, os, rfl⟩)
    ((first | refine region_gr_on (by kernel_rfl) (by kernel_rfl) ?_ | refine region_gr (by kernel_rfl) (by kernel_rfl) ?_); (repeat (quiet_step (first | (refine Calls.gr_of (rank_any _ _ _ ?_ ?_ ?_ ?_) <;> omega) | exact Calls.gr_same (cmp_any _ _ _)))); refine wpQuiet_nil ?_; intro _ hw'; obtain ⟨⟨kq, oq⟩, hw''⟩ := hw'; subst hw'')
    go_wp2
    go_ret2
    exact ⟨ret_two (by rw [H.out]) (by rw [H.out]), (by repeat (first | with_reducible exact Gr.refl _ | with_reducible refine Gr.alloc ?_ _ | with_reducible refine Gr.gr ?_ _ _ | with_reducible refine Gr.drew ?_ | with_reducible refine Gr.drewN ?_ _))⟩
  · have H := Lib.hid (cmR_no a s b t hn)
    clear hn
    rcases hc with h | ⟨h, h'⟩
    · have E1 := Lib.hid h
      clear h
      go_enter Tryz.func43, Tryz.ntmps43
      go_wp2_with (go_at_call 22; refine (isFigure_impl _ _ _).mono ?_; rw [E1.out]; rintro e w' ⟨rfl, k, os, rfl⟩)
      go_ret2
      exact ⟨ret_two (by rw [H.out]) (by rw [H.out]), (by repeat (first | with_reducible exact Gr.refl _ | with_reducible refine Gr.alloc ?_ _ | with_reducible refine Gr.gr ?_ _ _ | with_reducible refine Gr.drew ?_ | with_reducible refine Gr.drewN ?_ _))⟩
    · have E1 := Lib.hid h
      have E2 := Lib.hid h'
      clear h h'
      go_enter Tryz.func43, Tryz.ntmps43
      go_wp2_with (go_at_call 22; refine (isFigure_impl _ _ _).mono ?_; (first | rw [E1.out] | rw [E2.out]); rintro e w' ⟨rfl, k, os, rfl⟩)
      go_ret2
      exact ⟨ret_two (by rw [H.out]) (by rw [H.out]), (by repeat (first | with_reducible exact Gr.refl _ | with_reducible refine Gr.alloc ?_ _ | with_reducible refine Gr.gr ?_ _ _ | with_reducible refine Gr.drew ?_ | with_reducible refine Gr.drewN ?_ _))⟩

/-- Three ways of rounding to fewer digits: no figure, no such number of digits, a cut. -/
theorem round_cases (a s g : Int) : fg a s = false ∨ (fg a s = true ∧ g < 1) ∨ (fg a s = true ∧ 1 ≤ g ∧ 4 < g) ∨ (fg a s = true ∧ 1 ≤ g ∧ g ≤ 4) := by
  cases fg a s <;> simp <;> omega

end Go.Proofs.YtdbeedfapkfibaaGreatDoor
