/- Contracts of chapter 4: spans of powers, errors of spans, middles, in the program and in the model. -/
import Derived.Test.YtdbeedfapkfibaaGreatDoorC04d
import Derived.Test.YtdbeedfapkfibaaGreatDoorC02d
import Derived.Test.YtdbeedfapkfibaaGreatDoor3A
import Derived.Test.YtdbeedfapkfibaaGreatDoorC02e
import Derived.Test.YtdbeedfapkfibaaGreatDoorMA
namespace Go.Proofs.YtdbeedfapkfibaaGreatDoor
open Go.RowKit Go.Shelf
set_option linter.unusedVariables false
set_option linter.unusedSimpArgs false

theorem scR_iv (a b n d : Int) (h : (scR a b n d).2 = 0) : iv (scR a b n d).1.1 (scR a b n d).1.2 = true := by
  rcases scR_facts a b n d with hc | ⟨-, -, -, -, -, hi⟩
  · exact absurd h hc
  · exact hi

theorem scd_impl (a s b t : Int) (w : World) :
    Calls Tryz.prog 59 #[.agg #[.int .i64 a, .int .i64 s], .agg #[.int .i64 b, .int .i64 t]] w fun e w' => e = .returned (.int .i64 (scd a s b t)) ∧ Gr w w' := by
  have hC := Lib.hid (fun W => cmR_impl a s b t W)
  rcases scd_cases a s b t with ⟨h0, h⟩ | ⟨h0, h1, h2, h3, h⟩ | ⟨h0, h1, h2, h3, h⟩
  · rw [cmR_no a s b t h0] at hC
    have H := Lib.hid h
    clear h0 h
    go_enter Tryz.func59, Tryz.ntmps59
    go_wp2_with (go_at_call 43; refine (hC.out _).mono ?_; rintro e w' ⟨rfl, k, os, rfl⟩)
    go_ret
    exact ⟨ret_int (by rw [H.out]), (by repeat (first | with_reducible exact Gr.refl _ | with_reducible refine Gr.alloc ?_ _ | with_reducible refine Gr.gr ?_ _ _ | with_reducible refine Gr.drew ?_ | with_reducible refine Gr.drewN ?_ _))⟩
  · rw [cmR_ok a s b t h1 h2, cmpI_gt _ _ h3] at hC
    have H := Lib.hid h
    clear h0 h h1 h2 h3
    go_enter Tryz.func59, Tryz.ntmps59
    go_wp2_with (go_at_call 43; refine (hC.out _).mono ?_; rintro e w' ⟨rfl, k, os, rfl⟩)
    go_ret
    exact ⟨ret_int (by rw [H.out]), (by repeat (first | with_reducible exact Gr.refl _ | with_reducible refine Gr.alloc ?_ _ | with_reducible refine Gr.gr ?_ _ _ | with_reducible refine Gr.drew ?_ | with_reducible refine Gr.drewN ?_ _))⟩
  · have H := Lib.hid h
    rw [cmR_ok a s b t h1 h2] at hC
    rcases Int.lt_or_eq_of_le h3 with h4 | h4
    · rw [cmpI_lt _ _ h4] at hC
      clear h0 h h1 h2 h3 h4
      go_enter Tryz.func59, Tryz.ntmps59
      go_wp2_with (go_at_call 43; refine (hC.out _).mono ?_; rintro e w' ⟨rfl, k, os, rfl⟩)
      go_ret
      exact ⟨ret_int (by rw [H.out]), (by repeat (first | with_reducible exact Gr.refl _ | with_reducible refine Gr.alloc ?_ _ | with_reducible refine Gr.gr ?_ _ _ | with_reducible refine Gr.drew ?_ | with_reducible refine Gr.drewN ?_ _))⟩
    · rw [cmpI_eq _ _ h4] at hC
      clear h0 h h1 h2 h3 h4
      go_enter Tryz.func59, Tryz.ntmps59
      go_wp2_with (go_at_call 43; refine (hC.out _).mono ?_; rintro e w' ⟨rfl, k, os, rfl⟩)
      go_ret
      exact ⟨ret_int (by rw [H.out]), (by repeat (first | with_reducible exact Gr.refl _ | with_reducible refine Gr.alloc ?_ _ | with_reducible refine Gr.gr ?_ _ _ | with_reducible refine Gr.drew ?_ | with_reducible refine Gr.drewN ?_ _))⟩

theorem scd_code (a s b t : Int) : scd a s b t = 0 ∨ ((scd a s b t != 0) = true ∧ scd a s b t ≠ 0) := by
  rcases scd_cases a s b t with ⟨-, h⟩ | ⟨-, -, -, -, h⟩ | ⟨-, -, -, -, h⟩ <;> simp [h]

theorem seR_impl (a s b t : Int) (w : World) :
    Calls Tryz.prog 31 #[.agg #[.int .i64 a, .int .i64 s], .agg #[.int .i64 b, .int .i64 t]] w fun e w' => e = .returned (.tuple #[.int .i64 (seR a s b t).1, .int .i64 (seR a s b t).2]) ∧ Gr w w' := by
  have hC := Lib.hid (fun W => scd_impl a s b t W)
  rcases scd_code a s b t with h | ⟨h, h'⟩
  · have H := Lib.hid (seR_ok a s b t h)
    have hR := Lib.hid (fun W => reR_impl b t a s W)
    rw [h] at hC
    generalize (reR b t a s) = p at *
    clear h
    go_enter Tryz.func31, Tryz.ntmps31
    go_wp2_with (first
      | (go_at_call 59; refine (hC.out _).mono ?_; rintro e w' ⟨rfl, k, os, rfl⟩)
      | (go_at_call 60; refine (hR.out _).mono ?_; rintro e w' ⟨rfl, k, os, rfl⟩))
    go_ret2
    exact ⟨ret_two (by rw [H.out]) (by rw [H.out]), (by repeat (first | with_reducible exact Gr.refl _ | with_reducible refine Gr.alloc ?_ _ | with_reducible refine Gr.gr ?_ _ _ | with_reducible refine Gr.drew ?_ | with_reducible refine Gr.drewN ?_ _))⟩
  · have H := Lib.hid (seR_no a s b t h')
    generalize scd a s b t = c at *
    clear h'
    go_enter Tryz.func31, Tryz.ntmps31
    go_wp2_with (go_at_call 59; refine (hC.out _).mono ?_; rintro e w' ⟨rfl, k, os, rfl⟩)
    go_ret2
    exact ⟨ret_two (by rw [H.out]) (by rw [H.out]), (by repeat (first | with_reducible exact Gr.refl _ | with_reducible refine Gr.alloc ?_ _ | with_reducible refine Gr.gr ?_ _ _ | with_reducible refine Gr.drew ?_ | with_reducible refine Gr.drewN ?_ _))⟩

theorem seR_spec (a s b t : Int) (w : World) :
    Calls Tryz.prog 34 #[.agg #[.int .i64 a, .int .i64 s], .agg #[.int .i64 b, .int .i64 t]] w fun e w' => e = .returned (.tuple #[.int .i64 (seR a s b t).1, .int .i64 (seR a s b t).2]) ∧ Gr w w' := by
  rcases scd_cases a s b t with ⟨h0, h⟩ | ⟨h0, h1, h2, h3, h⟩ | ⟨h0, h1, h2, h3, h⟩
  · have H := Lib.hid (seR_no a s b t (by omega))
    rw [h] at H
    have E := Lib.hid h0
    clear h0 h
    go_enter Tryz.func34, Tryz.ntmps34
    go_wp2_with (go_at_call 65; refine (two_spec _ _ _ _ _).mono ?_; rw [E.out]; rintro e w' ⟨rfl, k, os, rfl⟩)
    go_ret2
    exact ⟨ret_two (by rw [H.out]) (by rw [H.out]), (by repeat (first | with_reducible exact Gr.refl _ | with_reducible refine Gr.alloc ?_ _ | with_reducible refine Gr.gr ?_ _ _ | with_reducible refine Gr.drew ?_ | with_reducible refine Gr.drewN ?_ _))⟩
  · have H := Lib.hid (seR_no a s b t (by omega))
    rw [h] at H
    have E := Lib.hid h0
    have hc := Lib.hid (fun W => compare_spec b t a s W h2 h1)
    rw [cmpI_lt _ _ h3] at hc
    clear h0 h h1 h2 h3
    go_enter Tryz.func34, Tryz.ntmps34
    go_wp2_with (first
      | (go_at_call 65; refine (two_spec _ _ _ _ _).mono ?_; rw [E.out]; rintro e w' ⟨rfl, k, os, rfl⟩)
      | (go_at_call 66; refine (hc.out _).mono ?_; rintro e w' ⟨rfl, k, os, rfl⟩))
    go_ret2
    exact ⟨ret_two (by rw [H.out]) (by rw [H.out]), (by repeat (first | with_reducible exact Gr.refl _ | with_reducible refine Gr.alloc ?_ _ | with_reducible refine Gr.gr ?_ _ _ | with_reducible refine Gr.drew ?_ | with_reducible refine Gr.drewN ?_ _))⟩
  · have H := Lib.hid (seR_ok a s b t h)
    have E := Lib.hid h0
    have hc := Lib.hid (fun W => compare_spec b t a s W h2 h1)
    have hR := Lib.hid (fun W => reR_spec b t a s W)
    generalize (reR b t a s) = p at *
    rcases Int.lt_or_eq_of_le h3 with h4 | h4
    · rw [cmpI_gt _ _ h4] at hc
      clear h0 h h1 h2 h3 h4
      go_enter Tryz.func34, Tryz.ntmps34
      go_wp2_with (first
        | (go_at_call 65; refine (two_spec _ _ _ _ _).mono ?_; rw [E.out]; rintro e w' ⟨rfl, k, os, rfl⟩)
        | (go_at_call 66; refine (hc.out _).mono ?_; rintro e w' ⟨rfl, k, os, rfl⟩)
        | (go_at_call 67; refine (hR.out _).mono ?_; rintro e w' ⟨rfl, k, os, rfl⟩))
      go_ret2
      exact ⟨ret_two (by rw [H.out]) (by rw [H.out]), (by repeat (first | with_reducible exact Gr.refl _ | with_reducible refine Gr.alloc ?_ _ | with_reducible refine Gr.gr ?_ _ _ | with_reducible refine Gr.drew ?_ | with_reducible refine Gr.drewN ?_ _))⟩
    · rw [cmpI_eq _ _ h4.symm] at hc
      clear h0 h h1 h2 h3 h4
      go_enter Tryz.func34, Tryz.ntmps34
      go_wp2_with (first
        | (go_at_call 65; refine (two_spec _ _ _ _ _).mono ?_; rw [E.out]; rintro e w' ⟨rfl, k, os, rfl⟩)
        | (go_at_call 66; refine (hc.out _).mono ?_; rintro e w' ⟨rfl, k, os, rfl⟩)
        | (go_at_call 67; refine (hR.out _).mono ?_; rintro e w' ⟨rfl, k, os, rfl⟩))
      go_ret2
      exact ⟨ret_two (by rw [H.out]) (by rw [H.out]), (by repeat (first | with_reducible exact Gr.refl _ | with_reducible refine Gr.alloc ?_ _ | with_reducible refine Gr.gr ?_ _ _ | with_reducible refine Gr.drew ?_ | with_reducible refine Gr.drewN ?_ _))⟩

end Go.Proofs.YtdbeedfapkfibaaGreatDoor
