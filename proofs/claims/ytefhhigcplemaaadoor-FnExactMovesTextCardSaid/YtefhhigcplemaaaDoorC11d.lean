/- Contracts of chapter 11: points of figures, in the program and in the model; figures of a scale by number (a step of 1). -/
import Derived.Test.YtefhhigcplemaaaDoorC11a
import Derived.Test.YtefhhigcplemaaaDoorC05c
import Derived.Test.YtefhhigcplemaaaDoorFd
import Derived.Test.YtefhhigcplemaaaDoorLw
namespace Go.Proofs.YtefhhigcplemaaaDoor
open Go.RowKit
set_option linter.unusedVariables false
set_option linter.unusedSimpArgs false

theorem mid11_any (lo hi : Int) (w : World) (l1 : -4000000000000 ≤ lo) (l2 : lo ≤ 4000000000000) (h1 : -4000000000000 ≤ hi) (h2 : hi ≤ 4000000000000) :
    Calls Tryd.prog 136 #[.agg #[.int .i64 lo, .int .i64 hi]] w fun e w' => e = .returned (.int .i64 ((lo + hi).fdiv 2)) ∧ Gr w w' := by
  go_enter Tryd.func136, Tryd.ntmps136
  go_wp2_with (go_at_call 154; refine (quotientDown_any _ _ _ (by omega) (by omega) (by omega) (by omega) (by omega)).mono ?_; rintro e w' ⟨rfl, rfl⟩)
  go_ret
  exact ⟨rfl, (by repeat (first | with_reducible exact Gr.refl _ | with_reducible refine Gr.alloc ?_ _ | with_reducible refine Gr.gr ?_ _ _ | with_reducible refine Gr.drew ?_ | with_reducible refine Gr.drewN ?_ _))⟩
set_option maxHeartbeats 1000000 in
theorem pointOn_any (s d t : Int) (w : World) (hD : Dcs w) (hf : fg d t = true) (hs : lsc s = true) :
    Calls Tryd.prog 113 #[.int .i64 s, .agg #[.int .i64 d, .int .i64 t]] w fun e w' => e = .returned (.int .i64 (pnt s d t)) ∧ Gr w w' := by
  have HD := Lib.hid hD
  have b := psn_bd s d t hf
  have HP := Lib.hid (show pnt s d t = ((psn s d t).1 + (psn s d t).2).fdiv 2 from rfl)
  have hs' := (lsc_iff s).1 hs
  clear hD
  generalize pnt s d t = R at *
  rcases (show s = 0 ∨ s = 1 ∨ s = 2 ∨ s = 3 ∨ s = 4 by omega) with rfl | rfl | rfl | rfl | rfl
  · have HQ := Lib.hid (fun W => rep_impl 1 d t W hf (by omega) (by omega))
    rw [show rep d t 1 = psn 0 d t by rw [psn_0, rep_one]] at HQ
    have hm : ∀ (w : World), (method 329 183 (.agg #[.int .i64 1]) "loop.example/g00951/impl.position").run Tryd.prog w = .ok (210, .agg #[.int .i64 1]) w := fun _ => by kernel_rfl
    generalize (psn 0 d t).1 = x1 at *
    generalize (psn 0 d t).2 = x2 at *
    clear hf hs hs'
    go_enter Tryd.func113, Tryd.ntmps113
    go_wp2
    ((first | refine region_gr_on (by kernel_rfl) (by kernel_rfl) ?_ | refine region_gr (by kernel_rfl) (by kernel_rfl) ?_); (repeat (quiet_step (first | exact Calls.gr_same (printed_0 _ (HD.out.gr (by repeat (first | with_reducible exact Gr.refl _ | with_reducible refine Gr.alloc ?_ _ | with_reducible refine Gr.gr ?_ _ _ | with_reducible refine Gr.drew ?_ | with_reducible refine Gr.drewN ?_ _)))) | exact Calls.gr_of (HQ.out _) | exact Calls.gr_of (mid11_any _ _ _ (by omega) (by omega) (by omega) (by omega))))); refine wpQuiet_nil ?_; intro _ hw'; obtain ⟨⟨kq, oq⟩, hw''⟩ := hw'; subst hw'')
    go_wp2
    go_ret
    exact ⟨ret_int HP.out.symm, (by repeat (first | with_reducible exact Gr.refl _ | with_reducible refine Gr.alloc ?_ _ | with_reducible refine Gr.gr ?_ _ _ | with_reducible refine Gr.drew ?_ | with_reducible refine Gr.drewN ?_ _))⟩
  · have HQ := Lib.hid (fun W => rep_impl 2 d t W hf (by omega) (by omega))
    rw [show rep d t 2 = psn 1 d t by rw [psn_1]] at HQ
    have hm : ∀ (w : World), (method 329 183 (.agg #[.int .i64 2]) "loop.example/g00951/impl.position").run Tryd.prog w = .ok (210, .agg #[.int .i64 2]) w := fun _ => by kernel_rfl
    generalize (psn 1 d t).1 = x1 at *
    generalize (psn 1 d t).2 = x2 at *
    clear hf hs hs'
    go_enter Tryd.func113, Tryd.ntmps113
    go_wp2
    ((first | refine region_gr_on (by kernel_rfl) (by kernel_rfl) ?_ | refine region_gr (by kernel_rfl) (by kernel_rfl) ?_); (repeat (quiet_step (first | exact Calls.gr_same (printed_1 _ (HD.out.gr (by repeat (first | with_reducible exact Gr.refl _ | with_reducible refine Gr.alloc ?_ _ | with_reducible refine Gr.gr ?_ _ _ | with_reducible refine Gr.drew ?_ | with_reducible refine Gr.drewN ?_ _)))) | exact Calls.gr_of (HQ.out _) | exact Calls.gr_of (mid11_any _ _ _ (by omega) (by omega) (by omega) (by omega))))); refine wpQuiet_nil ?_; intro _ hw'; obtain ⟨⟨kq, oq⟩, hw''⟩ := hw'; subst hw'')
    go_wp2
    go_ret
    exact ⟨ret_int HP.out.symm, (by repeat (first | with_reducible exact Gr.refl _ | with_reducible refine Gr.alloc ?_ _ | with_reducible refine Gr.gr ?_ _ _ | with_reducible refine Gr.drew ?_ | with_reducible refine Gr.drewN ?_ _))⟩
  · have HQ := Lib.hid (fun W => rep_impl 3 d t W hf (by omega) (by omega))
    rw [show rep d t 3 = psn 2 d t by rw [psn_2]] at HQ
    have hm : ∀ (w : World), (method 329 183 (.agg #[.int .i64 3]) "loop.example/g00951/impl.position").run Tryd.prog w = .ok (210, .agg #[.int .i64 3]) w := fun _ => by kernel_rfl
    generalize (psn 2 d t).1 = x1 at *
    generalize (psn 2 d t).2 = x2 at *
    clear hf hs hs'
    go_enter Tryd.func113, Tryd.ntmps113
    go_wp2
    ((first | refine region_gr_on (by kernel_rfl) (by kernel_rfl) ?_ | refine region_gr (by kernel_rfl) (by kernel_rfl) ?_); (repeat (quiet_step (first | exact Calls.gr_same (printed_2 _ (HD.out.gr (by repeat (first | with_reducible exact Gr.refl _ | with_reducible refine Gr.alloc ?_ _ | with_reducible refine Gr.gr ?_ _ _ | with_reducible refine Gr.drew ?_ | with_reducible refine Gr.drewN ?_ _)))) | exact Calls.gr_of (HQ.out _) | exact Calls.gr_of (mid11_any _ _ _ (by omega) (by omega) (by omega) (by omega))))); refine wpQuiet_nil ?_; intro _ hw'; obtain ⟨⟨kq, oq⟩, hw''⟩ := hw'; subst hw'')
    go_wp2
    go_ret
    exact ⟨ret_int HP.out.symm, (by repeat (first | with_reducible exact Gr.refl _ | with_reducible refine Gr.alloc ?_ _ | with_reducible refine Gr.gr ?_ _ _ | with_reducible refine Gr.drew ?_ | with_reducible refine Gr.drewN ?_ _))⟩
  · have HQ := Lib.hid (fun W => inv_impl d t W hf)
    rw [show 1048576 - (lgb true (d * 100000) + 1) = (psn 3 d t).1 by rw [psn_3], show 1048576 - lgb false (d * 100000) = (psn 3 d t).2 by rw [psn_3]] at HQ
    have hm : ∀ (w : World), (method 329 178 (.agg #[]) "loop.example/g00951/impl.position").run Tryd.prog w = .ok (194, .agg #[]) w := fun _ => by kernel_rfl
    generalize (psn 3 d t).1 = x1 at *
    generalize (psn 3 d t).2 = x2 at *
    clear hf hs hs'
    go_enter Tryd.func113, Tryd.ntmps113
    go_wp2
    ((first | refine region_gr_on (by kernel_rfl) (by kernel_rfl) ?_ | refine region_gr (by kernel_rfl) (by kernel_rfl) ?_); (repeat (quiet_step (first | exact Calls.gr_same (printed_3 _) | exact Calls.gr_of (HQ.out _) | exact Calls.gr_of (mid11_any _ _ _ (by omega) (by omega) (by omega) (by omega))))); refine wpQuiet_nil ?_; intro _ hw'; obtain ⟨⟨kq, oq⟩, hw''⟩ := hw'; subst hw'')
    go_wp2
    go_ret
    exact ⟨ret_int HP.out.symm, (by repeat (first | with_reducible exact Gr.refl _ | with_reducible refine Gr.alloc ?_ _ | with_reducible refine Gr.gr ?_ _ _ | with_reducible refine Gr.drew ?_ | with_reducible refine Gr.drewN ?_ _))⟩
  · have HQ := Lib.hid (fun W => fold_impl d t W hf)
    rw [show fld d = psn 4 d t by rw [psn_4]] at HQ
    have hm : ∀ (w : World), (method 329 179 (.agg #[]) "loop.example/g00951/impl.position").run Tryd.prog w = .ok (205, .agg #[]) w := fun _ => by kernel_rfl
    generalize (psn 4 d t).1 = x1 at *
    generalize (psn 4 d t).2 = x2 at *
    clear hf hs hs'
    go_enter Tryd.func113, Tryd.ntmps113
    go_wp2
    ((first | refine region_gr_on (by kernel_rfl) (by kernel_rfl) ?_ | refine region_gr (by kernel_rfl) (by kernel_rfl) ?_); (repeat (quiet_step (first | exact Calls.gr_same (printed_4 _) | exact Calls.gr_of (HQ.out _) | exact Calls.gr_of (mid11_any _ _ _ (by omega) (by omega) (by omega) (by omega))))); refine wpQuiet_nil ?_; intro _ hw'; obtain ⟨⟨kq, oq⟩, hw''⟩ := hw'; subst hw'')
    go_wp2
    go_ret
    exact ⟨ret_int HP.out.symm, (by repeat (first | with_reducible exact Gr.refl _ | with_reducible refine Gr.alloc ?_ _ | with_reducible refine Gr.gr ?_ _ _ | with_reducible refine Gr.drew ?_ | with_reducible refine Gr.drewN ?_ _))⟩

theorem po_bd (s d t : Int) : -2000000 ≤ (poR s d t).1.1 ∧ (poR s d t).1.1 ≤ 3200000 ∧ -2000000 ≤ (poR s d t).1.2 ∧ (poR s d t).1.2 ≤ 3200000 := by
  by_cases h : pcd s d t = 0
  · rw [poR_ok _ _ _ h]
    rcases pcd_cases s d t with ⟨-, e⟩ | ⟨-, -, e⟩ | ⟨-, -, -, e⟩ | ⟨h1, -⟩
    · omega
    · omega
    · omega
    · exact psn_bd s d t h1
  · rw [poR_no _ _ _ h]; simp
theorem point_spec (s d t : Int) (w : World) (hf : fg d t = true) (hs : sc s = true) :
    Calls Tryd.prog 73 #[.int .i64 s, .agg #[.int .i64 d, .int .i64 t]] w fun e w' => e = .returned (.int .i64 (pnt s d t)) ∧ Gr w w' := by
  have HP := Lib.hid (fun W => position_spec s d t W hf hs (lgb_ok hf))
  have b := psn_bd s d t hf
  have HR := Lib.hid (show pnt s d t = ((psn s d t).1 + (psn s d t).2).fdiv 2 from rfl)
  generalize pnt s d t = R at *
  generalize (psn s d t).1 = x at *
  generalize (psn s d t).2 = y at *
  go_enter Tryd.func73, Tryd.ntmps73
  go_wp2_with (first
    | (go_at_call 110; (with_reducible refine (HP.out _).mono ?_); rintro e w' ⟨rfl, k, os, rfl⟩)
    | (go_at_call 111; refine (floor_any _ _ _ (by omega) (by omega) (by omega) (by omega) (by omega)).mono ?_; rintro e w' ⟨rfl, rfl⟩))
  go_ret
  exact ⟨ret_int HR.out.symm, (by repeat (first | with_reducible exact Gr.refl _ | with_reducible refine Gr.alloc ?_ _ | with_reducible refine Gr.gr ?_ _ _ | with_reducible refine Gr.drew ?_ | with_reducible refine Gr.drewN ?_ _))⟩
theorem dcs_all {w : World} (h : Dcs w) : w.cell? ⟨1, 0, none⟩ = some (.int .i64 1) ∧ w.cell? ⟨1, 1, none⟩ = some (.int .i64 2) ∧ w.cell? ⟨1, 2, none⟩ = some (.int .i64 3) ∧ w.cell? ⟨1, 3, none⟩ = some (.int .i64 1) ∧ w.cell? ⟨1, 4, none⟩ = some (.int .i64 1) ∧ w.cell? ⟨1, 5, none⟩ = some (.int .i64 1) :=
  ⟨h 0 (by omega), h 1 (by omega), h 2 (by omega), h 3 (by omega), h 4 (by omega), h 5 (by omega)⟩
end Go.Proofs.YtefhhigcplemaaaDoor
