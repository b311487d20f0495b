/- Contracts of chapter 5: places and distances, in the program and in the model. -/
import Derived.Test.YtggflladheemoaaDoorC05c
import Derived.Test.YtggflladheemoaaDoor3A
import Derived.Test.YtggflladheemoaaDoor2A
namespace Go.Proofs.YtggflladheemoaaDoor
open Go.RowKit
set_option linter.unusedVariables false
set_option linter.unusedSimpArgs false

/-- A position times a length, over a decade. -/
theorem tms_len (a b l : Int) (h : 1 ≤ l) : (tms a b l).1 = a * l ∧ (tms a b l).2 = b * l := by
  rw [tms_pos a b l (by omega)]
  exact ⟨rfl, rfl⟩

set_option maxHeartbeats 1000000 in
theorem plR_impl (s d t l : Int) (w : World) (hD : Dcs w) :
    Calls Tryd.prog 153 #[.int .i64 s, .agg #[.int .i64 d, .int .i64 t], .int .i64 l] w fun e w' => e = .returned (.tuple #[.agg #[.int .i64 (plR s d t l).1.1, .int .i64 (plR s d t l).1.2], .int .i64 (plR s d t l).2]) ∧ Gr w w' := by
  have HD := Lib.hid hD
  clear hD
  have HP := Lib.hid (fun W (h : Dcs W) => poR_impl s d t W h)
  rcases qcd_cases s d t l with ⟨e1, -, e⟩ | ⟨e1, -, e⟩ | ⟨e1, -, h1, e⟩ | ⟨e1, h0, h1, e⟩
  · have H := Lib.hid (plR_no s d t l (by omega))
    rw [e] at H
    rw [poR_no s d t (by omega), e1] at HP
    clear e1 e
    go_enter Tryd.func153, Tryd.ntmps153
    go_wp2_with (go_at_call 184; refine (HP.out _ (HD.out.gr (by repeat (first | with_reducible exact Gr.refl _ | with_reducible refine Gr.alloc ?_ _ | with_reducible refine Gr.gr ?_ _ _ | with_reducible refine Gr.drew ?_ | with_reducible refine Gr.drewN ?_ _)))).mono ?_; rintro e w' ⟨rfl, k, os, rfl⟩)
    ((try simp only [Exit.inBlock, Exit.then]); refine bodyPost_ret (v := .tuple #[.agg #[.int .i64 0, .int .i64 0], .int .i64 1]) (by simp [results, Tryd.results153, go_sem]) rfl ?_)
    exact ⟨ps_no _ _ H.out, (by repeat (first | with_reducible exact Gr.refl _ | with_reducible refine Gr.alloc ?_ _ | with_reducible refine Gr.gr ?_ _ _ | with_reducible refine Gr.drew ?_ | with_reducible refine Gr.drewN ?_ _))⟩
  · have H := Lib.hid (plR_no s d t l (by omega))
    rw [e] at H
    rw [poR_no s d t (by omega), e1] at HP
    clear e1 e
    go_enter Tryd.func153, Tryd.ntmps153
    go_wp2_with (go_at_call 184; refine (HP.out _ (HD.out.gr (by repeat (first | with_reducible exact Gr.refl _ | with_reducible refine Gr.alloc ?_ _ | with_reducible refine Gr.gr ?_ _ _ | with_reducible refine Gr.drew ?_ | with_reducible refine Gr.drewN ?_ _)))).mono ?_; rintro e w' ⟨rfl, k, os, rfl⟩)
    ((try simp only [Exit.inBlock, Exit.then]); refine bodyPost_ret (v := .tuple #[.agg #[.int .i64 0, .int .i64 0], .int .i64 2]) (by simp [results, Tryd.results153, go_sem]) rfl ?_)
    exact ⟨ps_no _ _ H.out, (by repeat (first | with_reducible exact Gr.refl _ | with_reducible refine Gr.alloc ?_ _ | with_reducible refine Gr.gr ?_ _ _ | with_reducible refine Gr.drew ?_ | with_reducible refine Gr.drewN ?_ _))⟩
  · have H := Lib.hid (plR_no s d t l (by omega))
    rw [e] at H
    rw [poR_ok s d t e1] at HP
    have E1 := Lib.hid h1
    generalize psn s d t = x at *
    clear e1 e h1
    go_enter Tryd.func153, Tryd.ntmps153
    go_wp2_with (first
      | (go_at_call 184; refine (HP.out _ (HD.out.gr (by repeat (first | with_reducible exact Gr.refl _ | with_reducible refine Gr.alloc ?_ _ | with_reducible refine Gr.gr ?_ _ _ | with_reducible refine Gr.drew ?_ | with_reducible refine Gr.drewN ?_ _)))).mono ?_; rintro e w' ⟨rfl, k, os, rfl⟩)
      | (go_at_call 84; refine (isLength_impl _ _).mono ?_; rw [E1.out]; rintro e w' ⟨rfl, rfl⟩))
    ((try simp only [Exit.inBlock, Exit.then]); refine bodyPost_ret (v := .tuple #[.agg #[.int .i64 0, .int .i64 0], .int .i64 2]) (by simp [results, Tryd.results153, go_sem]) rfl ?_)
    exact ⟨ps_no _ _ H.out, (by repeat (first | with_reducible exact Gr.refl _ | with_reducible refine Gr.alloc ?_ _ | with_reducible refine Gr.gr ?_ _ _ | with_reducible refine Gr.drew ?_ | with_reducible refine Gr.drewN ?_ _))⟩
  · have H := Lib.hid (plR_ok s d t l e)
    rw [poR_ok s d t e1] at HP
    have E1 := Lib.hid h1
    obtain ⟨l1, l2⟩ := (ln_iff l).1 h1
    obtain ⟨p1, p2, p3, p4⟩ := psn_bd s d t h0
    generalize psn s d t = x at *
    obtain ⟨x1, x2⟩ := x
    simp only at p1 p2 p3 p4 HP H
    obtain ⟨m1, m2⟩ := mul_len x1 l p1 p2 l1 l2
    obtain ⟨m3, m4⟩ := mul_len x2 l p3 p4 l1 l2
    have HT := Lib.hid (fun W => times_gen x1 x2 l W (by omega) (by omega) (by omega) (by omega) (by omega) (by omega) (by omega) (by omega) (by omega) (by omega))
    rw [(tms_len x1 x2 l l1).1, (tms_len x1 x2 l l1).2] at HT
    have HO := Lib.hid (fun W => over_any (x1 * l) (x2 * l) 1048576 W (by omega) (by omega) (by omega) (by omega) (by omega) (by omega))
    clear e1 e h1 h0
    go_enter Tryd.func153, Tryd.ntmps153
    go_wp2_with (first
      | (go_at_call 184; refine (HP.out _ (HD.out.gr (by repeat (first | with_reducible exact Gr.refl _ | with_reducible refine Gr.alloc ?_ _ | with_reducible refine Gr.gr ?_ _ _ | with_reducible refine Gr.drew ?_ | with_reducible refine Gr.drewN ?_ _)))).mono ?_; rintro e w' ⟨rfl, k, os, rfl⟩)
      | (go_at_call 84; refine (isLength_impl _ _).mono ?_; rw [E1.out]; rintro e w' ⟨rfl, rfl⟩)
      | (go_at_call 185; refine (HT.out _).mono ?_; rintro e w' ⟨rfl, k, os, rfl⟩)
      | (go_at_call 186; refine (HO.out _).mono ?_; rintro e w' ⟨rfl, k, os, rfl⟩))
    ((try simp only [Exit.inBlock, Exit.then]); refine bodyPost_ret (v := .tuple #[.agg #[.int .i64 ((x1 * l).fdiv 1048576), .int .i64 (cd (x2 * l) 1048576)], .int .i64 0]) (by simp [results, Tryd.results153, go_sem]) rfl ?_)
    exact ⟨ps_ret _ _ _ _ _ H.out rfl rfl rfl, (by repeat (first | with_reducible exact Gr.refl _ | with_reducible refine Gr.alloc ?_ _ | with_reducible refine Gr.gr ?_ _ _ | with_reducible refine Gr.drew ?_ | with_reducible refine Gr.drewN ?_ _))⟩

theorem place_spec (a b l : Int) (w : World) (p1 : -2000000 ≤ a) (p2 : a ≤ 3200000) (p3 : -2000000 ≤ b) (p4 : b ≤ 3200000) (l1 : 1 ≤ l) (l2 : l ≤ 100000) :
    Calls Tryd.prog 156 #[.agg #[.int .i64 a, .int .i64 b], .int .i64 l] w fun e w' => e = .returned (.agg #[.int .i64 (plc a b l).1, .int .i64 (plc a b l).2]) ∧ Gr w w' := by
  obtain ⟨m1, m2⟩ := mul_len a l p1 p2 l1 l2
  obtain ⟨m3, m4⟩ := mul_len b l p3 p4 l1 l2
  have HF := Lib.hid (fun W => floor_any (a * l) 1048576 W (by omega) (by omega) (by omega) (by omega) (by omega))
  have HC := Lib.hid (fun W => ceil_any (b * l) 1048576 W (by omega) (by omega) (by omega) (by omega) (by omega))
  go_enter Tryd.func156, Tryd.ntmps156
  go_wp2_with fail
  have q1 : IntKind.i64.wrap (a * l) = a * l := IntWalk.i64_in _ (by omega)
  have q2 : IntKind.i64.wrap (b * l) = b * l := IntWalk.i64_in _ (by omega)
  go_region_held3 (fun w' => w'.cell? ⟨w.heap.size, 0, none⟩ = some (.int .i64 a) ∧ w'.cell? ⟨w.heap.size, 1, none⟩ = some (.int .i64 b)) (go_simp) (first
    | (go_at_call 158; (try rw [q1]); refine (HF.out _).mono ?_; rintro e w' ⟨rfl, rfl⟩)
    | (go_at_call 188; (try rw [q2]); refine (HC.out _).mono ?_; rintro e w' ⟨rfl, rfl⟩))
  all_goals
    go_wp2
    ((try simp only [Exit.inBlock, Exit.then]); refine bodyPost_ret (v := .agg #[.int .i64 ((a * l).fdiv 1048576), .int .i64 (cd (b * l) 1048576)]) (by simp [results, Tryd.results156, go_sem]) rfl ?_)
    exact ⟨rfl, (by repeat (first | with_reducible exact Gr.refl _ | with_reducible refine Gr.alloc ?_ _ | with_reducible refine Gr.gr ?_ _ _ | with_reducible refine Gr.drew ?_ | with_reducible refine Gr.drewN ?_ _))⟩

theorem pcd_sc {s d t : Int} (h : pcd s d t = 0) : sc s = true := by
  rcases pcd_cases s d t with ⟨-, e⟩ | ⟨-, -, e⟩ | ⟨-, -, -, e⟩ | ⟨-, h2, -, -⟩
  · omega
  · omega
  · omega
  · exact h2

end Go.Proofs.YtggflladheemoaaDoor
