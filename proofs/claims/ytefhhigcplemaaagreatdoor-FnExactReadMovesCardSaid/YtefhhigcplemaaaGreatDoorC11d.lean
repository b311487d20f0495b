/- Contracts of chapter 11: points of figures, in the program and in the model; figures of a scale by number (a step of 1). -/
import Derived.Test.YtefhhigcplemaaaGreatDoorC11a
import Derived.Test.YtefhhigcplemaaaGreatDoorC05c
import Derived.Test.YtefhhigcplemaaaGreatDoorFd
import Derived.Test.YtefhhigcplemaaaGreatDoorLw
namespace Go.Proofs.YtefhhigcplemaaaGreatDoor
open Go.RowKit
set_option linter.unusedVariables false
set_option linter.unusedSimpArgs false

theorem mid11_any (lo hi : Int) (w : World) (l1 : -4000000000000 ≤ lo) (l2 : lo ≤ 4000000000000) (h1 : -4000000000000 ≤ hi) (h2 : hi ≤ 4000000000000) :
    Calls Tryz.prog 111 #[.agg #[.int .i64 lo, .int .i64 hi]] w fun e w' => e = .returned (.int .i64 ((lo + hi).fdiv 2)) ∧ Gr w w' := by
  go_enter Tryz.func111, Tryz.ntmps111
  go_wp2_with (go_at_call 157; refine (quotientDown_any _ _ _ (by omega) (by omega) (by omega) (by omega) (by omega)).mono ?_; rintro e w' ⟨rfl, rfl⟩)
  go_ret
  exact ⟨rfl, (by repeat (first | with_reducible exact Gr.refl _ | with_reducible refine Gr.alloc ?_ _ | with_reducible refine Gr.gr ?_ _ _ | with_reducible refine Gr.drew ?_ | with_reducible refine Gr.drewN ?_ _))⟩
theorem mxI_any (a b : Int) (w : World) :
    Calls Tryz.prog 216 #[.int .i64 a, .int .i64 b] w fun e w' => e = .returned (.int .i64 (max a b)) ∧ w = w' := by
  by_cases h : a < b
  all_goals
    go_enter Tryz.func216, Tryz.ntmps216
    go_wp2
    go_ret
    exact ⟨ret_int (by omega), rfl⟩
theorem mnI_any (a b : Int) (w : World) :
    Calls Tryz.prog 217 #[.int .i64 a, .int .i64 b] w fun e w' => e = .returned (.int .i64 (min a b)) ∧ w = w' := by
  by_cases h : b < a
  all_goals
    go_enter Tryz.func217, Tryz.ntmps217
    go_wp2
    go_ret
    exact ⟨ret_int (by omega), rfl⟩

set_option maxHeartbeats 1000000 in
theorem pointOn_any (s d t : Int) (w : World) (hD : Dcs w) (hf : fg d t = true) (hs : lsc s = true) :
    Calls Tryz.prog 142 #[.int .i64 s, .agg #[.int .i64 d, .int .i64 t]] w fun e w' => e = .returned (.int .i64 (pnt s d t)) ∧ Gr w w' := by
  have HD := Lib.hid hD
  have b := psn_bd s d t hf
  have HP := Lib.hid (show pnt s d t = ((psn s d t).1 + (psn s d t).2).fdiv 2 from rfl)
  have hs' := (lsc_iff s).1 hs
  clear hD
  generalize pnt s d t = R at *
  rcases (show s = 0 ∨ s = 1 ∨ s = 2 ∨ s = 3 ∨ s = 4 by omega) with rfl | rfl | rfl | rfl | rfl
  · have HQ := Lib.hid (fun W => rep_impl 1 d t W hf (by omega) (by omega))
    rw [show rep d t 1 = psn 0 d t by rw [psn_0, rep_one]] at HQ
    have hm : ∀ (w : World), (method 382 214 (.agg #[.int .i64 1]) "loop.example/g00951/impl.position").run Tryz.prog w = .ok (269, .agg #[.int .i64 1]) w := fun _ => by kernel_rfl
    generalize (psn 0 d t).1 = x1 at *
    generalize (psn 0 d t).2 = x2 at *
    clear hf hs hs'
    go_enter Tryz.func142, Tryz.ntmps142
    go_wp2
    ((first | refine region_gr_on (by kernel_rfl) (by kernel_rfl) ?_ | refine region_gr (by kernel_rfl) (by kernel_rfl) ?_); (repeat (quiet_step (first | exact Calls.gr_same (printed_0 _ (HD.out.gr (by repeat (first | with_reducible exact Gr.refl _ | with_reducible refine Gr.alloc ?_ _ | with_reducible refine Gr.gr ?_ _ _ | with_reducible refine Gr.drew ?_ | with_reducible refine Gr.drewN ?_ _)))) | exact Calls.gr_of (HQ.out _) | exact Calls.gr_of (mid11_any _ _ _ (by omega) (by omega) (by omega) (by omega))))); refine wpQuiet_nil ?_; intro _ hw'; obtain ⟨⟨kq, oq⟩, hw''⟩ := hw'; subst hw'')
    go_wp2
    go_ret
    exact ⟨ret_int HP.out.symm, (by repeat (first | with_reducible exact Gr.refl _ | with_reducible refine Gr.alloc ?_ _ | with_reducible refine Gr.gr ?_ _ _ | with_reducible refine Gr.drew ?_ | with_reducible refine Gr.drewN ?_ _))⟩
  · have HQ := Lib.hid (fun W => rep_impl 2 d t W hf (by omega) (by omega))
    rw [show rep d t 2 = psn 1 d t by rw [psn_1]] at HQ
    have hm : ∀ (w : World), (method 382 214 (.agg #[.int .i64 2]) "loop.example/g00951/impl.position").run Tryz.prog w = .ok (269, .agg #[.int .i64 2]) w := fun _ => by kernel_rfl
    generalize (psn 1 d t).1 = x1 at *
    generalize (psn 1 d t).2 = x2 at *
    clear hf hs hs'
    go_enter Tryz.func142, Tryz.ntmps142
    go_wp2
    ((first | refine region_gr_on (by kernel_rfl) (by kernel_rfl) ?_ | refine region_gr (by kernel_rfl) (by kernel_rfl) ?_); (repeat (quiet_step (first | exact Calls.gr_same (printed_1 _ (HD.out.gr (by repeat (first | with_reducible exact Gr.refl _ | with_reducible refine Gr.alloc ?_ _ | with_reducible refine Gr.gr ?_ _ _ | with_reducible refine Gr.drew ?_ | with_reducible refine Gr.drewN ?_ _)))) | exact Calls.gr_of (HQ.out _) | exact Calls.gr_of (mid11_any _ _ _ (by omega) (by omega) (by omega) (by omega))))); refine wpQuiet_nil ?_; intro _ hw'; obtain ⟨⟨kq, oq⟩, hw''⟩ := hw'; subst hw'')
    go_wp2
    go_ret
    exact ⟨ret_int HP.out.symm, (by repeat (first | with_reducible exact Gr.refl _ | with_reducible refine Gr.alloc ?_ _ | with_reducible refine Gr.gr ?_ _ _ | with_reducible refine Gr.drew ?_ | with_reducible refine Gr.drewN ?_ _))⟩
  · have HQ := Lib.hid (fun W => rep_impl 3 d t W hf (by omega) (by omega))
    rw [show rep d t 3 = psn 2 d t by rw [psn_2]] at HQ
    have hm : ∀ (w : World), (method 382 214 (.agg #[.int .i64 3]) "loop.example/g00951/impl.position").run Tryz.prog w = .ok (269, .agg #[.int .i64 3]) w := fun _ => by kernel_rfl
    generalize (psn 2 d t).1 = x1 at *
    generalize (psn 2 d t).2 = x2 at *
    clear hf hs hs'
    go_enter Tryz.func142, Tryz.ntmps142
    go_wp2
    ((first | refine region_gr_on (by kernel_rfl) (by kernel_rfl) ?_ | refine region_gr (by kernel_rfl) (by kernel_rfl) ?_); (repeat (quiet_step (first | exact Calls.gr_same (printed_2 _ (HD.out.gr (by repeat (first | with_reducible exact Gr.refl _ | with_reducible refine Gr.alloc ?_ _ | with_reducible refine Gr.gr ?_ _ _ | with_reducible refine Gr.drew ?_ | with_reducible refine Gr.drewN ?_ _)))) | exact Calls.gr_of (HQ.out _) | exact Calls.gr_of (mid11_any _ _ _ (by omega) (by omega) (by omega) (by omega))))); refine wpQuiet_nil ?_; intro _ hw'; obtain ⟨⟨kq, oq⟩, hw''⟩ := hw'; subst hw'')
    go_wp2
    go_ret
    exact ⟨ret_int HP.out.symm, (by repeat (first | with_reducible exact Gr.refl _ | with_reducible refine Gr.alloc ?_ _ | with_reducible refine Gr.gr ?_ _ _ | with_reducible refine Gr.drew ?_ | with_reducible refine Gr.drewN ?_ _))⟩
  · have HQ := Lib.hid (fun W => inv_impl d t W hf)
    rw [show 1048576 - (lgb true (d * 100000) + 1) = (psn 3 d t).1 by rw [psn_3], show 1048576 - lgb false (d * 100000) = (psn 3 d t).2 by rw [psn_3]] at HQ
    have hm : ∀ (w : World), (method 382 209 (.agg #[]) "loop.example/g00951/impl.position").run Tryz.prog w = .ok (253, .agg #[]) w := fun _ => by kernel_rfl
    generalize (psn 3 d t).1 = x1 at *
    generalize (psn 3 d t).2 = x2 at *
    clear hf hs hs'
    go_enter Tryz.func142, Tryz.ntmps142
    go_wp2
    ((first | refine region_gr_on (by kernel_rfl) (by kernel_rfl) ?_ | refine region_gr (by kernel_rfl) (by kernel_rfl) ?_); (repeat (quiet_step (first | exact Calls.gr_same (printed_3 _) | exact Calls.gr_of (HQ.out _) | exact Calls.gr_of (mid11_any _ _ _ (by omega) (by omega) (by omega) (by omega))))); refine wpQuiet_nil ?_; intro _ hw'; obtain ⟨⟨kq, oq⟩, hw''⟩ := hw'; subst hw'')
    go_wp2
    go_ret
    exact ⟨ret_int HP.out.symm, (by repeat (first | with_reducible exact Gr.refl _ | with_reducible refine Gr.alloc ?_ _ | with_reducible refine Gr.gr ?_ _ _ | with_reducible refine Gr.drew ?_ | with_reducible refine Gr.drewN ?_ _))⟩
  · have HQ := Lib.hid (fun W => fold_impl d t W hf)
    rw [show fld d = psn 4 d t by rw [psn_4]] at HQ
    have hm : ∀ (w : World), (method 382 210 (.agg #[]) "loop.example/g00951/impl.position").run Tryz.prog w = .ok (264, .agg #[]) w := fun _ => by kernel_rfl
    generalize (psn 4 d t).1 = x1 at *
    generalize (psn 4 d t).2 = x2 at *
    clear hf hs hs'
    go_enter Tryz.func142, Tryz.ntmps142
    go_wp2
    ((first | refine region_gr_on (by kernel_rfl) (by kernel_rfl) ?_ | refine region_gr (by kernel_rfl) (by kernel_rfl) ?_); (repeat (quiet_step (first | exact Calls.gr_same (printed_4 _) | exact Calls.gr_of (HQ.out _) | exact Calls.gr_of (mid11_any _ _ _ (by omega) (by omega) (by omega) (by omega))))); refine wpQuiet_nil ?_; intro _ hw'; obtain ⟨⟨kq, oq⟩, hw''⟩ := hw'; subst hw'')
    go_wp2
    go_ret
    exact ⟨ret_int HP.out.symm, (by repeat (first | with_reducible exact Gr.refl _ | with_reducible refine Gr.alloc ?_ _ | with_reducible refine Gr.gr ?_ _ _ | with_reducible refine Gr.drew ?_ | with_reducible refine Gr.drewN ?_ _))⟩

theorem po_bd (s d t : Int) : -2000000 ≤ (poR s d t).1.1 ∧ (poR s d t).1.1 ≤ 3200000 ∧ -2000000 ≤ (poR s d t).1.2 ∧ (poR s d t).1.2 ≤ 3200000 := by
  by_cases h : pcd s d t = 0
  · rw [poR_ok _ _ _ h]
    rcases pcd_cases s d t with ⟨-, e⟩ | ⟨-, -, e⟩ | ⟨-, -, -, e⟩ | ⟨h1, -⟩
    · omega
    · omega
    · omega
    · exact psn_bd s d t h1
  · rw [poR_no _ _ _ h]; simp
theorem ptR_impl (s d t : Int) (w : World) (hD : Dcs w) :
    Calls Tryz.prog 53 #[.int .i64 s, .agg #[.int .i64 d, .int .i64 t]] w fun e w' => e = .returned (.tuple #[.int .i64 (ptR s d t).1, .int .i64 (ptR s d t).2]) ∧ Gr w w' := by
  have HP := Lib.hid (fun W h => poR_impl s d t W h)
  have HR := Lib.hid (ptR_po s d t)
  have b := po_bd s d t
  have HD := Lib.hid hD
  clear hD
  generalize (poR s d t).1.1 = x at *
  generalize (poR s d t).1.2 = y at *
  generalize (poR s d t).2 = q at *
  go_enter Tryz.func53, Tryz.ntmps53
  go_wp2_with (first
    | (go_at_call 110; (with_reducible refine (HP.out _ (HD.out.gr (by repeat (first | with_reducible exact Gr.refl _ | with_reducible refine Gr.alloc ?_ _ | with_reducible refine Gr.gr ?_ _ _ | with_reducible refine Gr.drew ?_ | with_reducible refine Gr.drewN ?_ _)))).mono ?_); rintro e w' ⟨rfl, k, os, rfl⟩)
    | (go_at_call 111; refine (mid11_any _ _ _ (by omega) (by omega) (by omega) (by omega)).mono ?_; rintro e w' ⟨rfl, k2, os2, rfl⟩))
  go_ret2
  exact ⟨ret_two (by rw [HR.out]) (by rw [HR.out]), (by repeat (first | with_reducible exact Gr.refl _ | with_reducible refine Gr.alloc ?_ _ | with_reducible refine Gr.gr ?_ _ _ | with_reducible refine Gr.drew ?_ | with_reducible refine Gr.drewN ?_ _))⟩
theorem point_spec (s d t : Int) (w : World) (hf : fg d t = true) (hs : sc s = true) :
    Calls Tryz.prog 130 #[.int .i64 s, .agg #[.int .i64 d, .int .i64 t]] w fun e w' => e = .returned (.int .i64 (pnt s d t)) ∧ Gr w w' := by
  have HP := Lib.hid (fun W => position_spec s d t W hf hs (lgb_ok hf))
  have b := psn_bd s d t hf
  have HR := Lib.hid (show pnt s d t = ((psn s d t).1 + (psn s d t).2).fdiv 2 from rfl)
  generalize pnt s d t = R at *
  generalize (psn s d t).1 = x at *
  generalize (psn s d t).2 = y at *
  go_enter Tryz.func130, Tryz.ntmps130
  go_wp2_with (first
    | (go_at_call 170; (with_reducible refine (HP.out _).mono ?_); rintro e w' ⟨rfl, k, os, rfl⟩)
    | (go_at_call 171; refine (floor_any _ _ _ (by omega) (by omega) (by omega) (by omega) (by omega)).mono ?_; rintro e w' ⟨rfl, rfl⟩))
  go_ret
  exact ⟨ret_int HR.out.symm, (by repeat (first | with_reducible exact Gr.refl _ | with_reducible refine Gr.alloc ?_ _ | with_reducible refine Gr.gr ?_ _ _ | with_reducible refine Gr.drew ?_ | with_reducible refine Gr.drewN ?_ _))⟩
/-- The figures of a row with a step of 1. -/
theorem decades1_any (s : Int) (w : World) :
    Calls Tryz.prog 233 #[.agg #[.int .i64 s, .int .i64 1]] w fun e w' => e = .returned (.int .i64 9000) ∧ Gr w w' := by
  go_enter Tryz.func233, Tryz.ntmps233
  go_wp2
  go_ret
  exact ⟨rfl, (by repeat (first | with_reducible exact Gr.refl _ | with_reducible refine Gr.alloc ?_ _ | with_reducible refine Gr.gr ?_ _ _ | with_reducible refine Gr.drew ?_ | with_reducible refine Gr.drewN ?_ _))⟩
theorem dcs_all {w : World} (h : Dcs w) : w.cell? ⟨1, 0, none⟩ = some (.int .i64 1) ∧ w.cell? ⟨1, 1, none⟩ = some (.int .i64 2) ∧ w.cell? ⟨1, 2, none⟩ = some (.int .i64 3) ∧ w.cell? ⟨1, 3, none⟩ = some (.int .i64 1) ∧ w.cell? ⟨1, 4, none⟩ = some (.int .i64 1) ∧ w.cell? ⟨1, 5, none⟩ = some (.int .i64 1) :=
  ⟨h 0 (by omega), h 1 (by omega), h 2 (by omega), h 3 (by omega), h 4 (by omega), h 5 (by omega)⟩
set_option maxRecDepth 100000 in
theorem count1_any (s : Int) (w : World) (hD : Dcs w) (hs : sc s = true) :
    Calls Tryz.prog 213 #[.agg #[.int .i64 s, .int .i64 1]] w fun e w' => e = .returned (.int .i64 (gN s : Nat)) ∧ Gr w w' := by
  have F := Lib.hid (gN_is s)
  have HD := Lib.hid hD
  generalize ((gN s : Nat) : Int) = n at *
  rcases scale_cases s hs with rfl | rfl | rfl | rfl | rfl | rfl
  all_goals
    clear hD hs
    go_enter Tryz.func213, Tryz.ntmps213
    go_wp2_with fail
    have B0 := Lib.hid (fun (x : Int) wz (hz : Gr (w.alloc (.cells #[.int .i64 x, .int .i64 1] 200)) wz) => ((Blk.new w 200 #[.int .i64 x, .int .i64 1]).gr hz).two)
    have HG := Lib.hid (fun (x : Int) => show Gr w (w.alloc (.cells #[.int .i64 x, .int .i64 1] 200)) from (by repeat (first | with_reducible exact Gr.refl _ | with_reducible refine Gr.alloc ?_ _ | with_reducible refine Gr.gr ?_ _ _ | with_reducible refine Gr.drew ?_ | with_reducible refine Gr.drewN ?_ _)))
    refine region_grows [(5, .is (.int .i64 9000))] (by kernel_rfl) (by kernel_rfl) ?_
    (refine lz_one rfl (fun K hK => ?_); refine ⟨rfl, ?_⟩; apply Exists.intro; refine ⟨fun wz hz => ?_, ?_⟩; (focus (skip; go_simp; (first | done | exact ⟨rfl, rfl⟩ | trivial))); (go_simp; refine hK _ _ ?_; clear hK K))
    (refine lz_one rfl (fun K hK => ?_); refine ⟨rfl, ?_⟩; apply Exists.intro; refine ⟨fun wz hz => ?_, ?_⟩; (focus (obtain ⟨c0, c1, -⟩ := B0.out _ wz hz; go_simp; (first | done | exact ⟨rfl, rfl⟩ | trivial))); (go_simp; refine hK _ _ ?_; clear hK K))
    (refine lz_one rfl (fun K hK => ?_); refine ⟨rfl, ?_⟩; apply Exists.intro; refine ⟨fun wz hz => ?_, ?_⟩; (focus (skip; go_simp; (first | done | exact ⟨rfl, rfl⟩ | trivial))); (go_simp; refine hK _ _ ?_; clear hK K))
    (refine lz_one rfl (fun K hK => ?_); refine ⟨rfl, ?_⟩; apply Exists.intro; refine ⟨fun wz hz => ?_, ?_⟩; (focus (obtain ⟨d0, d1, d2, d3, d4, d5⟩ := dcs_all (HD.out.gr ((HG.out _).trans hz)); go_simp; (first | done | exact ⟨rfl, rfl⟩ | trivial))); (go_simp; refine hK _ _ ?_; clear hK K))
    (refine lz_one rfl (fun K hK => ?_); refine ⟨rfl, ?_⟩; apply Exists.intro; refine ⟨fun wz hz => ?_, ?_⟩; (focus (obtain ⟨c0, c1, -⟩ := B0.out _ wz hz; go_simp; (first | done | exact ⟨rfl, rfl⟩ | trivial))); (go_simp; refine hK _ _ ?_; clear hK K))
    (refine lz_many _ rfl (fun K hK => ?_); refine ⟨rfl, fun wz hz ha => ?_, fun vz wz hz hf => ?_⟩; (focus (go_simp; exact lg_call hz (decades1_any _ _))); (obtain rfl := hf; clear hz wz; go_simp; refine hK _ _ ?_; clear hK K))
    (refine lz_one rfl (fun K hK => ?_); refine ⟨rfl, ?_⟩; apply Exists.intro; refine ⟨fun wz hz => ?_, ?_⟩; (focus (skip; go_simp; (first | done | exact ⟨rfl, rfl⟩ | trivial))); (go_simp; refine hK _ _ ?_; clear hK K))
    (refine lz_one rfl (fun K hK => ?_); refine ⟨rfl, ?_⟩; apply Exists.intro; refine ⟨fun wz hz => ?_, ?_⟩; (focus (skip; go_simp; (first | done | exact ⟨rfl, rfl⟩ | trivial))); (go_simp; refine hK _ _ ?_; clear hK K))
    refine lz_nil ?_
    intro w' hz hg
    go_wp2_with fail
    go_ret
    exact ⟨ret_int (by rw [F.out]; rfl), (HG.out _).trans hz⟩
set_option maxHeartbeats 1000000 in
theorem figure1_any (s : Int) (i : Nat) (w : World) (hs : lsc s = true) (hi : i < gN s) :
    Calls Tryz.prog 215 #[.agg #[.int .i64 s, .int .i64 1], .int .i64 i] w fun e w' => e = .returned (.agg #[.int .i64 (gD (onG s i)), .int .i64 (gT (onG s i))]) ∧ Gr w w' := by
  have hb := gN_bd s
  have hi2 : i < 27000 := by omega
  have E := Lib.hid (show gD (onG s i) = 1000 + (((onG s i : Nat) : Int) % 9000) ∧ gT (onG s i) = ((onG s i : Nat) : Int) / 9000 from ⟨rfl, rfl⟩)
  have hs' := (lsc_iff s).1 hs
  generalize gD (onG s i) = x at *
  generalize gT (onG s i) = y at *
  by_cases h3 : s = 3
  · subst h3
    rw [gN_3] at hi
    rw [onG_3, show ((8999 - i : Nat) : Int) = 8999 - (i : Int) by omega] at E
    have e1 : (8999 - (i : Int)).tmod 9000 = (8999 - (i : Int)) % 9000 := Int.tmod_eq_emod_of_nonneg (by omega)
    have e2 : (8999 - (i : Int)).tdiv 9000 = (8999 - (i : Int)) / 9000 := Int.tdiv_eq_ediv_of_nonneg (by omega)
    have q1 : IntKind.i64.wrap ((8999 - (i : Int)) % 9000 * 1) = (8999 - (i : Int)) % 9000 := by rw [Int.mul_one]; exact IntWalk.i64_in _ (by omega)
    have q2 : IntKind.i64.wrap (1000 + (8999 - (i : Int)) % 9000) = 1000 + (8999 - (i : Int)) % 9000 := IntWalk.i64_in _ (by omega)
    clear hs hs' hb
    go_enter Tryz.func215, Tryz.ntmps215
    go_wp2_with (go_at_call 233; refine (decades1_any _ _).mono ?_; rintro e w' ⟨rfl, k, os, rfl⟩)
    go_region
    all_goals
      go_wp2
      ((try simp only [Exit.inBlock, Exit.then]); refine bodyPost_ret (v := .agg #[.int .i64 (1000 + (8999 - (i : Int)) % 9000), .int .i64 ((8999 - (i : Int)) / 9000)]) (by simp [results, Tryz.results215, go_sem]) rfl ?_)
      exact ⟨ret_agg (by rw [E.out.1]) (by rw [E.out.2]), (by repeat (first | with_reducible exact Gr.refl _ | with_reducible refine Gr.alloc ?_ _ | with_reducible refine Gr.gr ?_ _ _ | with_reducible refine Gr.drew ?_ | with_reducible refine Gr.drewN ?_ _))⟩
  by_cases h4 : s = 4
  · subst h4
    rw [gN_4] at hi
    rw [onG_4, show (((i + 2143) % 9000 : Nat) : Int) = ((i : Int) + 2143) % 9000 by omega] at E
    have e0 : ((i : Int) + 2143).tmod 9000 = ((i : Int) + 2143) % 9000 := Int.tmod_eq_emod_of_nonneg (by omega)
    have m0 : 0 ≤ ((i : Int) + 2143) % 9000 := by omega
    have m1 : ((i : Int) + 2143) % 9000 < 9000 := by omega
    generalize hz : ((i : Int) + 2143) % 9000 = z at *
    have e1 : z.tmod 9000 = z % 9000 := Int.tmod_eq_emod_of_nonneg m0
    have e2 : z.tdiv 9000 = z / 9000 := Int.tdiv_eq_ediv_of_nonneg m0
    have q1 : IntKind.i64.wrap (z % 9000 * 1) = z % 9000 := by rw [Int.mul_one]; exact IntWalk.i64_in _ (by omega)
    have q2 : IntKind.i64.wrap (1000 + z % 9000) = 1000 + z % 9000 := IntWalk.i64_in _ (by omega)
    clear hs hs' hb h3 hz
    go_enter Tryz.func215, Tryz.ntmps215
    go_wp2_with (go_at_call 233; refine (decades1_any _ _).mono ?_; rintro e w' ⟨rfl, k, os, rfl⟩)
    go_region
    all_goals
      go_wp2
      ((try simp only [Exit.inBlock, Exit.then]); refine bodyPost_ret (v := .agg #[.int .i64 (1000 + z % 9000), .int .i64 (z / 9000)]) (by simp [results, Tryz.results215, go_sem]) rfl ?_)
      exact ⟨ret_agg (by rw [E.out.1]) (by rw [E.out.2]), (by repeat (first | with_reducible exact Gr.refl _ | with_reducible refine Gr.alloc ?_ _ | with_reducible refine Gr.gr ?_ _ _ | with_reducible refine Gr.drew ?_ | with_reducible refine Gr.drewN ?_ _))⟩
  rw [onG_id s i h3 h4] at E
  have e1 : (i : Int).tmod 9000 = (i : Int) % 9000 := Int.tmod_eq_emod_of_nonneg (by omega)
  have e2 : (i : Int).tdiv 9000 = (i : Int) / 9000 := Int.tdiv_eq_ediv_of_nonneg (by omega)
  have q1 : IntKind.i64.wrap ((i : Int) % 9000 * 1) = (i : Int) % 9000 := by rw [Int.mul_one]; exact IntWalk.i64_in _ (by omega)
  have q2 : IntKind.i64.wrap (1000 + (i : Int) % 9000) = 1000 + (i : Int) % 9000 := IntWalk.i64_in _ (by omega)
  have b3 : (s == 3) = false := by simpa using h3
  have b4 : (s == 4) = false := by simpa using h4
  clear hs hs' hb hi h3 h4
  go_enter Tryz.func215, Tryz.ntmps215
  go_wp2_with (go_at_call 233; refine (decades1_any _ _).mono ?_; rintro e w' ⟨rfl, k, os, rfl⟩)
  go_region
  all_goals
    go_wp2
    ((try simp only [Exit.inBlock, Exit.then]); refine bodyPost_ret (v := .agg #[.int .i64 (1000 + (i : Int) % 9000), .int .i64 ((i : Int) / 9000)]) (by simp [results, Tryz.results215, go_sem]) rfl ?_)
    exact ⟨ret_agg (by rw [E.out.1]) (by rw [E.out.2]), (by repeat (first | with_reducible exact Gr.refl _ | with_reducible refine Gr.alloc ?_ _ | with_reducible refine Gr.gr ?_ _ _ | with_reducible refine Gr.drew ?_ | with_reducible refine Gr.drewN ?_ _))⟩
end Go.Proofs.YtefhhigcplemaaaGreatDoor
