/- Contracts of chapter 10: bounds of readings, the digits that can be read everywhere, the least length. -/
import Derived.Test.YtdbeedfapkfibaaGreatDoorC10d
import Derived.Test.YtdbeedfapkfibaaGreatDoorC05b
namespace Go.Proofs.YtdbeedfapkfibaaGreatDoor
open Go.RowKit Go.Shelf
set_option linter.unusedVariables false
set_option linter.unusedSimpArgs false

theorem gp_ten (k : Nat) (h : k ≤ 3) : p10 k = 1 ∨ p10 k = 10 ∨ p10 k = 100 ∨ p10 k = 1000 := by
  rcases (show k = 0 ∨ k = 1 ∨ k = 2 ∨ k = 3 by omega) with rfl | rfl | rfl | rfl <;> decide
theorem gp_bd (k : Nat) (h : k ≤ 3) : -1048580 ≤ gp k ∧ gp k ≤ 1048580 := by
  unfold gp
  have ht := gp_ten k h
  have a := lgb_bd false ((10000 - p10 k) * 100000) (by omega) (by omega)
  have b := lgb_bd true ((10000 - 2 * p10 k) * 100000) (by omega) (by omega)
  omega

set_option maxHeartbeats 1000000 in
theorem lastGap_any (j : Nat) (w : World) (h : j ≤ 3) :
    Calls Tryz.prog 35 #[.int .i64 ((j + 1 : Nat) : Int)] w fun e w' => e = .returned (.int .i64 (gp (3 - j))) ∧ Gr w w' := by
  have ht := gp_ten (3 - j) (by omega)
  have HT := Lib.hid (fun W => tenTo_any (4 - ((j + 1 : Nat) : Int)) W (by omega) (by omega))
  rw [show (4 - ((j + 1 : Nat) : Int)).toNat = 3 - j by omega] at HT
  have g1 : fg (10000 - p10 (3 - j)) 0 = true := (fg_iff _ _).2 (by omega)
  have g2 : fg (10000 - p10 (3 - j) - p10 (3 - j)) 0 = true := (fg_iff _ _).2 (by omega)
  have HA := Lib.hid (fun W => figLog_any (10000 - p10 (3 - j)) 0 W g1)
  have HB := Lib.hid (fun W => figLog_any (10000 - p10 (3 - j) - p10 (3 - j)) 0 W g2)
  have f1 := flg_bd _ _ g1
  have f2 := flg_bd _ _ g2
  have HG := Lib.hid (show gp (3 - j) = (flg (10000 - p10 (3 - j)) 0).1 - (flg (10000 - p10 (3 - j) - p10 (3 - j)) 0).2 by
    rw [flg_zero, flg_zero]
    unfold gp
    rw [show 10000 - p10 (3 - j) - p10 (3 - j) = 10000 - 2 * p10 (3 - j) by omega])
  generalize gp (3 - j) = R at *
  generalize flg (10000 - p10 (3 - j)) 0 = x at *
  generalize flg (10000 - p10 (3 - j) - p10 (3 - j)) 0 = y at *
  generalize p10 (3 - j) = p at *
  obtain ⟨x1, x2⟩ := x
  obtain ⟨y1, y2⟩ := y
  simp only at f1 f2 HG HA HB
  have m1 : (1 : Int) ≤ ((j + 1 : Nat) : Int) := by omega
  have m2 : ((j + 1 : Nat) : Int) ≤ 4 := by omega
  clear g1 g2 h
  generalize ((j + 1 : Nat) : Int) = m at *
  go_enter Tryz.func35, Tryz.ntmps35
  go_wp2_with (go_at_call 68; refine (HT.out _).mono ?_; rintro e w' ⟨rfl, rfl⟩)
  ((first | refine region_gr_on (by kernel_rfl) (by kernel_rfl) ?_ | refine region_gr (by kernel_rfl) (by kernel_rfl) ?_); (repeat (quiet_step (first | with_reducible exact Calls.gr_of (HA.out _) | with_reducible exact Calls.gr_of (HB.out _)))); refine wpQuiet_nil ?_; intro _ hw'; obtain ⟨⟨kq, oq⟩, hw''⟩ := hw'; subst hw'')
  go_wp2
  go_ret
  have q1 : IntKind.i64.wrap (x1 - y2) = x1 - y2 := IntWalk.i64_in _ (by omega)
  exact ⟨ret_int (by rw [HG.out, q1]), (by repeat (first | with_reducible exact Gr.refl _ | with_reducible refine Gr.alloc ?_ _ | with_reducible refine Gr.gr ?_ _ _ | with_reducible refine Gr.drew ?_ | with_reducible refine Gr.drewN ?_ _))⟩

set_option maxHeartbeats 2000000 in
theorem wdR_impl (s l a b c : Int) (w : World) (hD : Dcs w) :
    Calls Tryz.prog 12 #[.int .i64 s, .int .i64 l, .agg #[.int .i64 (a), .int .i64 (b), .int .i64 (c)]] w fun e w' => e = .returned (.tuple #[.int .i64 (wdR s l a b c).1, .int .i64 (wdR s l a b c).2]) ∧ Gr w w' := by
  have HE := Lib.hid (fun W h => euR_impl s l a b c W h)
  have HD := Lib.hid hD
  clear hD
  by_cases h : euC s l a b c = 0
  · have HR := Lib.hid (wdR_ok s l a b c h)
    have hV := euV_bd s l a b c h
    rw [euR_ok _ _ _ _ _ h] at HE
    generalize euV s l a b c = u at *
    clear h
    go_enter Tryz.func12, Tryz.ntmps12
    go_wp2_with (go_at_call 30; refine (HE.out _ (HD.out.gr (by repeat (first | with_reducible exact Gr.refl _ | with_reducible refine Gr.alloc ?_ _ | with_reducible refine Gr.gr ?_ _ _ | with_reducible refine Gr.drew ?_ | with_reducible refine Gr.drewN ?_ _)))).mono ?_; rintro e w' ⟨rfl, kk, os, rfl⟩)
    go_loopw [10] (fun i wr => ∃ j : Nat, i = .int .i64 (j : Int) ∧ j ≤ 4 ∧ Hid (wdF u 4 = wdF u j) ∧ Gr w wr) (fun i _ => (intOf i).toNat)
    case atStart => exact ⟨4, by go_num, by omega, Lib.hid rfl, (by repeat (first | with_reducible exact Gr.refl _ | with_reducible refine Gr.alloc ?_ _ | with_reducible refine Gr.gr ?_ _ _ | with_reducible refine Gr.drew ?_ | with_reducible refine Gr.drewN ?_ _))⟩
    case round =>
      obtain ⟨j, rfl, hj, HJ, hg⟩ := hrel
      rcases (show j = 0 ∨ ∃ i, j = i + 1 by cases j <;> simp) with rfl | ⟨i, rfl⟩
      · go_wp2
        go_ret2
        exact ⟨ret_two (by rw [HR.out, HJ.out]; rfl) (by rw [HR.out]), hg⟩
      · have HL := Lib.hid (fun W => lastGap_any i W (by omega))
        have hb := gp_bd (3 - i) (by omega)
        have h1 : (0 : Int) < ((i + 1 : Nat) : Int) := by omega
        by_cases hc : 2 * u ≤ gp (3 - i)
        · have HF := Lib.hid (wdF_hit u i hc)
          generalize gp (3 - i) = g at *
          have e1 : ((i + 1 : Nat) : Int) ≤ 4 := by omega
          generalize ((i + 1 : Nat) : Int) = m at *
          go_wp2_with (go_at_call 35; refine (HL.out _).mono ?_; rintro e w' ⟨rfl, kk, os, rfl⟩)
          go_ret2
          exact ⟨ret_two (by rw [HR.out, HJ.out, HF.out]) (by rw [HR.out]), hg.gr _ _⟩
        · have HF := Lib.hid (wdF_miss u i hc)
          generalize gp (3 - i) = g at *
          have hm : ((i + 1 : Nat) : Int) - 1 = (i : Int) := by omega
          have e1 : ((i + 1 : Nat) : Int) ≤ 4 := by omega
          have HM := Lib.hid hm
          clear hm
          generalize ((i + 1 : Nat) : Int) = m at *
          go_wp2_with (go_at_call 35; refine (HL.out _).mono ?_; rintro e w' ⟨rfl, kk, os, rfl⟩)
          go_roundw
          case rel => exact ⟨i, by rw [HM.out], by omega, Lib.hid (HJ.out.trans HF.out), hg.gr _ _⟩
          case measure => simp [intOf]; omega
  · have HR := Lib.hid (wdR_no s l a b c h)
    rw [euR_no _ _ _ _ _ h] at HE
    generalize euC s l a b c = q at *
    go_enter Tryz.func12, Tryz.ntmps12
    go_wp2_with (go_at_call 30; refine (HE.out _ (HD.out.gr (by repeat (first | with_reducible exact Gr.refl _ | with_reducible refine Gr.alloc ?_ _ | with_reducible refine Gr.gr ?_ _ _ | with_reducible refine Gr.drew ?_ | with_reducible refine Gr.drewN ?_ _)))).mono ?_; rintro e w' ⟨rfl, kk, os, rfl⟩)
    go_ret2
    exact ⟨ret_two (by rw [HR.out]) (by rw [HR.out]), (by repeat (first | with_reducible exact Gr.refl _ | with_reducible refine Gr.alloc ?_ _ | with_reducible refine Gr.gr ?_ _ _ | with_reducible refine Gr.drew ?_ | with_reducible refine Gr.drewN ?_ _))⟩
end Go.Proofs.YtdbeedfapkfibaaGreatDoor
