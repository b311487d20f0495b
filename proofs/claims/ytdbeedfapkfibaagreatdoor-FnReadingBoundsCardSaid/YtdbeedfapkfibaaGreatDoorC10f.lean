/- Contracts of chapter 10: the digits in the model, bounds of readings, the least length. -/
import Derived.Test.YtdbeedfapkfibaaGreatDoorC10e
import Derived.Test.YtdbeedfapkfibaaGreatDoorC04f
namespace Go.Proofs.YtdbeedfapkfibaaGreatDoor
open Go.RowKit Go.Shelf
set_option linter.unusedVariables false
set_option linter.unusedSimpArgs false

set_option maxHeartbeats 2000000 in
theorem wdR_spec (s l a b c : Int) (w : World) :
    Calls Tryz.prog 13 #[.int .i64 s, .int .i64 l, .agg #[.int .i64 (a), .int .i64 (b), .int .i64 (c)]] w fun e w' => e = .returned (.tuple #[.int .i64 (wdR s l a b c).1, .int .i64 (wdR s l a b c).2]) ∧ Gr w w' := by
  have HE := Lib.hid (fun W => euR_spec s l a b c W)
  by_cases h : euC s l a b c = 0
  · have HR := Lib.hid (wdR_ok s l a b c h)
    have hV := euV_bd s l a b c h
    rw [euR_ok _ _ _ _ _ h] at HE
    generalize euV s l a b c = u at *
    clear h
    go_enter Tryz.func13, Tryz.ntmps13
    go_wp2_with (go_at_call 33; refine (HE.out _).mono ?_; rintro e w' ⟨rfl, kk, os, rfl⟩)
    go_loopw [10] (fun i wr => ∃ j : Nat, i = .int .i64 (j : Int) ∧ j ≤ 4 ∧ Hid (wdF u 4 = wdF u j) ∧ Gr w wr) (fun i _ => (intOf i).toNat)
    case atStart => exact ⟨4, by go_num, by omega, Lib.hid rfl, (by repeat (first | with_reducible exact Gr.refl _ | with_reducible refine Gr.alloc ?_ _ | with_reducible refine Gr.gr ?_ _ _ | with_reducible refine Gr.drew ?_ | with_reducible refine Gr.drewN ?_ _))⟩
    case round =>
      obtain ⟨j, rfl, hj, HJ, hg⟩ := hrel
      rcases (show j = 0 ∨ ∃ i, j = i + 1 by cases j <;> simp) with rfl | ⟨i, rfl⟩
      · go_wp2
        go_ret2
        exact ⟨ret_two (by rw [HR.out, HJ.out]; rfl) (by rw [HR.out]), hg⟩
      · have ht := gp_ten (3 - i) (by omega)
        have HT := Lib.hid (fun W => ten_any (4 - ((i + 1 : Nat) : Int)) W (by omega) (by omega))
        rw [show (4 - ((i + 1 : Nat) : Int)).toNat = 3 - i by omega] at HT
        have HA := Lib.hid (fun W => log_spec ((10000 - 2 * p10 (3 - i)) * 100000) W (by omega) (by omega))
        have HB := Lib.hid (fun W => log_spec ((10000 - p10 (3 - i)) * 100000) W (by omega) (by omega))
        have b1 := lgb_bd false ((10000 - p10 (3 - i)) * 100000) (by omega) (by omega)
        have b2 := lgb_bd true ((10000 - 2 * p10 (3 - i)) * 100000) (by omega) (by omega)
        have h1 : (1 : Int) ≤ ((i + 1 : Nat) : Int) := by omega
        have e1 : ((i + 1 : Nat) : Int) ≤ 4 := by omega
        have HGP := Lib.hid (show gp (3 - i) = lgb false ((10000 - p10 (3 - i)) * 100000) - (lgb true ((10000 - 2 * p10 (3 - i)) * 100000) + 1) from rfl)
        by_cases hc : 2 * u ≤ gp (3 - i)
        · have HF := Lib.hid (wdF_hit u i hc)
          rw [HGP.out] at hc
          generalize lgb false ((10000 - p10 (3 - i)) * 100000) = x1 at *
          generalize lgb true ((10000 - 2 * p10 (3 - i)) * 100000) = y1 at *
          generalize lgb true ((10000 - p10 (3 - i)) * 100000) = x2 at *
          generalize lgb false ((10000 - 2 * p10 (3 - i)) * 100000) = y2 at *
          generalize p10 (3 - i) = p at *
          generalize ((i + 1 : Nat) : Int) = m at *
          clear HGP
          go_wp2_with (first
            | (go_at_call 36; refine (HT.out _).mono ?_; rintro e w' ⟨rfl, rfl⟩)
            | (go_at_call 37; (with_reducible refine (HA.out _).mono ?_); rintro e w' ⟨rfl, kk, os, rfl⟩)
            | (go_at_call 37; (with_reducible refine (HB.out _).mono ?_); rintro e w' ⟨rfl, kk, os, rfl⟩))
          go_ret2
          exact ⟨ret_two (by rw [HR.out, HJ.out, HF.out]) (by rw [HR.out]), hg.trans (by repeat (first | with_reducible exact Gr.refl _ | with_reducible refine Gr.alloc ?_ _ | with_reducible refine Gr.gr ?_ _ _ | with_reducible refine Gr.drew ?_ | with_reducible refine Gr.drewN ?_ _))⟩
        · have HF := Lib.hid (wdF_miss u i hc)
          rw [HGP.out] at hc
          have HM := Lib.hid (show ((i + 1 : Nat) : Int) - 1 = (i : Int) by omega)
          generalize lgb false ((10000 - p10 (3 - i)) * 100000) = x1 at *
          generalize lgb true ((10000 - 2 * p10 (3 - i)) * 100000) = y1 at *
          generalize lgb true ((10000 - p10 (3 - i)) * 100000) = x2 at *
          generalize lgb false ((10000 - 2 * p10 (3 - i)) * 100000) = y2 at *
          generalize p10 (3 - i) = p at *
          generalize ((i + 1 : Nat) : Int) = m at *
          clear HGP
          go_wp2_with (first
            | (go_at_call 36; refine (HT.out _).mono ?_; rintro e w' ⟨rfl, rfl⟩)
            | (go_at_call 37; (with_reducible refine (HA.out _).mono ?_); rintro e w' ⟨rfl, kk, os, rfl⟩)
            | (go_at_call 37; (with_reducible refine (HB.out _).mono ?_); rintro e w' ⟨rfl, kk, os, rfl⟩))
          go_roundw
          case rel => exact ⟨i, by rw [HM.out], by omega, Lib.hid (HJ.out.trans HF.out), hg.trans (by repeat (first | with_reducible exact Gr.refl _ | with_reducible refine Gr.alloc ?_ _ | with_reducible refine Gr.gr ?_ _ _ | with_reducible refine Gr.drew ?_ | with_reducible refine Gr.drewN ?_ _))⟩
          case measure => simp [intOf]; omega
  · have HR := Lib.hid (wdR_no s l a b c h)
    rw [euR_no _ _ _ _ _ h] at HE
    generalize euC s l a b c = q at *
    go_enter Tryz.func13, Tryz.ntmps13
    go_wp2_with (go_at_call 33; refine (HE.out _).mono ?_; rintro e w' ⟨rfl, kk, os, rfl⟩)
    go_ret2
    exact ⟨ret_two (by rw [HR.out]) (by rw [HR.out]), (by repeat (first | with_reducible exact Gr.refl _ | with_reducible refine Gr.alloc ?_ _ | with_reducible refine Gr.gr ?_ _ _ | with_reducible refine Gr.drew ?_ | with_reducible refine Gr.drewN ?_ _))⟩

set_option maxHeartbeats 1000000 in
theorem rbR_impl (s l a b c d t : Int) (w : World) (hD : Dcs w) :
    Calls Tryz.prog 9 #[.int .i64 s, .int .i64 l, .agg #[.int .i64 (a), .int .i64 (b), .int .i64 (c)], .agg #[.int .i64 d, .int .i64 t]] w fun e w' => e = .returned (.tuple #[.int .i64 (rbR s l a b c d t).1, .int .i64 (rbR s l a b c d t).2]) ∧ Gr w w' := by
  have HE := Lib.hid (fun W h => euR_impl s l a b c W h)
  have HF := Lib.hid (fun W => isFigure_impl d t W)
  have HD := Lib.hid hD
  clear hD
  have hC := rbC_cases s l a b c d t
  cases hf : fg d t
  · have h1 : rbC s l a b c d t = 1 := by
      rcases hC with ⟨-, -, e⟩ | ⟨-, e, -⟩ | ⟨-, -, e⟩ | ⟨-, e, -⟩
      · exact e
      · rw [hf] at e; cases e
      · exact e
      · rw [hf] at e; cases e
    have HR := Lib.hid (rbR_no s l a b c d t (by omega))
    rw [h1] at HR
    rw [hf] at HF
    clear hC hf h1
    go_enter Tryz.func9, Tryz.ntmps9
    go_wp2_with (go_at_call 22; refine (HF.out _).mono ?_; rintro e w' ⟨rfl, kk, os, rfl⟩)
    go_ret2
    exact ⟨ret_two (by rw [HR.out]) (by rw [HR.out]), (by repeat (first | with_reducible exact Gr.refl _ | with_reducible refine Gr.alloc ?_ _ | with_reducible refine Gr.gr ?_ _ _ | with_reducible refine Gr.drew ?_ | with_reducible refine Gr.drewN ?_ _))⟩
  · have h1 : rbC s l a b c d t = euC s l a b c := by
      rcases hC with ⟨-, e, -⟩ | ⟨-, -, e, e'⟩ | ⟨-, e, -⟩ | ⟨-, -, e⟩
      · rw [hf] at e; cases e
      · omega
      · rw [hf] at e; cases e
      · exact e
    rw [hf] at HF
    clear hC
    by_cases h0 : euC s l a b c = 0
    · have HU := Lib.hid (fun W => sfR_impl d t (euV s l a b c) W)
      have HQ := Lib.hid (fun W => seR_impl (sfR d t (euV s l a b c)).a (sfR d t (euV s l a b c)).s (sfR d t (euV s l a b c)).b (sfR d t (euV s l a b c)).t W)
      by_cases hx : (sfR d t (euV s l a b c)).c = 0
      · have HR := Lib.hid (rbR_ok s l a b c d t (by omega) hx)
        rw [euR_ok _ _ _ _ _ h0] at HE
        generalize sfR d t (euV s l a b c) = x at *
        generalize euV s l a b c = u at *
        obtain ⟨x1, x2, x3, x4, x5⟩ := x
        simp only at HU HQ HR hx
        subst hx
        generalize seR x1 x2 x3 x4 = y at *
        clear h0 h1 hf
        go_enter Tryz.func9, Tryz.ntmps9
        go_wp2_with (first
          | (go_at_call 22; refine (HF.out _).mono ?_; rintro e w' ⟨rfl, kk, os, rfl⟩)
          | (go_at_call 30; refine (HE.out _ (HD.out.gr (by repeat (first | with_reducible exact Gr.refl _ | with_reducible refine Gr.alloc ?_ _ | with_reducible refine Gr.gr ?_ _ _ | with_reducible refine Gr.drew ?_ | with_reducible refine Gr.drewN ?_ _)))).mono ?_; rintro e w' ⟨rfl, kk, os, rfl⟩)
          | (go_at_call 6; refine (HU.out _).mono ?_; rintro e w' ⟨rfl, kk, os, rfl⟩)
          | (go_at_call 31; refine (HQ.out _).mono ?_; rintro e w' ⟨rfl, kk, os, rfl⟩))
        go_ret2
        exact ⟨ret_two (by rw [HR.out]) (by rw [HR.out]), (by repeat (first | with_reducible exact Gr.refl _ | with_reducible refine Gr.alloc ?_ _ | with_reducible refine Gr.gr ?_ _ _ | with_reducible refine Gr.drew ?_ | with_reducible refine Gr.drewN ?_ _))⟩
      · have HR := Lib.hid (rbR_sp s l a b c d t (by omega) hx)
        rw [euR_ok _ _ _ _ _ h0] at HE
        generalize sfR d t (euV s l a b c) = x at *
        generalize euV s l a b c = u at *
        obtain ⟨x1, x2, x3, x4, x5⟩ := x
        simp only at HU HQ HR hx
        clear h0 h1 hf
        go_enter Tryz.func9, Tryz.ntmps9
        go_wp2_with (first
          | (go_at_call 22; refine (HF.out _).mono ?_; rintro e w' ⟨rfl, kk, os, rfl⟩)
          | (go_at_call 30; refine (HE.out _ (HD.out.gr (by repeat (first | with_reducible exact Gr.refl _ | with_reducible refine Gr.alloc ?_ _ | with_reducible refine Gr.gr ?_ _ _ | with_reducible refine Gr.drew ?_ | with_reducible refine Gr.drewN ?_ _)))).mono ?_; rintro e w' ⟨rfl, kk, os, rfl⟩)
          | (go_at_call 6; refine (HU.out _).mono ?_; rintro e w' ⟨rfl, kk, os, rfl⟩))
        go_ret2
        exact ⟨ret_two (by rw [HR.out]) (by rw [HR.out]), (by repeat (first | with_reducible exact Gr.refl _ | with_reducible refine Gr.alloc ?_ _ | with_reducible refine Gr.gr ?_ _ _ | with_reducible refine Gr.drew ?_ | with_reducible refine Gr.drewN ?_ _))⟩
    · have HR := Lib.hid (rbR_no s l a b c d t (by omega))
      rw [h1] at HR
      rw [euR_no _ _ _ _ _ h0] at HE
      generalize euC s l a b c = q at *
      clear h1 hf
      go_enter Tryz.func9, Tryz.ntmps9
      go_wp2_with (first
        | (go_at_call 22; refine (HF.out _).mono ?_; rintro e w' ⟨rfl, kk, os, rfl⟩)
        | (go_at_call 30; refine (HE.out _ (HD.out.gr (by repeat (first | with_reducible exact Gr.refl _ | with_reducible refine Gr.alloc ?_ _ | with_reducible refine Gr.gr ?_ _ _ | with_reducible refine Gr.drew ?_ | with_reducible refine Gr.drewN ?_ _)))).mono ?_; rintro e w' ⟨rfl, kk, os, rfl⟩))
      go_ret2
      exact ⟨ret_two (by rw [HR.out]) (by rw [HR.out]), (by repeat (first | with_reducible exact Gr.refl _ | with_reducible refine Gr.alloc ?_ _ | with_reducible refine Gr.gr ?_ _ _ | with_reducible refine Gr.drew ?_ | with_reducible refine Gr.drewN ?_ _))⟩

set_option maxHeartbeats 1000000 in
theorem rbR_spec (s l a b c d t : Int) (w : World) :
    Calls Tryz.prog 10 #[.int .i64 s, .int .i64 l, .agg #[.int .i64 (a), .int .i64 (b), .int .i64 (c)], .agg #[.int .i64 d, .int .i64 t]] w fun e w' => e = .returned (.tuple #[.int .i64 (rbR s l a b c d t).1, .int .i64 (rbR s l a b c d t).2]) ∧ Gr w w' := by
  have HE := Lib.hid (fun W => euR_spec s l a b c W)
  have HA := Lib.hid (fun W => areErrors_spec a b c W)
  have HF := Lib.hid (fun W => isFigure_spec d t W)
  have hC := rbC_cases s l a b c d t
  rcases er_tf a b c with he | he
  · rw [he] at HA
    cases hf : fg d t
    · have h1 : rbC s l a b c d t = 1 := by
        rcases hC with ⟨-, -, e⟩ | ⟨-, e, -⟩ | ⟨-, -, e⟩ | ⟨-, e, -⟩
        · exact e
        · rw [hf] at e; cases e
        · exact e
        · rw [hf] at e; cases e
      have HR := Lib.hid (rbR_no s l a b c d t (by omega))
      rw [h1] at HR
      rw [hf] at HF
      clear hC hf h1 he
      go_enter Tryz.func10, Tryz.ntmps10
      go_wp2_with (first | (go_at_call 32; refine (HA.out _).mono ?_; rintro e w' ⟨rfl, kk, os, rfl⟩) | (go_at_call 26; refine (HF.out _).mono ?_; rintro e w' ⟨rfl, kk, os, rfl⟩))
      go_ret2
      exact ⟨ret_two (by rw [HR.out]) (by rw [HR.out]), (by repeat (first | with_reducible exact Gr.refl _ | with_reducible refine Gr.alloc ?_ _ | with_reducible refine Gr.gr ?_ _ _ | with_reducible refine Gr.drew ?_ | with_reducible refine Gr.drewN ?_ _))⟩
    · have h1 : rbC s l a b c d t = euC s l a b c := by
        rcases hC with ⟨-, e, -⟩ | ⟨-, -, e, e'⟩ | ⟨-, e, -⟩ | ⟨-, -, e⟩
        · rw [hf] at e; cases e
        · omega
        · rw [hf] at e; cases e
        · exact e
      rw [hf] at HF
      clear hC
      by_cases h0 : euC s l a b c = 0
      · have HU := Lib.hid (fun W => sfR_spec d t (euV s l a b c) W)
        have HQ := Lib.hid (fun W => seR_spec (sfR d t (euV s l a b c)).a (sfR d t (euV s l a b c)).s (sfR d t (euV s l a b c)).b (sfR d t (euV s l a b c)).t W)
        by_cases hx : (sfR d t (euV s l a b c)).c = 0
        · have HR := Lib.hid (rbR_ok s l a b c d t (by omega) hx)
          rw [euR_ok _ _ _ _ _ h0] at HE
          generalize sfR d t (euV s l a b c) = x at *
          generalize euV s l a b c = u at *
          obtain ⟨x1, x2, x3, x4, x5⟩ := x
          simp only at HU HQ HR hx
          subst hx
          generalize seR x1 x2 x3 x4 = y at *
          clear h0 h1 hf he
          go_enter Tryz.func10, Tryz.ntmps10
          go_wp2_with (first
            | (go_at_call 32; refine (HA.out _).mono ?_; rintro e w' ⟨rfl, kk, os, rfl⟩)
            | (go_at_call 26; refine (HF.out _).mono ?_; rintro e w' ⟨rfl, kk, os, rfl⟩)
            | (go_at_call 33; refine (HE.out _).mono ?_; rintro e w' ⟨rfl, kk, os, rfl⟩)
            | (go_at_call 7; refine (HU.out _).mono ?_; rintro e w' ⟨rfl, kk, os, rfl⟩)
            | (go_at_call 34; refine (HQ.out _).mono ?_; rintro e w' ⟨rfl, kk, os, rfl⟩))
          go_ret2
          exact ⟨ret_two (by rw [HR.out]) (by rw [HR.out]), (by repeat (first | with_reducible exact Gr.refl _ | with_reducible refine Gr.alloc ?_ _ | with_reducible refine Gr.gr ?_ _ _ | with_reducible refine Gr.drew ?_ | with_reducible refine Gr.drewN ?_ _))⟩
        · have HR := Lib.hid (rbR_sp s l a b c d t (by omega) hx)
          rw [euR_ok _ _ _ _ _ h0] at HE
          generalize sfR d t (euV s l a b c) = x at *
          generalize euV s l a b c = u at *
          obtain ⟨x1, x2, x3, x4, x5⟩ := x
          simp only at HU HQ HR hx
          clear h0 h1 hf he
          go_enter Tryz.func10, Tryz.ntmps10
          go_wp2_with (first
            | (go_at_call 32; refine (HA.out _).mono ?_; rintro e w' ⟨rfl, kk, os, rfl⟩)
            | (go_at_call 26; refine (HF.out _).mono ?_; rintro e w' ⟨rfl, kk, os, rfl⟩)
            | (go_at_call 33; refine (HE.out _).mono ?_; rintro e w' ⟨rfl, kk, os, rfl⟩)
            | (go_at_call 7; refine (HU.out _).mono ?_; rintro e w' ⟨rfl, kk, os, rfl⟩))
          go_ret2
          exact ⟨ret_two (by rw [HR.out]) (by rw [HR.out]), (by repeat (first | with_reducible exact Gr.refl _ | with_reducible refine Gr.alloc ?_ _ | with_reducible refine Gr.gr ?_ _ _ | with_reducible refine Gr.drew ?_ | with_reducible refine Gr.drewN ?_ _))⟩
      · have HR := Lib.hid (rbR_no s l a b c d t (by omega))
        rw [h1] at HR
        rw [euR_no _ _ _ _ _ h0] at HE
        generalize euC s l a b c = q at *
        clear h1 hf he
        go_enter Tryz.func10, Tryz.ntmps10
        go_wp2_with (first
          | (go_at_call 32; refine (HA.out _).mono ?_; rintro e w' ⟨rfl, kk, os, rfl⟩)
          | (go_at_call 26; refine (HF.out _).mono ?_; rintro e w' ⟨rfl, kk, os, rfl⟩)
          | (go_at_call 33; refine (HE.out _).mono ?_; rintro e w' ⟨rfl, kk, os, rfl⟩))
        go_ret2
        exact ⟨ret_two (by rw [HR.out]) (by rw [HR.out]), (by repeat (first | with_reducible exact Gr.refl _ | with_reducible refine Gr.alloc ?_ _ | with_reducible refine Gr.gr ?_ _ _ | with_reducible refine Gr.drew ?_ | with_reducible refine Gr.drewN ?_ _))⟩
  · have h1 : rbC s l a b c d t = 1 := by
      rcases hC with ⟨-, -, e⟩ | ⟨-, -, -, e⟩ | ⟨e, -⟩ | ⟨e, -⟩
      · exact e
      · exact e
      · rw [he] at e; cases e
      · rw [he] at e; cases e
    have HR := Lib.hid (rbR_no s l a b c d t (by omega))
    rw [h1] at HR
    rw [he] at HA
    clear hC h1 he
    go_enter Tryz.func10, Tryz.ntmps10
    go_wp2_with (go_at_call 32; refine (HA.out _).mono ?_; rintro e w' ⟨rfl, kk, os, rfl⟩)
    go_ret2
    exact ⟨ret_two (by rw [HR.out]) (by rw [HR.out]), (by repeat (first | with_reducible exact Gr.refl _ | with_reducible refine Gr.alloc ?_ _ | with_reducible refine Gr.gr ?_ _ _ | with_reducible refine Gr.drew ?_ | with_reducible refine Gr.drewN ?_ _))⟩
end Go.Proofs.YtdbeedfapkfibaaGreatDoor
