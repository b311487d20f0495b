/- For every code of bytes the swapped and sorted lists of terms and the logarithms of drawn chains are as the law FnChains says, and it returns true. No condition. -/
import Derived.Test.YtphebmbapllinaaD41
import Derived.Test.YtphebmbapllinaaC13g
import Derived.Test.YtphebmbapllinaaBig
import Derived.Test.YtphebmbapllinaaSA
import Derived.Test.YtphebmbapllinaaMH
import Derived.Test.YtphebmbapllinaaFF
import Derived.Test.YtphebmbapllinaaRows
import Derived.WalkKit
import Derived.ProofKit
import Derived.OpenShut
namespace Go.Proofs.Ytphebmbapllinaa.fnChains
open Go.ChangeShapes Go.WideShapes Go.ChangeAt Go.RowKit
set_option linter.unusedVariables false
set_option linter.unusedSimpArgs false

theorem own : ownKnob Try.prog.godebug = none := by kernel_rfl

theorem sw_len (zs : List Tm) (a b : Int) : (swR zs a b).1.length ≤ zs.length := by
  unfold swR
  split
  · rw [swL_len]; exact Nat.le_refl _
  · exact Nat.zero_le _
theorem sw_facts (zs : List Tm) (a b : Int) : ((swR zs a b).2 != 0) = true ∨ ((swR zs a b).2 = 0 ∧ (swR zs a b).1.length = zs.length ∧ clR zs = (chLg zs, 0) ∧ clR (swR zs a b).1 = (chLg zs, 0) ∧ swR (swR zs a b).1 a b = (zs, 0)) := by
  cases h0 : chnB zs with
  | false => left; rw [swR_inv h0]; rfl
  | true =>
    by_cases hr : (0 ≤ a ∧ a < zs.length) ∧ (0 ≤ b ∧ b < zs.length)
    · obtain ⟨⟨a0, a1⟩, b0, b1⟩ := hr
      obtain ⟨i, rfl⟩ := Int.eq_ofNat_of_zero_le a0
      obtain ⟨j, rfl⟩ := Int.eq_ofNat_of_zero_le b0
      have hi : i < zs.length := by omega
      have hj : j < zs.length := by omega
      cases h2 : chnB (swL zs i j) with
      | false => left; rw [swR_st h0 hi hj h2]; rfl
      | true =>
        right
        rw [swR_ok h0 hi hj h2]
        refine ⟨rfl, swL_len _ _ _, clR_ok h0, ?_, ?_⟩
        · show clR (swL zs i j) = _
          rw [clR_ok h2, chLg_sw hi hj]
        · show swR (swL zs i j) i j = _
          rw [swR_ok h2 (by rw [swL_len]; exact hi) (by rw [swL_len]; exact hj) (by rw [swL_back hi hj]; exact h0), swL_back hi hj]
    · left; rw [swR_rng h0 hr]; rfl
theorem so_len (ds : List Tm) : (soR ds).1.length ≤ ds.length := by
  cases h : chnB ds with
  | false => rw [soR_no h]; exact Nat.zero_le _
  | true =>
    rw [soR_ok h]
    show (soL ds).length ≤ _
    rw [soL_len ((chnB_iff ds).1 h).1.1]
    exact Nat.le_refl _
theorem so_facts (ds : List Tm) : ((soR ds).2 == 0) = false ∨ ((soR ds).2 = 0 ∧ (soR ds).1.length = ds.length ∧ clR ds = (chLg ds, 0) ∧ clR (soR ds).1 = (chLg ds, 0)) := by
  cases h : chnB ds with
  | false => left; rw [soR_no h]; rfl
  | true =>
    right
    rw [soR_ok h]
    refine ⟨rfl, soL_len ((chnB_iff ds).1 h).1.1, clR_ok h, ?_⟩
    show clR (soL ds) = _
    rw [clR_ok (soL_ch h), chLg_so]
theorem ch_code (es : List Tm) : chnB es = ((clR es).2 == 0) := by
  cases h : chnB es with
  | false => rw [clR_no h]; rfl
  | true => rw [clR_ok h]; rfl
theorem eql_itv (a b c d : Int) (w : World) : (binOp .eql 32 (.agg #[.int .i64 a, .int .i64 b]) (.agg #[.int .i64 c, .int .i64 d])).run Try.prog w = .ok (.bool (a == c && b == d)) w := by
  rw [run_eql_struct, run_equalIn_agg (d := 9999) w _ _ _ (by kernel_rfl) (by kernel_rfl)]
  simp [Op.eqFields, Program.fieldsOf, Try.underlying32, Try.underlying2, go_sem]
  by_cases h1 : a = c <;> by_cases h2 : b = d <;> simp [h1, h2]
attribute [local go_sem high] guard_itv neq_itv eql_itv

set_option maxHeartbeats 8000000 in
set_option maxRecDepth 100000 in
/-- The walk of a code that is not too long. -/
theorem walk1 (w : World) (A0 : Option Addr) (n0 c0 : Nat) (hB0 : Bytes w w.heap.size A0 n0) (hbig : ¬ 4096 < n0) :
    Calls Try.prog 3 #[.slice A0 n0 c0] w (LawDone w) := by
  have hd : decide ((4096 : Int) < n0) = false := by simp; omega
  go_enter Try.func3, Try.ntmps3
  go_wp2_with fail
  refine (big_any A0 n0 c0 w).mono ?_
  rw [hd]
  rintro e w1 ⟨rfl, rfl⟩
  clear hd
  go_wp2_with fail
  refine (drawSwapT_any A0 n0 c0 w (by omega) hB0).mono ?_
  rintro e w1 ⟨gc, cc, zs, a, b, rfl, z7, zc, RC, HB⟩
  obtain ⟨p, hp⟩ : ∃ p, zs.length = p := ⟨_, rfl⟩
  rw [hp] at z7 zc ⊢
  have HSI := Lib.hid (fun W h => sw_impl (some ⟨gc, 0, none⟩) p cc zs a b W hp (by omega) h)
  have HSS := Lib.hid (fun W h => sw_spec (some ⟨gc, 0, none⟩) p cc zs a b W hp (by omega) h)
  have HSF := Lib.hid (sw_facts zs a b)
  have HSL := sw_len zs a b
  have HP := Lib.hid hp
  rw [hp] at HSL
  unfold LsT at HSI HSS
  generalize hS : swR zs a b = S at *
  clear hS hp
  obtain ⟨sx, sc⟩ := S
  simp only at HSI HSS HSF HSL
  go_wp2_with fail
  refine (HSI.out w1 RC).mono ?_
  rintro e w2 ⟨⟨x, rfl, hx⟩, hX⟩
  replace RC := RC.below hX
  replace HB := HB.trans ((hX).mono HB.size)
  clear hX
  go_wp2_with fail
  refine (HSS.out w2 RC).mono ?_
  rintro e w3 ⟨⟨mx, rfl, hmx⟩, hX⟩
  replace RC := RC.below hX
  replace hx := LstG.below hx hX
  replace HB := HB.trans ((hX).mono HB.size)
  clear hX
  go_wp2_with fail
  refine (drawSortT_any A0 n0 c0 w3 (by omega) (hB0.later HB)).mono ?_
  rintro e w4 ⟨gd, cd, ds, rfl, d7, dc, RD, hX⟩
  replace RC := RC.below hX
  replace hx := LstG.below hx hX
  replace hmx := LstG.below hmx hX
  replace HB := HB.trans ((hX).mono HB.size)
  clear hX
  obtain ⟨q, hq⟩ : ∃ q, ds.length = q := ⟨_, rfl⟩
  rw [hq] at d7 dc ⊢
  have HOI := Lib.hid (fun W h => so_impl (some ⟨gd, 0, none⟩) q cd ds W hq (by omega) dc h)
  have HOS := Lib.hid (fun W h => so_spec (some ⟨gd, 0, none⟩) q cd ds W hq (by omega) h)
  have HOF := Lib.hid (so_facts ds)
  have HOL := so_len ds
  have HQ := Lib.hid hq
  rw [hq] at HOL
  unfold LsT at HOI HOS
  generalize hS : soR ds = S at *
  clear hS hq
  obtain ⟨ox, oc⟩ := S
  simp only at HOI HOS HOF HOL
  go_wp2_with fail
  refine (HOI.out w4 RD).mono ?_
  rintro e w5 ⟨⟨y, rfl, hy⟩, hX⟩
  replace RC := RC.below hX
  replace hx := LstG.below hx hX
  replace hmx := LstG.below hmx hX
  replace RD := RD.below hX
  replace HB := HB.trans ((hX).mono HB.size)
  clear hX
  go_wp2_with fail
  refine (HOS.out w5 RD).mono ?_
  rintro e w6 ⟨⟨my, rfl, hmy⟩, hX⟩
  replace RC := RC.below hX
  replace hx := LstG.below hx hX
  replace hmx := LstG.below hmx hX
  replace RD := RD.below hX
  replace hy := LstG.below hy hX
  replace HB := HB.trans ((hX).mono HB.size)
  clear hX
  go_wp2_with fail
  refine (drawChLog_any A0 n0 c0 w6 (by omega) (hB0.later HB)).mono ?_
  rintro e w7 ⟨ge, ce, es, rfl, e7, ec, RE, hX⟩
  replace RC := RC.below hX
  replace hx := LstG.below hx hX
  replace hmx := LstG.below hmx hX
  replace RD := RD.below hX
  replace hy := LstG.below hy hX
  replace hmy := LstG.below hmy hX
  replace HB := HB.trans ((hX).mono HB.size)
  clear hX
  obtain ⟨r, hr⟩ : ∃ r, es.length = r := ⟨_, rfl⟩
  rw [hr] at e7 ec ⊢
  have HEI := Lib.hid (fun W h => clR_impl (some ⟨ge, 0, none⟩) r ce es W hr (by omega) h)
  have HES := Lib.hid (fun W h => clR_spec (some ⟨ge, 0, none⟩) r ce es W hr (by omega) h)
  have HEC := Lib.hid (fun W h => isChain_impl (some ⟨ge, 0, none⟩) r ce es W hr (by omega) h)
  have HEF := ch_code es
  rw [HEF] at HEC
  clear HEF
  generalize hS : clR es = S at *
  clear hS hr
  obtain ⟨⟨el, eh⟩, lc⟩ := S
  simp only at HEI HES HEC
  go_wp2_with fail
  refine (HEI.out w7 RE).mono ?_
  rintro e vw8 ⟨rfl, hX⟩
  replace hX := hX.trans (show Gr vw8 (vw8.alloc (.cells #[.int .i64 el, .int .i64 eh] 32)) from (by repeat (first | with_reducible exact Gr.refl _ | with_reducible refine Gr.alloc ?_ _ | with_reducible refine Gr.gr ?_ _ _ | with_reducible refine Gr.drew ?_ | with_reducible refine Gr.drewN ?_ _)))
  replace RC := RC.gr hX
  replace hx := LstG.below hx hX.below
  replace hmx := LstG.below hmx hX.below
  replace RD := RD.gr hX
  replace hy := LstG.below hy hX.below
  replace hmy := LstG.below hmy hX.below
  replace RE := RE.gr hX
  replace HB := HB.trans ((hX.below).mono HB.size)
  have Q1 := Blk.new vw8 32 #[.int .i64 el, .int .i64 eh]
  clear hX
  go_wp2_with fail
  generalize (vw8.alloc (.cells #[.int .i64 el, .int .i64 eh] 32)) = w8 at *
  refine (HES.out w8 RE).mono ?_
  rintro e vw9 ⟨rfl, hX⟩
  replace hX := hX.trans (show Gr vw9 (vw9.alloc (.cells #[.int .i64 el, .int .i64 eh] 32)) from (by repeat (first | with_reducible exact Gr.refl _ | with_reducible refine Gr.alloc ?_ _ | with_reducible refine Gr.gr ?_ _ _ | with_reducible refine Gr.drew ?_ | with_reducible refine Gr.drewN ?_ _)))
  replace RC := RC.gr hX
  replace hx := LstG.below hx hX.below
  replace hmx := LstG.below hmx hX.below
  replace RD := RD.gr hX
  replace hy := LstG.below hy hX.below
  replace hmy := LstG.below hmy hX.below
  replace RE := RE.gr hX
  replace Q1 := Q1.gr hX
  replace HB := HB.trans ((hX.below).mono HB.size)
  have Q2 := Blk.new vw9 32 #[.int .i64 el, .int .i64 eh]
  clear hX
  go_wp2_with fail
  generalize (vw9.alloc (.cells #[.int .i64 el, .int .i64 eh] 32)) = w9 at *
  refine (likeTermsLst_any x mx sx _ _ w9 hx hmx (by omega)).mono ?_
  rintro e w10 ⟨rfl, hX⟩
  replace RC := RC.gr hX
  replace hx := LstG.below hx hX.below
  replace hmx := LstG.below hmx hX.below
  replace RD := RD.gr hX
  replace hy := LstG.below hy hX.below
  replace hmy := LstG.below hmy hX.below
  replace RE := RE.gr hX
  replace Q1 := Q1.gr hX
  replace Q2 := Q2.gr hX
  replace HB := HB.trans ((hX.below).mono HB.size)
  clear hX
  go_wp2_with fail
  refine (likeTermsLst_any y my ox _ _ w10 hy hmy (by omega)).mono ?_
  rintro e w11 ⟨rfl, hX⟩
  replace RC := RC.gr hX
  replace hx := LstG.below hx hX.below
  replace hmx := LstG.below hmx hX.below
  replace RD := RD.gr hX
  replace hy := LstG.below hy hX.below
  replace hmy := LstG.below hmy hX.below
  replace RE := RE.gr hX
  replace Q1 := Q1.gr hX
  replace Q2 := Q2.gr hX
  replace HB := HB.trans ((hX.below).mono HB.size)
  clear hX
  clear hmx hmy
  obtain ⟨q10, q11, -⟩ := Q1.two
  obtain ⟨q20, q21, -⟩ := Q2.two
  have ql1 := Q1.lt
  have ql2 := Q2.lt
  go_wp2_with fail
  clear q10 q11 q20 q21 ql1 ql2 Q1 Q2
  refine (HEC.out w11 RE).mono ?_
  rintro e w12 ⟨rfl, hX⟩
  replace RC := RC.gr hX
  replace hx := LstG.below hx hX.below
  replace RD := RD.gr hX
  replace hy := LstG.below hy hX.below
  replace RE := RE.gr hX
  replace HB := HB.trans ((hX.below).mono HB.size)
  clear hX
  clear RE HEI HES HEC
  rcases HOF.out with ho | ⟨ho, h1, h2, h3⟩
  · clear HOF HOI HOS RD hy
    rcases HSF.out with hs | ⟨hs, k1, k2, k3, k4⟩
    · clear HSF HSI HSS
      have hs0 : (sc == 0) = false := by simpa using hs
      go_wp2_with fail
      go_ret
      exact ⟨rfl, HB⟩
    · subst hs
      rw [HP.out] at k1
      obtain ⟨ax, nx, rfl, rx⟩ := LstG.slice hx
      have HCI := Lib.hid (fun W h => clR_impl (some ⟨gc, 0, none⟩) p cc zs W HP.out (by omega) h)
      have HXI := Lib.hid (fun W h => clR_impl ax p nx sx W k1 (by omega) h)
      have HXS := Lib.hid (fun W h => sw_impl ax p nx sx a b W k1 (by omega) h)
      unfold LsT at HXS
      rw [k2] at HCI
      rw [k3] at HXI
      rw [k4] at HXS
      have HK := Lib.hid k1
      clear k1 k2 k3 k4 HSF HSI HSS hx
      rw [HK.out] at *
      generalize hcz : chLg zs = C at *
      obtain ⟨cl, ch⟩ := C
      clear hcz
      simp only at HCI HXI HXS
      go_wp2_with fail
      refine (HCI.out w12 RC).mono ?_
      rintro e vw13 ⟨rfl, hX⟩
      replace hX := hX.trans (show Gr vw13 (vw13.alloc (.cells #[.int .i64 cl, .int .i64 ch] 32)) from (by repeat (first | with_reducible exact Gr.refl _ | with_reducible refine Gr.alloc ?_ _ | with_reducible refine Gr.gr ?_ _ _ | with_reducible refine Gr.drew ?_ | with_reducible refine Gr.drewN ?_ _)))
      replace RC := RC.gr hX
      replace rx := rx.gr hX
      replace HB := HB.trans ((hX.below).mono HB.size)
      have P1 := Blk.new vw13 32 #[.int .i64 cl, .int .i64 ch]
      clear hX
      go_wp2_with fail
      generalize (vw13.alloc (.cells #[.int .i64 cl, .int .i64 ch] 32)) = w13 at *
      refine (HXI.out w13 rx).mono ?_
      rintro e vw14 ⟨rfl, hX⟩
      replace hX := hX.trans (show Gr vw14 (vw14.alloc (.cells #[.int .i64 cl, .int .i64 ch] 32)) from (by repeat (first | with_reducible exact Gr.refl _ | with_reducible refine Gr.alloc ?_ _ | with_reducible refine Gr.gr ?_ _ _ | with_reducible refine Gr.drew ?_ | with_reducible refine Gr.drewN ?_ _)))
      replace RC := RC.gr hX
      replace rx := rx.gr hX
      replace P1 := P1.gr hX
      replace HB := HB.trans ((hX.below).mono HB.size)
      have P2 := Blk.new vw14 32 #[.int .i64 cl, .int .i64 ch]
      clear hX
      go_wp2_with fail
      generalize (vw14.alloc (.cells #[.int .i64 cl, .int .i64 ch] 32)) = w14 at *
      refine (HXS.out w14 rx).mono ?_
      rintro e w15 ⟨⟨u, rfl, hu⟩, hX⟩
      replace RC := RC.below hX
      replace rx := rx.below hX
      replace P1 := P1.below hX P1.lt
      replace P2 := P2.below hX P2.lt
      replace HB := HB.trans ((hX).mono HB.size)
      clear hX
      obtain ⟨au, nu, rfl, ru⟩ := LstG.slice hu
      rw [HP.out]
      obtain ⟨q10, q11, -⟩ := P1.two
      obtain ⟨q20, q21, -⟩ := P2.two
      have ql1 := P1.lt
      have ql2 := P2.lt
      go_wp2_with fail
      refine (likeTerms_same au (some ⟨gc, 0, none⟩) p nu cc zs w15 HP.out (by omega) ru RC).mono ?_
      rintro e w16 ⟨rfl, hX⟩
      replace RC := RC.gr hX
      replace rx := rx.gr hX
      replace P1 := P1.gr hX
      replace P2 := P2.gr hX
      replace HB := HB.trans ((hX.below).mono HB.size)
      clear hX
      go_wp2_with fail
      go_ret
      exact ⟨rfl, HB⟩
  · subst ho
    rw [HQ.out] at h1
    obtain ⟨ay, ny, rfl, ry⟩ := LstG.slice hy
    have HCI := Lib.hid (fun W h => clR_impl (some ⟨gd, 0, none⟩) q cd ds W HQ.out (by omega) h)
    have HXI := Lib.hid (fun W h => clR_impl ay q ny ox W h1 (by omega) h)
    rw [h2] at HCI
    rw [h3] at HXI
    have HK := Lib.hid h1
    clear h1 h2 h3 HOF HOI HOS hy
    generalize hcz : chLg ds = C at *
    obtain ⟨dl, dh⟩ := C
    clear hcz
    rw [HK.out]
    simp only at HCI HXI
    go_wp2_with fail
    refine (HCI.out w12 RD).mono ?_
    rintro e vw13 ⟨rfl, hX⟩
    replace hX := hX.trans (show Gr vw13 (vw13.alloc (.cells #[.int .i64 dl, .int .i64 dh] 32)) from (by repeat (first | with_reducible exact Gr.refl _ | with_reducible refine Gr.alloc ?_ _ | with_reducible refine Gr.gr ?_ _ _ | with_reducible refine Gr.drew ?_ | with_reducible refine Gr.drewN ?_ _)))
    replace RC := RC.gr hX
    replace hx := LstG.below hx hX.below
    replace RD := RD.gr hX
    replace ry := ry.gr hX
    replace HB := HB.trans ((hX.below).mono HB.size)
    have Q1 := Blk.new vw13 32 #[.int .i64 dl, .int .i64 dh]
    clear hX
    go_wp2_with fail
    generalize (vw13.alloc (.cells #[.int .i64 dl, .int .i64 dh] 32)) = w13 at *
    refine (HXI.out w13 ry).mono ?_
    rintro e vw14 ⟨rfl, hX⟩
    replace hX := hX.trans (show Gr vw14 (vw14.alloc (.cells #[.int .i64 dl, .int .i64 dh] 32)) from (by repeat (first | with_reducible exact Gr.refl _ | with_reducible refine Gr.alloc ?_ _ | with_reducible refine Gr.gr ?_ _ _ | with_reducible refine Gr.drew ?_ | with_reducible refine Gr.drewN ?_ _)))
    replace RC := RC.gr hX
    replace hx := LstG.below hx hX.below
    replace RD := RD.gr hX
    replace ry := ry.gr hX
    replace Q1 := Q1.gr hX
    replace HB := HB.trans ((hX.below).mono HB.size)
    have Q2 := Blk.new vw14 32 #[.int .i64 dl, .int .i64 dh]
    clear hX
    obtain ⟨q10, q11, -⟩ := Q1.two
    obtain ⟨q20, q21, -⟩ := Q2.two
    have ql1 := Q1.lt
    have ql2 := Q2.lt
    clear HCI HXI
    generalize hwv : (vw14.alloc (.cells #[.int .i64 dl, .int .i64 dh] 32)) = w14 at *
    clear RD ry Q1 Q2
    rcases HSF.out with hs | ⟨hs, k1, k2, k3, k4⟩
    · clear HSF HSI HSS
      have hs0 : (sc == 0) = false := by simpa using hs
      go_wp2_with fail
      go_ret
      exact ⟨rfl, HB⟩
    · subst hs
      rw [HP.out] at k1
      obtain ⟨ax, nx, rfl, rx⟩ := LstG.slice hx
      have HCI := Lib.hid (fun W h => clR_impl (some ⟨gc, 0, none⟩) p cc zs W HP.out (by omega) h)
      have HXI := Lib.hid (fun W h => clR_impl ax p nx sx W k1 (by omega) h)
      have HXS := Lib.hid (fun W h => sw_impl ax p nx sx a b W k1 (by omega) h)
      unfold LsT at HXS
      rw [k2] at HCI
      rw [k3] at HXI
      rw [k4] at HXS
      have HK := Lib.hid k1
      clear k1 k2 k3 k4 HSF HSI HSS hx
      rw [HK.out] at *
      generalize hcz : chLg zs = C at *
      obtain ⟨cl, ch⟩ := C
      clear hcz
      simp only at HCI HXI HXS
      go_wp2_with fail
      refine (HCI.out w14 RC).mono ?_
      rintro e vw15 ⟨rfl, hX⟩
      replace hX := hX.trans (show Gr vw15 (vw15.alloc (.cells #[.int .i64 cl, .int .i64 ch] 32)) from (by repeat (first | with_reducible exact Gr.refl _ | with_reducible refine Gr.alloc ?_ _ | with_reducible refine Gr.gr ?_ _ _ | with_reducible refine Gr.drew ?_ | with_reducible refine Gr.drewN ?_ _)))
      replace RC := RC.gr hX
      replace rx := rx.gr hX
      replace HB := HB.trans ((hX.below).mono HB.size)
      have P1 := Blk.new vw15 32 #[.int .i64 cl, .int .i64 ch]
      clear hX
      go_wp2_with fail
      generalize (vw15.alloc (.cells #[.int .i64 cl, .int .i64 ch] 32)) = w15 at *
      refine (HXI.out w15 rx).mono ?_
      rintro e vw16 ⟨rfl, hX⟩
      replace hX := hX.trans (show Gr vw16 (vw16.alloc (.cells #[.int .i64 cl, .int .i64 ch] 32)) from (by repeat (first | with_reducible exact Gr.refl _ | with_reducible refine Gr.alloc ?_ _ | with_reducible refine Gr.gr ?_ _ _ | with_reducible refine Gr.drew ?_ | with_reducible refine Gr.drewN ?_ _)))
      replace RC := RC.gr hX
      replace rx := rx.gr hX
      replace P1 := P1.gr hX
      replace HB := HB.trans ((hX.below).mono HB.size)
      have P2 := Blk.new vw16 32 #[.int .i64 cl, .int .i64 ch]
      clear hX
      go_wp2_with fail
      generalize (vw16.alloc (.cells #[.int .i64 cl, .int .i64 ch] 32)) = w16 at *
      refine (HXS.out w16 rx).mono ?_
      rintro e w17 ⟨⟨u, rfl, hu⟩, hX⟩
      replace RC := RC.below hX
      replace rx := rx.below hX
      replace P1 := P1.below hX P1.lt
      replace P2 := P2.below hX P2.lt
      replace HB := HB.trans ((hX).mono HB.size)
      clear hX
      obtain ⟨au, nu, rfl, ru⟩ := LstG.slice hu
      rw [HP.out]
      obtain ⟨q10, q11, -⟩ := P1.two
      obtain ⟨q20, q21, -⟩ := P2.two
      have ql1 := P1.lt
      have ql2 := P2.lt
      go_wp2_with fail
      refine (likeTerms_same au (some ⟨gc, 0, none⟩) p nu cc zs w17 HP.out (by omega) ru RC).mono ?_
      rintro e w18 ⟨rfl, hX⟩
      replace RC := RC.gr hX
      replace rx := rx.gr hX
      replace P1 := P1.gr hX
      replace P2 := P2.gr hX
      replace HB := HB.trans ((hX.below).mono HB.size)
      clear hX
      go_wp2_with fail
      go_ret
      exact ⟨rfl, HB⟩

set_option maxHeartbeats 4000000 in
set_option maxRecDepth 100000 in
theorem walk (w : World) (A0 : Option Addr) (n0 c0 : Nat) (hB0 : Bytes w w.heap.size A0 n0) :
    Calls Try.prog 3 #[.slice A0 n0 c0] w (LawDone w) := by
  by_cases hbig : 4096 < n0
  · have hd : decide ((4096 : Int) < n0) = true := by simp; omega
    go_enter Try.func3, Try.ntmps3
    go_wp2_with fail
    refine (big_any A0 n0 c0 w).mono ?_
    rw [hd]
    rintro e w1 ⟨rfl, rfl⟩
    go_wp2_with fail
    go_ret
    exact ⟨rfl, Below.refl _ _⟩
  · exact walk1 w A0 n0 c0 hB0 hbig

set_option maxRecDepth 100000 in
theorem lifted (os : Os) (started : os.Started) (H : Type) (enc : TypeId × Value → H) :
    ReturnsInHanded {} Try.checked os 3 .any (Rows.fnChainsSpec.pre6 enc Try.prog Try.f3 Rows.fnChainsRow.domain false) (Rows.fnChainsSpec.post enc Try.prog Try.f3 false true false false) := by
  refine returnsInHanded_of_change (C := Try.checked) own started (by kernel_rfl) Try.func3
    (ChangeSpec.witness6 (enc := enc) (C := Try.checked) false ⟨#[], #[.slice none 0 0], []⟩ 8 (by kernel_rfl) (by kernel_rfl) (by kernel_rfl) (by kernel_rfl)) ?_
  intro W base args ds gs before hval0 hW hcnd _
  have hval : ∀ (j : Nat) t v, Try.f3.params[j]? = some t → args[j]? = some v → Value.okWide Try.prog W .any base t v := hval0
  have hW' := hW
  obtain ⟨p, q, hA0, hV, hpq, hfz, hnd⟩ := hW
  have hA : DataW.TrodAll enc Try.prog W 0 (fun _ => true) true Try.f3.params.toList args.toList ds p := hA0
  have hT := hA
  obtain ⟨rfl, rfl⟩ := trodVars_none hV
  rw [Try.params3] at hA hval
  obtain ⟨v0, vs0, d0, ds0, p0, q0, hargs, rfl, rfl, h0, r0⟩ := trodAll_cons hA
  obtain ⟨rfl, rfl, rfl⟩ := trodAll_nil r0
  obtain rfl : args = #[v0] := by cases args; simp_all
  obtain ⟨A0, n0, c0, rfl, -, hB0⟩ := open_code Try.underlying22 Try.underlying5 (by kernel_rfl) (hval 0 22 v0 rfl rfl) h0
  clear hA0 hval0
  refine (walk W A0 n0 c0 hB0).mono fun e W' ⟨he, hb⟩ => ?_
  subst he
  exact ⟨_, rfl, law_post laidOut hW' hT hpq (by kernel_rfl) (fun _ _ => rfl) rfl rfl rfl Try.underlying4 hb⟩

theorem over : Rows.fnChainsRow.holds Try.pinned (OpenSpec.ofChange Rows.fnChainsSpec) :=
  OpenClaim.holds_of_wide 3 Try.f3 rfl rfl rfl rfl rfl rfl rfl ⟨rfl, rfl, rfl, rfl, rfl⟩ rfl rfl rfl rfl rfl (by kernel_rfl) Try.func3 (by kernel_rfl)
    (of_decide_eq_true (by kernel_rfl)) (by unfold Func.isWrapper; first | (rw [if_pos (by decide +kernel)]; kernel_rfl) | (rw [if_neg (by decide +kernel)]; exact ⟨rfl, rfl⟩))
    (fun os started H enc _ => lifted os started H enc)

theorem proved : Rows.FnChainsSaid :=
  over
end Go.Proofs.Ytphebmbapllinaa.fnChains
