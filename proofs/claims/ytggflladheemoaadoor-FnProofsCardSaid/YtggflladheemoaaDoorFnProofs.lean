/- For every code of bytes the proofs, the collisions and the labels' texts of the drawn ticks are as the law FnProofs says, and it returns true. No condition beyond the library's tables as the program's text lays them. -/
import Derived.Test.YtggflladheemoaaDoor9D
import Derived.Test.YtggflladheemoaaDoor9C
import Derived.Test.YtggflladheemoaaDoorC09b
import Derived.Test.YtggflladheemoaaDoorDC
import Derived.Test.YtggflladheemoaaDoorBig
import Derived.Test.YtggflladheemoaaDoorDr
import Derived.Test.YtggflladheemoaaDoorTie
import Derived.Test.YtggflladheemoaaDoorCards
import Derived.Test.YtggflladheemoaaDoorFr
import Derived.Test.YtggflladheemoaaDoorRows
import Derived.WalkKit
import Derived.ProofKit
import Derived.OpenShut
namespace Go.Proofs.YtggflladheemoaaDoor.fnProofs
open Go.ChangeShapes Go.WideShapes Go.ChangeAt Go.RowKit
set_option linter.unusedVariables false
set_option linter.unusedSimpArgs false

theorem own : ownKnob Tryd.prog.godebug = none := by kernel_rfl

theorem tab {w : World} (hL : laidMet Tryd.prog Rows.fnProofsRow.laid w) : Tab w := by
  have h := hL.filter (fun x => x.1 == "internal/strconv.uint64pow10")
  have e : Rows.fnProofsRow.laid.filter (fun x => x.1 == "internal/strconv.uint64pow10") = [("internal/strconv.uint64pow10", Lib.tabData .u64 Lib.pow10Tab)] := by rfl
  rw [e] at h
  exact Lib.tabIs_of_head (g := 3) (by kernel_rfl) (by kernel_rfl) Tryd.underlying229 Tryd.underlying206 (by kernel_rfl) (by kernel_rfl) h


/-- A block of three integers. -/
def Bk3 (w : World) (g : Nat) (a b c : Int) : Prop := Row w g 60 [vi a, vi b, vi c]
theorem Bk3.gr {w w' : World} {g : Nat} {a b c : Int} (h : Bk3 w g a b c) (hg : Gr w w') : Bk3 w' g a b c := Row.gr h hg
theorem Bk3.below {w w' : World} {g : Nat} {a b c : Int} (h : Bk3 w g a b c) (hb : Below w.heap.size w w') : Bk3 w' g a b c := Row.below h hb (Row.lt h)
theorem Bk3.cells {w : World} {g : Nat} {a b c : Int} (h : Bk3 w g a b c) : w.cell? ⟨g, 0, none⟩ = some (vi a) ∧ w.cell? ⟨g, 1, none⟩ = some (vi b) ∧ w.cell? ⟨g, 2, none⟩ = some (vi c) := ⟨Row.cell h 0, Row.cell h 1, Row.cell h 2⟩
theorem Bk3.new (w : World) (a b c : Int) : Bk3 (w.alloc (.cells #[vi a, vi b, vi c] 60)) w.heap.size a b c := Row.new w _ [vi a, vi b, vi c]
theorem Bk3.alloc {w : World} {g : Nat} {a b c : Int} (h : Bk3 w g a b c) (o : Obj) : Bk3 (w.alloc o) g a b c := h.gr ((Gr.refl w).alloc o)
theorem Bk3.two (w : World) (a b c d e f : Int) : Bk3 ((w.alloc (.cells #[vi a, vi b, vi c] 60)).alloc (.cells #[vi d, vi e, vi f] 60)) (w.heap.size + 1) d e f := by
  have := Bk3.new (w.alloc (.cells #[vi a, vi b, vi c] 60)) d e f
  rwa [World.size_alloc] at this
theorem dc_facts (y z : P3) : dcE y z = 0 → dcE z y = 0 ∧ dcV z y = dcV y z ∧ dcE y y = 0 ∧ dcV y y = true := by
  intro h
  have h1 : lbIs y ∧ lbIs z := by
    unfold dcE at h
    split at h
    · assumption
    · omega
  have e := ends_bd y h1.1
  refine ⟨by unfold dcE; rw [if_pos ⟨h1.2, h1.1⟩], by unfold dcV; rw [if_pos ⟨h1.2, h1.1⟩, if_pos h1, coT_sym], by unfold dcE; rw [if_pos ⟨h1.1, h1.1⟩], ?_⟩
  unfold dcV
  rw [if_pos ⟨h1.1, h1.1⟩]
  unfold coT
  exact decide_eq_true ⟨e.2.1, e.2.1⟩
theorem lt_last (z : P3) : ltE z = 0 → ∃ k, ∃ h : k < (ltV z).size, (ltV z).size = k + 1 ∧ k ≤ 3 ∧ ((ltV z)[k]'h).toNat ≠ 48 := by
  intro h
  have hz : lbIs z := by
    unfold ltE at h
    split at h
    · assumption
    · omega
  obtain ⟨m0, m1⟩ := hz.1
  have hb := lbN_bd z.1 m0 m1
  obtain ⟨l, hl⟩ := dec_last (strN z.1.toNat)
  have hs := (strN_bd z.1.toNat (by omega)).2.2
  have he : ltV z = ⟨(l ++ [UInt8.ofNat (48 + strN z.1.toNat % 10)]).toArray⟩ := by
    unfold ltV
    rw [if_pos hz]
    unfold lblB
    rw [hl]
  have hn : l.length + 1 ≤ 4 := by
    have := hb.2
    unfold lbN at this
    rw [hl, List.length_append] at this
    exact this
  have hc := u8_ne (k := strN z.1.toNat % 10) (by omega) (by omega)
  generalize ltV z = S at *
  subst he
  refine ⟨l.length, by show l.length < (List.toArray _).size; simp, by show (List.toArray _).size = _; simp, by omega, ?_⟩
  have e : (⟨(l ++ [UInt8.ofNat (48 + strN z.1.toNat % 10)]).toArray⟩ : ByteArray)[l.length]'(by show l.length < (List.toArray _).size; simp) = UInt8.ofNat (48 + strN z.1.toNat % 10) := by
    show (l ++ [UInt8.ofNat (48 + strN z.1.toNat % 10)]).toArray[l.length]'(by simp) = _
    simp
  rw [e]
  exact fun h => hc (UInt8.toNat_inj.1 h)
theorem pr_facts (zs : List P3) (v : List Int) : lbE zs = 0 → (lbE zs = 0 ∧ ipV zs (pfL zs) = true ∧ (pfL zs).length = zs.length + 1 ∧ True) ∧ (ipV zs v = true → v.length = zs.length + 1 ∧ (pfL zs)[zs.length]? = some (mostW zs) ∧ ∃ x, v[zs.length]? = some x ∧ mostW zs ≤ x) := by
  intro h
  obtain ⟨p1, p2⟩ := pfL_of h
  refine ⟨⟨h, by unfold ipV; rw [if_pos h, least_is h], p1, trivial⟩, fun hv => ?_⟩
  unfold ipV at hv
  rw [if_pos h] at hv
  have h1 := ((ipB_iff zs v).1 hv).1
  have h2 := least_le h hv
  rw [List.getD_eq_getElem?_getD, List.getElem?_eq_getElem (by omega)] at p2
  refine ⟨h1, by rw [List.getElem?_eq_getElem (by omega)]; exact congrArg some p2, v[zs.length]'(by omega), List.getElem?_eq_getElem _, ?_⟩
  rw [List.getD_eq_getElem?_getD, List.getElem?_eq_getElem (by omega)] at h2
  exact h2

set_option maxHeartbeats 8000000 in
set_option maxRecDepth 100000 in
/-- The walk of a code that is not too long. -/
theorem walk1 (w : World) (hT : Tab w) (A0 : Option Addr) (n0 c0 : Nat) (hB0 : Bytes w w.heap.size A0 n0) (hbig : ¬ 4096 < n0) :
    Calls Tryd.prog 7 #[.slice A0 n0 c0] w (LawDone w) := by
  have HT := Lib.hid hT
  clear hT
  have hd : decide ((4096 : Int) < n0) = false := by simp; omega
  go_enter Tryd.func7, Tryd.ntmps7
  go_wp2_with fail
  refine (big_any A0 n0 c0 w).mono ?_
  rw [hd]
  rintro e w1 ⟨rfl, rfl⟩
  clear hd
  go_wp2_with fail
  refine (drawIP_any A0 n0 c0 w (by omega) hB0).mono ?_
  rintro e w1 ⟨v, u, zst, L, rfl, hL, hK, hO, hU, hX⟩
  have B1 := hX
  clear  hX
  obtain ⟨At, ct, rfl, hR⟩ := LstG.slice hO
  have Rt1 : Reads w1 w1.heap.size At (cells3 zst) := hR
  obtain ⟨nt, hn⟩ : ∃ q, zst.length = q := ⟨_, rfl⟩
  rw [hn] at hL ⊢
  have HNt := Lib.hid hn
  have Lt := hL
  clear hn hO hL hR
  obtain ⟨Av, cv, rfl, hcapv, Rv1⟩ := Lst.slice2 hU
  obtain ⟨nv, hn⟩ : ∃ q, L.length = q := ⟨_, rfl⟩
  rw [hn] at hK hcapv ⊢
  have HNV := Lib.hid hn
  clear hn hU
  go_wp2_with fail
  refine (ip_impl At nt ct zst Av nv cv L w1 (HT.out.later B1) HNt.out (by omega) Rt1 HNV.out (by omega) hcapv Rv1).mono ?_
  rintro e w2 ⟨rfl, hX⟩
  have Rt2 := Rt1.gr hX
  have Rv2 := Rv1.gr hX
  have B2 := B1.trans ((hX.below).mono B1.size)
  clear Rt1 Rv1 B1 hX
  go_wp2_with fail
  refine (ip_spec At nt ct zst Av nv cv L w2 HNt.out (by omega) Rt2 HNV.out (by omega) Rv2).mono ?_
  rintro e w3 ⟨rfl, hX⟩
  have Rt3 := Rt2.gr hX
  have Rv3 := Rv2.gr hX
  have B3 := B2.trans ((hX.below).mono B2.size)
  clear Rt2 Rv2 B2 hX
  go_wp2_with fail
  refine (drawDC_any A0 n0 c0 w3 (by omega) (hB0.later B3)).mono ?_
  rintro e w4 ⟨y, z, rfl, hX⟩
  have Rt4 := Rt3.below hX
  have Rv4 := Rv3.below hX
  have B4 := B3.trans (hX.mono B3.size)
  clear Rt3 Rv3 B3 hX
  have HDF := Lib.hid (dc_facts y z)
  obtain ⟨ya, yb, yc⟩ := y
  obtain ⟨za, zb, zc⟩ := z
  simp only
  have hG : Gr w4 ((w4.alloc (.cells #[vi ya, vi yb, vi yc] 60)).alloc (.cells #[vi za, vi zb, vi zc] 60)) := (by repeat (first | with_reducible exact Gr.refl _ | with_reducible refine Gr.alloc ?_ _ | with_reducible refine Gr.gr ?_ _ _ | with_reducible refine Gr.drew ?_ | with_reducible refine Gr.drewN ?_ _))
  have Rt5 := Rt4.gr hG
  have Rv5 := Rv4.gr hG
  have B5 := B4.trans (hG.below.mono B4.size)
  have Ey5 := Bk3.alloc (Bk3.new w4 ya yb yc) (.cells #[vi za, vi zb, vi zc] 60)
  have Ez5 := Bk3.two w4 ya yb yc za zb zc
  clear Rt4 Rv4 B4 hG
  go_wp2_with fail
  generalize ((w4.alloc (.cells #[vi ya, vi yb, vi yc] 60)).alloc (.cells #[vi za, vi zb, vi zc] 60)) = w5 at *
  obtain ⟨gy, hgy⟩ : ∃ q, w4.heap.size = q := ⟨_, rfl⟩
  rw [hgy] at Ey5 Ez5 ⊢
  clear hgy
  refine (dc_impl (ya, yb, yc) (za, zb, zc) w5 (HT.out.later B5)).mono ?_
  rintro e w6 ⟨rfl, hX⟩
  have Rt6 := Rt5.gr hX
  have Rv6 := Rv5.gr hX
  have Ey6 := Ey5.gr hX
  have Ez6 := Ez5.gr hX
  have B6 := B5.trans ((hX.below).mono B5.size)
  clear Rt5 Rv5 Ey5 Ez5 B5 hX
  obtain ⟨Ey0, Ey1, Ey2⟩ := Ey6.cells
  obtain ⟨Ez0, Ez1, Ez2⟩ := Ez6.cells
  go_wp2_with fail
  refine (dc_spec (ya, yb, yc) (za, zb, zc) _).mono ?_
  rintro e w7 ⟨rfl, hX⟩
  have Rt7 := Rt6.gr hX
  have Rv7 := Rv6.gr hX
  have Ey7 := Ey6.gr hX
  have Ez7 := Ez6.gr hX
  have B7 := B6.trans ((hX.below).mono B6.size)
  clear Rt6 Rv6 Ey6 Ez6 B6 hX
  clear Ey0 Ey1 Ey2 Ez0 Ez1 Ez2
  go_wp2_with fail
  refine (drawLT_any A0 n0 c0 w7 (by omega) (hB0.later B7)).mono ?_
  rintro e w8 ⟨ta, tb, tc, rfl, hX⟩
  have Rt8 := Rt7.below hX
  have Rv8 := Rv7.below hX
  have Ey8 := Ey7.below hX
  have Ez8 := Ez7.below hX
  have B8 := B7.trans (hX.mono B7.size)
  clear Rt7 Rv7 Ey7 Ez7 B7 hX
  have hG : Gr w8 (w8.alloc (.cells #[vi ta, vi tb, vi tc] 60)) := (by repeat (first | with_reducible exact Gr.refl _ | with_reducible refine Gr.alloc ?_ _ | with_reducible refine Gr.gr ?_ _ _ | with_reducible refine Gr.drew ?_ | with_reducible refine Gr.drewN ?_ _))
  have Rt9 := Rt8.gr hG
  have Rv9 := Rv8.gr hG
  have Ey9 := Ey8.gr hG
  have Ez9 := Ez8.gr hG
  have B9 := B8.trans (hG.below.mono B8.size)
  have Et9 := Bk3.new w8 ta tb tc
  clear Rt8 Rv8 Ey8 Ez8 B8 hG
  go_wp2_with fail
  generalize (w8.alloc (.cells #[vi ta, vi tb, vi tc] 60)) = w9 at *
  obtain ⟨gt, hgt⟩ : ∃ q, w8.heap.size = q := ⟨_, rfl⟩
  rw [hgt] at Et9 ⊢
  clear hgt
  refine (lt_impl (ta, tb, tc) w9 (HT.out.later B9)).mono ?_
  rintro e w10 ⟨rfl, hX⟩
  have Rt10 := Rt9.gr hX
  have Rv10 := Rv9.gr hX
  have Ey10 := Ey9.gr hX
  have Ez10 := Ez9.gr hX
  have Et10 := Et9.gr hX
  have B10 := B9.trans ((hX.below).mono B9.size)
  clear Rt9 Rv9 Ey9 Ez9 Et9 B9 hX
  obtain ⟨Et0, Et1, Et2⟩ := Et10.cells
  go_wp2_with fail
  refine (lt_spec (ta, tb, tc) _).mono ?_
  rintro e w11 ⟨rfl, hX⟩
  have Rt11 := Rt10.gr hX
  have Rv11 := Rv10.gr hX
  have Ey11 := Ey10.gr hX
  have Ez11 := Ez10.gr hX
  have Et11 := Et10.gr hX
  have B11 := B10.trans ((hX.below).mono B10.size)
  clear Rt10 Rv10 Ey10 Ez10 Et10 B10 hX
  clear Et0 Et1 Et2
  clear Et11
  have HLF := Lib.hid (lt_last (ta, tb, tc))
  have HLE := Lib.hid (pr_facts zst L)
  generalize ltV (ta, tb, tc) = S at *
  generalize ltE (ta, tb, tc) = el at *
  generalize hcv : dcV (ya, yb, yc) (za, zb, zc) = bc at *
  generalize hce : dcE (ya, yb, yc) (za, zb, zc) = ec at *
  clear hcv hce
  by_cases hb : lbE zst = 0
  · have HE := Lib.hid (HLE.out hb).1
    have HOK0 := Lib.hid (HLE.out hb).2
    rw [hb]
    cases hok : ipV zst L
    · clear HOK0
      by_cases hd : ec = 0
      · obtain ⟨d1, d2, d3, d4⟩ := HDF.out hd
        have HD1 := Lib.hid (And.intro d2 d1)
        have HD2 := Lib.hid (And.intro d4 d3)
        subst hd
        clear d1 d2 d3 d4
        by_cases hl : el = 0
        · obtain ⟨k, hk, hk1, hk2, hk3⟩ := HLF.out hl
          subst hl
          have q1 : decide ((S.size : Int) < 1) = false := decide_eq_false (by omega)
          have q2 : decide (4 < (S.size : Int)) = false := decide_eq_false (by omega)
          have q3 : IntKind.i64.wrap ((S.size : Int) - 1) = (k : Int) := by rw [show (S.size : Int) - 1 = k by omega]; exact IntWalk.i64_in _ (by omega)
          have q4 : ((S[k].toNat : Int) == 48) = false := by simp; omega
          have q5 : (0 : Int) ≤ (k : Int) := by omega
          have q6 : (k : Int) < (S.size : Int) := by omega
          clear hk1 hk2 hk3
          obtain ⟨Ey0, Ey1, Ey2⟩ := Ey11.cells
          obtain ⟨Ez0, Ez1, Ez2⟩ := Ez11.cells
          go_wp2_with fail
          refine (dc_impl (za, zb, zc) (ya, yb, yc) _ (HT.out.later B11)).mono ?_
          rintro e w12 ⟨rfl, hX⟩
          have Rt12 := Rt11.gr hX
          have Rv12 := Rv11.gr hX
          have Ey12 := Ey11.gr hX
          have Ez12 := Ez11.gr hX
          have B12 := B11.trans ((hX.below).mono B11.size)
          clear Rt11 Rv11 Ey11 Ez11 B11 hX
          rw [HD1.out.1, HD1.out.2]
          clear Ey0 Ey1 Ey2 Ez0 Ez1 Ez2
          obtain ⟨Ey0, Ey1, Ey2⟩ := Ey12.cells
          go_wp2_with fail
          refine (dc_impl (ya, yb, yc) (ya, yb, yc) _ (HT.out.later B12)).mono ?_
          rintro e w13 ⟨rfl, hX⟩
          have Rt13 := Rt12.gr hX
          have Rv13 := Rv12.gr hX
          have Ey13 := Ey12.gr hX
          have Ez13 := Ez12.gr hX
          have B13 := B12.trans ((hX.below).mono B12.size)
          clear Rt12 Rv12 Ey12 Ez12 B12 hX
          rw [HD2.out.1, HD2.out.2]
          clear Ey0 Ey1 Ey2
          go_wp2_with fail
          refine (pf_impl At nt ct zst w13 (HT.out.later B13) HNt.out (by omega) Rt13).mono ?_
          rintro e w14 ⟨⟨v, rfl, hv⟩, hX⟩
          have hX0 := hX
          have Rt14 := Rt13.below hX
          have Rv14 := Rv13.below hX
          have Ey14 := Ey13.below hX
          have Ez14 := Ez13.below hX
          have B14 := B13.trans (hX.mono B13.size)
          clear Rt13 Rv13 Ey13 Ez13 B13 hX
          rw [HE.out.1]
          obtain ⟨Ap, cp, rfl, hcapp, Rp14⟩ := Lst.slice2 hv
          have hpl : (pfL zst).length = nt + 1 := by rw [HE.out.2.2.1, HNt.out]
          rw [hpl] at hcapp ⊢
          clear hv hX0
          go_wp2_with fail
          refine (ip_impl At nt ct zst Ap (nt + 1) cp (pfL zst) w14 (HT.out.later B14) HNt.out (by omega) Rt14 hpl (by omega) hcapp Rp14).mono ?_
          rintro e w15 ⟨rfl, hX⟩
          have Rt15 := Rt14.gr hX
          have Rv15 := Rv14.gr hX
          have Ey15 := Ey14.gr hX
          have Ez15 := Ez14.gr hX
          have Rp15 := Rp14.gr hX
          have B15 := B14.trans ((hX.below).mono B14.size)
          clear Rt14 Rv14 Ey14 Ez14 Rp14 B14 hX
          rw [HE.out.1, HE.out.2.1]
          go_wp2_with fail
          go_quiet (fail)
          go_wp2_with fail
          go_ret
          exact ⟨rfl, (B15).trans ((Gr.below (show Gr w15 (w15.drewN nq) from (Gr.refl _).drewN nq)).mono (B15).size)⟩
        · have hl0 : (el == 0) = false := by simpa using hl
          obtain ⟨Ey0, Ey1, Ey2⟩ := Ey11.cells
          obtain ⟨Ez0, Ez1, Ez2⟩ := Ez11.cells
          go_wp2_with fail
          refine (dc_impl (za, zb, zc) (ya, yb, yc) _ (HT.out.later B11)).mono ?_
          rintro e w12 ⟨rfl, hX⟩
          have Rt12 := Rt11.gr hX
          have Rv12 := Rv11.gr hX
          have Ey12 := Ey11.gr hX
          have Ez12 := Ez11.gr hX
          have B12 := B11.trans ((hX.below).mono B11.size)
          clear Rt11 Rv11 Ey11 Ez11 B11 hX
          rw [HD1.out.1, HD1.out.2]
          clear Ey0 Ey1 Ey2 Ez0 Ez1 Ez2
          obtain ⟨Ey0, Ey1, Ey2⟩ := Ey12.cells
          go_wp2_with fail
          refine (dc_impl (ya, yb, yc) (ya, yb, yc) _ (HT.out.later B12)).mono ?_
          rintro e w13 ⟨rfl, hX⟩
          have Rt13 := Rt12.gr hX
          have Rv13 := Rv12.gr hX
          have Ey13 := Ey12.gr hX
          have Ez13 := Ez12.gr hX
          have B13 := B12.trans ((hX.below).mono B12.size)
          clear Rt12 Rv12 Ey12 Ez12 B12 hX
          rw [HD2.out.1, HD2.out.2]
          clear Ey0 Ey1 Ey2
          go_wp2_with fail
          refine (pf_impl At nt ct zst w13 (HT.out.later B13) HNt.out (by omega) Rt13).mono ?_
          rintro e w14 ⟨⟨v, rfl, hv⟩, hX⟩
          have hX0 := hX
          have Rt14 := Rt13.below hX
          have Rv14 := Rv13.below hX
          have Ey14 := Ey13.below hX
          have Ez14 := Ez13.below hX
          have B14 := B13.trans (hX.mono B13.size)
          clear Rt13 Rv13 Ey13 Ez13 B13 hX
          rw [HE.out.1]
          obtain ⟨Ap, cp, rfl, hcapp, Rp14⟩ := Lst.slice2 hv
          have hpl : (pfL zst).length = nt + 1 := by rw [HE.out.2.2.1, HNt.out]
          rw [hpl] at hcapp ⊢
          clear hv hX0
          go_wp2_with fail
          refine (ip_impl At nt ct zst Ap (nt + 1) cp (pfL zst) w14 (HT.out.later B14) HNt.out (by omega) Rt14 hpl (by omega) hcapp Rp14).mono ?_
          rintro e w15 ⟨rfl, hX⟩
          have Rt15 := Rt14.gr hX
          have Rv15 := Rv14.gr hX
          have Ey15 := Ey14.gr hX
          have Ez15 := Ez14.gr hX
          have Rp15 := Rp14.gr hX
          have B15 := B14.trans ((hX.below).mono B14.size)
          clear Rt14 Rv14 Ey14 Ez14 Rp14 B14 hX
          rw [HE.out.1, HE.out.2.1]
          go_wp2_with fail
          go_quiet (fail)
          go_wp2_with fail
          go_ret
          exact ⟨rfl, (B15).trans ((Gr.below (show Gr w15 (w15.drewN nq) from (Gr.refl _).drewN nq)).mono (B15).size)⟩
      · have hd0 : (ec == 0) = false := by simpa using hd
        by_cases hl : el = 0
        · obtain ⟨k, hk, hk1, hk2, hk3⟩ := HLF.out hl
          subst hl
          have q1 : decide ((S.size : Int) < 1) = false := decide_eq_false (by omega)
          have q2 : decide (4 < (S.size : Int)) = false := decide_eq_false (by omega)
          have q3 : IntKind.i64.wrap ((S.size : Int) - 1) = (k : Int) := by rw [show (S.size : Int) - 1 = k by omega]; exact IntWalk.i64_in _ (by omega)
          have q4 : ((S[k].toNat : Int) == 48) = false := by simp; omega
          have q5 : (0 : Int) ≤ (k : Int) := by omega
          have q6 : (k : Int) < (S.size : Int) := by omega
          clear hk1 hk2 hk3
          go_wp2_with fail
          refine (pf_impl At nt ct zst w11 (HT.out.later B11) HNt.out (by omega) Rt11).mono ?_
          rintro e w12 ⟨⟨v, rfl, hv⟩, hX⟩
          have hX0 := hX
          have Rt12 := Rt11.below hX
          have Rv12 := Rv11.below hX
          have Ey12 := Ey11.below hX
          have Ez12 := Ez11.below hX
          have B12 := B11.trans (hX.mono B11.size)
          clear Rt11 Rv11 Ey11 Ez11 B11 hX
          rw [HE.out.1]
          obtain ⟨Ap, cp, rfl, hcapp, Rp12⟩ := Lst.slice2 hv
          have hpl : (pfL zst).length = nt + 1 := by rw [HE.out.2.2.1, HNt.out]
          rw [hpl] at hcapp ⊢
          clear hv hX0
          go_wp2_with fail
          refine (ip_impl At nt ct zst Ap (nt + 1) cp (pfL zst) w12 (HT.out.later B12) HNt.out (by omega) Rt12 hpl (by omega) hcapp Rp12).mono ?_
          rintro e w13 ⟨rfl, hX⟩
          have Rt13 := Rt12.gr hX
          have Rv13 := Rv12.gr hX
          have Ey13 := Ey12.gr hX
          have Ez13 := Ez12.gr hX
          have Rp13 := Rp12.gr hX
          have B13 := B12.trans ((hX.below).mono B12.size)
          clear Rt12 Rv12 Ey12 Ez12 Rp12 B12 hX
          rw [HE.out.1, HE.out.2.1]
          go_wp2_with fail
          go_quiet (fail)
          go_wp2_with fail
          go_ret
          exact ⟨rfl, (B13).trans ((Gr.below (show Gr w13 (w13.drewN nq) from (Gr.refl _).drewN nq)).mono (B13).size)⟩
        · have hl0 : (el == 0) = false := by simpa using hl
          go_wp2_with fail
          refine (pf_impl At nt ct zst w11 (HT.out.later B11) HNt.out (by omega) Rt11).mono ?_
          rintro e w12 ⟨⟨v, rfl, hv⟩, hX⟩
          have hX0 := hX
          have Rt12 := Rt11.below hX
          have Rv12 := Rv11.below hX
          have Ey12 := Ey11.below hX
          have Ez12 := Ez11.below hX
          have B12 := B11.trans (hX.mono B11.size)
          clear Rt11 Rv11 Ey11 Ez11 B11 hX
          rw [HE.out.1]
          obtain ⟨Ap, cp, rfl, hcapp, Rp12⟩ := Lst.slice2 hv
          have hpl : (pfL zst).length = nt + 1 := by rw [HE.out.2.2.1, HNt.out]
          rw [hpl] at hcapp ⊢
          clear hv hX0
          go_wp2_with fail
          refine (ip_impl At nt ct zst Ap (nt + 1) cp (pfL zst) w12 (HT.out.later B12) HNt.out (by omega) Rt12 hpl (by omega) hcapp Rp12).mono ?_
          rintro e w13 ⟨rfl, hX⟩
          have Rt13 := Rt12.gr hX
          have Rv13 := Rv12.gr hX
          have Ey13 := Ey12.gr hX
          have Ez13 := Ez12.gr hX
          have Rp13 := Rp12.gr hX
          have B13 := B12.trans ((hX.below).mono B12.size)
          clear Rt12 Rv12 Ey12 Ez12 Rp12 B12 hX
          rw [HE.out.1, HE.out.2.1]
          go_wp2_with fail
          go_quiet (fail)
          go_wp2_with fail
          go_ret
          exact ⟨rfl, (B13).trans ((Gr.below (show Gr w13 (w13.drewN nq) from (Gr.refl _).drewN nq)).mono (B13).size)⟩
    · have HOK := Lib.hid (HOK0.out hok)
      by_cases hd : ec = 0
      · obtain ⟨d1, d2, d3, d4⟩ := HDF.out hd
        have HD1 := Lib.hid (And.intro d2 d1)
        have HD2 := Lib.hid (And.intro d4 d3)
        subst hd
        clear d1 d2 d3 d4
        by_cases hl : el = 0
        · obtain ⟨k, hk, hk1, hk2, hk3⟩ := HLF.out hl
          subst hl
          have q1 : decide ((S.size : Int) < 1) = false := decide_eq_false (by omega)
          have q2 : decide (4 < (S.size : Int)) = false := decide_eq_false (by omega)
          have q3 : IntKind.i64.wrap ((S.size : Int) - 1) = (k : Int) := by rw [show (S.size : Int) - 1 = k by omega]; exact IntWalk.i64_in _ (by omega)
          have q4 : ((S[k].toNat : Int) == 48) = false := by simp; omega
          have q5 : (0 : Int) ≤ (k : Int) := by omega
          have q6 : (k : Int) < (S.size : Int) := by omega
          clear hk1 hk2 hk3
          obtain ⟨Ey0, Ey1, Ey2⟩ := Ey11.cells
          obtain ⟨Ez0, Ez1, Ez2⟩ := Ez11.cells
          go_wp2_with fail
          refine (dc_impl (za, zb, zc) (ya, yb, yc) _ (HT.out.later B11)).mono ?_
          rintro e w12 ⟨rfl, hX⟩
          have Rt12 := Rt11.gr hX
          have Rv12 := Rv11.gr hX
          have Ey12 := Ey11.gr hX
          have Ez12 := Ez11.gr hX
          have B12 := B11.trans ((hX.below).mono B11.size)
          clear Rt11 Rv11 Ey11 Ez11 B11 hX
          rw [HD1.out.1, HD1.out.2]
          clear Ey0 Ey1 Ey2 Ez0 Ez1 Ez2
          obtain ⟨Ey0, Ey1, Ey2⟩ := Ey12.cells
          go_wp2_with fail
          refine (dc_impl (ya, yb, yc) (ya, yb, yc) _ (HT.out.later B12)).mono ?_
          rintro e w13 ⟨rfl, hX⟩
          have Rt13 := Rt12.gr hX
          have Rv13 := Rv12.gr hX
          have Ey13 := Ey12.gr hX
          have Ez13 := Ez12.gr hX
          have B13 := B12.trans ((hX.below).mono B12.size)
          clear Rt12 Rv12 Ey12 Ez12 B12 hX
          rw [HD2.out.1, HD2.out.2]
          clear Ey0 Ey1 Ey2
          go_wp2_with fail
          refine (pf_impl At nt ct zst w13 (HT.out.later B13) HNt.out (by omega) Rt13).mono ?_
          rintro e w14 ⟨⟨v, rfl, hv⟩, hX⟩
          have hX0 := hX
          have Rt14 := Rt13.below hX
          have Rv14 := Rv13.below hX
          have Ey14 := Ey13.below hX
          have Ez14 := Ez13.below hX
          have B14 := B13.trans (hX.mono B13.size)
          clear Rt13 Rv13 Ey13 Ez13 B13 hX
          rw [HE.out.1]
          obtain ⟨Ap, cp, rfl, hcapp, Rp14⟩ := Lst.slice2 hv
          have hpl : (pfL zst).length = nt + 1 := by rw [HE.out.2.2.1, HNt.out]
          rw [hpl] at hcapp ⊢
          clear hv hX0
          go_wp2_with fail
          refine (ip_impl At nt ct zst Ap (nt + 1) cp (pfL zst) w14 (HT.out.later B14) HNt.out (by omega) Rt14 hpl (by omega) hcapp Rp14).mono ?_
          rintro e w15 ⟨rfl, hX⟩
          have Rt15 := Rt14.gr hX
          have Rv15 := Rv14.gr hX
          have Ey15 := Ey14.gr hX
          have Ez15 := Ez14.gr hX
          have Rp15 := Rp14.gr hX
          have B15 := B14.trans ((hX.below).mono B14.size)
          clear Rt14 Rv14 Ey14 Ez14 Rp14 B14 hX
          rw [HE.out.1, HE.out.2.1]
          obtain ⟨f1, f2, x, f3, f4⟩ := HOK.out
          rw [HNt.out] at f3 f2
          obtain ⟨gv, ov, rfl, hgv, hcv⟩ := (Rv15).at_ (map_at f3)
          obtain ⟨gp, op, rfl, hgp, hcp⟩ := (Rp15).at_ (map_at f2)
          have hnv : nv = nt + 1 := by rw [← HNV.out, f1, HNt.out]
          have hn1 : (nt : Int) < (nv : Int) := by omega
          have hn2 : (0 : Int) ≤ (nt : Int) := by omega
          have hn3 : (nt : Int) < (nt : Int) + 1 := by omega
          have hle : decide (mostW zst ≤ x) = true := decide_eq_true f4
          generalize mostW zst = M at *
          clear f1 f2 f3 f4 hnv
          go_wp2_with fail
          go_quiet (fail)
          go_wp2_with fail
          go_ret
          exact ⟨rfl, (B15).trans ((Gr.below (show Gr w15 (w15.drewN nq) from (Gr.refl _).drewN nq)).mono (B15).size)⟩
        · have hl0 : (el == 0) = false := by simpa using hl
          obtain ⟨Ey0, Ey1, Ey2⟩ := Ey11.cells
          obtain ⟨Ez0, Ez1, Ez2⟩ := Ez11.cells
          go_wp2_with fail
          refine (dc_impl (za, zb, zc) (ya, yb, yc) _ (HT.out.later B11)).mono ?_
          rintro e w12 ⟨rfl, hX⟩
          have Rt12 := Rt11.gr hX
          have Rv12 := Rv11.gr hX
          have Ey12 := Ey11.gr hX
          have Ez12 := Ez11.gr hX
          have B12 := B11.trans ((hX.below).mono B11.size)
          clear Rt11 Rv11 Ey11 Ez11 B11 hX
          rw [HD1.out.1, HD1.out.2]
          clear Ey0 Ey1 Ey2 Ez0 Ez1 Ez2
          obtain ⟨Ey0, Ey1, Ey2⟩ := Ey12.cells
          go_wp2_with fail
          refine (dc_impl (ya, yb, yc) (ya, yb, yc) _ (HT.out.later B12)).mono ?_
          rintro e w13 ⟨rfl, hX⟩
          have Rt13 := Rt12.gr hX
          have Rv13 := Rv12.gr hX
          have Ey13 := Ey12.gr hX
          have Ez13 := Ez12.gr hX
          have B13 := B12.trans ((hX.below).mono B12.size)
          clear Rt12 Rv12 Ey12 Ez12 B12 hX
          rw [HD2.out.1, HD2.out.2]
          clear Ey0 Ey1 Ey2
          go_wp2_with fail
          refine (pf_impl At nt ct zst w13 (HT.out.later B13) HNt.out (by omega) Rt13).mono ?_
          rintro e w14 ⟨⟨v, rfl, hv⟩, hX⟩
          have hX0 := hX
          have Rt14 := Rt13.below hX
          have Rv14 := Rv13.below hX
          have Ey14 := Ey13.below hX
          have Ez14 := Ez13.below hX
          have B14 := B13.trans (hX.mono B13.size)
          clear Rt13 Rv13 Ey13 Ez13 B13 hX
          rw [HE.out.1]
          obtain ⟨Ap, cp, rfl, hcapp, Rp14⟩ := Lst.slice2 hv
          have hpl : (pfL zst).length = nt + 1 := by rw [HE.out.2.2.1, HNt.out]
          rw [hpl] at hcapp ⊢
          clear hv hX0
          go_wp2_with fail
          refine (ip_impl At nt ct zst Ap (nt + 1) cp (pfL zst) w14 (HT.out.later B14) HNt.out (by omega) Rt14 hpl (by omega) hcapp Rp14).mono ?_
          rintro e w15 ⟨rfl, hX⟩
          have Rt15 := Rt14.gr hX
          have Rv15 := Rv14.gr hX
          have Ey15 := Ey14.gr hX
          have Ez15 := Ez14.gr hX
          have Rp15 := Rp14.gr hX
          have B15 := B14.trans ((hX.below).mono B14.size)
          clear Rt14 Rv14 Ey14 Ez14 Rp14 B14 hX
          rw [HE.out.1, HE.out.2.1]
          obtain ⟨f1, f2, x, f3, f4⟩ := HOK.out
          rw [HNt.out] at f3 f2
          obtain ⟨gv, ov, rfl, hgv, hcv⟩ := (Rv15).at_ (map_at f3)
          obtain ⟨gp, op, rfl, hgp, hcp⟩ := (Rp15).at_ (map_at f2)
          have hnv : nv = nt + 1 := by rw [← HNV.out, f1, HNt.out]
          have hn1 : (nt : Int) < (nv : Int) := by omega
          have hn2 : (0 : Int) ≤ (nt : Int) := by omega
          have hn3 : (nt : Int) < (nt : Int) + 1 := by omega
          have hle : decide (mostW zst ≤ x) = true := decide_eq_true f4
          generalize mostW zst = M at *
          clear f1 f2 f3 f4 hnv
          go_wp2_with fail
          go_quiet (fail)
          go_wp2_with fail
          go_ret
          exact ⟨rfl, (B15).trans ((Gr.below (show Gr w15 (w15.drewN nq) from (Gr.refl _).drewN nq)).mono (B15).size)⟩
      · have hd0 : (ec == 0) = false := by simpa using hd
        by_cases hl : el = 0
        · obtain ⟨k, hk, hk1, hk2, hk3⟩ := HLF.out hl
          subst hl
          have q1 : decide ((S.size : Int) < 1) = false := decide_eq_false (by omega)
          have q2 : decide (4 < (S.size : Int)) = false := decide_eq_false (by omega)
          have q3 : IntKind.i64.wrap ((S.size : Int) - 1) = (k : Int) := by rw [show (S.size : Int) - 1 = k by omega]; exact IntWalk.i64_in _ (by omega)
          have q4 : ((S[k].toNat : Int) == 48) = false := by simp; omega
          have q5 : (0 : Int) ≤ (k : Int) := by omega
          have q6 : (k : Int) < (S.size : Int) := by omega
          clear hk1 hk2 hk3
          go_wp2_with fail
          refine (pf_impl At nt ct zst w11 (HT.out.later B11) HNt.out (by omega) Rt11).mono ?_
          rintro e w12 ⟨⟨v, rfl, hv⟩, hX⟩
          have hX0 := hX
          have Rt12 := Rt11.below hX
          have Rv12 := Rv11.below hX
          have Ey12 := Ey11.below hX
          have Ez12 := Ez11.below hX
          have B12 := B11.trans (hX.mono B11.size)
          clear Rt11 Rv11 Ey11 Ez11 B11 hX
          rw [HE.out.1]
          obtain ⟨Ap, cp, rfl, hcapp, Rp12⟩ := Lst.slice2 hv
          have hpl : (pfL zst).length = nt + 1 := by rw [HE.out.2.2.1, HNt.out]
          rw [hpl] at hcapp ⊢
          clear hv hX0
          go_wp2_with fail
          refine (ip_impl At nt ct zst Ap (nt + 1) cp (pfL zst) w12 (HT.out.later B12) HNt.out (by omega) Rt12 hpl (by omega) hcapp Rp12).mono ?_
          rintro e w13 ⟨rfl, hX⟩
          have Rt13 := Rt12.gr hX
          have Rv13 := Rv12.gr hX
          have Ey13 := Ey12.gr hX
          have Ez13 := Ez12.gr hX
          have Rp13 := Rp12.gr hX
          have B13 := B12.trans ((hX.below).mono B12.size)
          clear Rt12 Rv12 Ey12 Ez12 Rp12 B12 hX
          rw [HE.out.1, HE.out.2.1]
          obtain ⟨f1, f2, x, f3, f4⟩ := HOK.out
          rw [HNt.out] at f3 f2
          obtain ⟨gv, ov, rfl, hgv, hcv⟩ := (Rv13).at_ (map_at f3)
          obtain ⟨gp, op, rfl, hgp, hcp⟩ := (Rp13).at_ (map_at f2)
          have hnv : nv = nt + 1 := by rw [← HNV.out, f1, HNt.out]
          have hn1 : (nt : Int) < (nv : Int) := by omega
          have hn2 : (0 : Int) ≤ (nt : Int) := by omega
          have hn3 : (nt : Int) < (nt : Int) + 1 := by omega
          have hle : decide (mostW zst ≤ x) = true := decide_eq_true f4
          generalize mostW zst = M at *
          clear f1 f2 f3 f4 hnv
          go_wp2_with fail
          go_quiet (fail)
          go_wp2_with fail
          go_ret
          exact ⟨rfl, (B13).trans ((Gr.below (show Gr w13 (w13.drewN nq) from (Gr.refl _).drewN nq)).mono (B13).size)⟩
        · have hl0 : (el == 0) = false := by simpa using hl
          go_wp2_with fail
          refine (pf_impl At nt ct zst w11 (HT.out.later B11) HNt.out (by omega) Rt11).mono ?_
          rintro e w12 ⟨⟨v, rfl, hv⟩, hX⟩
          have hX0 := hX
          have Rt12 := Rt11.below hX
          have Rv12 := Rv11.below hX
          have Ey12 := Ey11.below hX
          have Ez12 := Ez11.below hX
          have B12 := B11.trans (hX.mono B11.size)
          clear Rt11 Rv11 Ey11 Ez11 B11 hX
          rw [HE.out.1]
          obtain ⟨Ap, cp, rfl, hcapp, Rp12⟩ := Lst.slice2 hv
          have hpl : (pfL zst).length = nt + 1 := by rw [HE.out.2.2.1, HNt.out]
          rw [hpl] at hcapp ⊢
          clear hv hX0
          go_wp2_with fail
          refine (ip_impl At nt ct zst Ap (nt + 1) cp (pfL zst) w12 (HT.out.later B12) HNt.out (by omega) Rt12 hpl (by omega) hcapp Rp12).mono ?_
          rintro e w13 ⟨rfl, hX⟩
          have Rt13 := Rt12.gr hX
          have Rv13 := Rv12.gr hX
          have Ey13 := Ey12.gr hX
          have Ez13 := Ez12.gr hX
          have Rp13 := Rp12.gr hX
          have B13 := B12.trans ((hX.below).mono B12.size)
          clear Rt12 Rv12 Ey12 Ez12 Rp12 B12 hX
          rw [HE.out.1, HE.out.2.1]
          obtain ⟨f1, f2, x, f3, f4⟩ := HOK.out
          rw [HNt.out] at f3 f2
          obtain ⟨gv, ov, rfl, hgv, hcv⟩ := (Rv13).at_ (map_at f3)
          obtain ⟨gp, op, rfl, hgp, hcp⟩ := (Rp13).at_ (map_at f2)
          have hnv : nv = nt + 1 := by rw [← HNV.out, f1, HNt.out]
          have hn1 : (nt : Int) < (nv : Int) := by omega
          have hn2 : (0 : Int) ≤ (nt : Int) := by omega
          have hn3 : (nt : Int) < (nt : Int) + 1 := by omega
          have hle : decide (mostW zst ≤ x) = true := decide_eq_true f4
          generalize mostW zst = M at *
          clear f1 f2 f3 f4 hnv
          go_wp2_with fail
          go_quiet (fail)
          go_wp2_with fail
          go_ret
          exact ⟨rfl, (B13).trans ((Gr.below (show Gr w13 (w13.drewN nq) from (Gr.refl _).drewN nq)).mono (B13).size)⟩
  · have hb0 : (lbE zst == 0) = false := by simpa using hb
    generalize lbE zst = eb at *
    generalize ipV zst L = okv at *
    by_cases hd : ec = 0
    · obtain ⟨d1, d2, d3, d4⟩ := HDF.out hd
      have HD1 := Lib.hid (And.intro d2 d1)
      have HD2 := Lib.hid (And.intro d4 d3)
      subst hd
      clear d1 d2 d3 d4
      by_cases hl : el = 0
      · obtain ⟨k, hk, hk1, hk2, hk3⟩ := HLF.out hl
        subst hl
        have q1 : decide ((S.size : Int) < 1) = false := decide_eq_false (by omega)
        have q2 : decide (4 < (S.size : Int)) = false := decide_eq_false (by omega)
        have q3 : IntKind.i64.wrap ((S.size : Int) - 1) = (k : Int) := by rw [show (S.size : Int) - 1 = k by omega]; exact IntWalk.i64_in _ (by omega)
        have q4 : ((S[k].toNat : Int) == 48) = false := by simp; omega
        have q5 : (0 : Int) ≤ (k : Int) := by omega
        have q6 : (k : Int) < (S.size : Int) := by omega
        clear hk1 hk2 hk3
        obtain ⟨Ey0, Ey1, Ey2⟩ := Ey11.cells
        obtain ⟨Ez0, Ez1, Ez2⟩ := Ez11.cells
        go_wp2_with fail
        refine (dc_impl (za, zb, zc) (ya, yb, yc) _ (HT.out.later B11)).mono ?_
        rintro e w12 ⟨rfl, hX⟩
        have Rt12 := Rt11.gr hX
        have Rv12 := Rv11.gr hX
        have Ey12 := Ey11.gr hX
        have Ez12 := Ez11.gr hX
        have B12 := B11.trans ((hX.below).mono B11.size)
        clear Rt11 Rv11 Ey11 Ez11 B11 hX
        rw [HD1.out.1, HD1.out.2]
        clear Ey0 Ey1 Ey2 Ez0 Ez1 Ez2
        obtain ⟨Ey0, Ey1, Ey2⟩ := Ey12.cells
        go_wp2_with fail
        refine (dc_impl (ya, yb, yc) (ya, yb, yc) _ (HT.out.later B12)).mono ?_
        rintro e w13 ⟨rfl, hX⟩
        have Rt13 := Rt12.gr hX
        have Rv13 := Rv12.gr hX
        have Ey13 := Ey12.gr hX
        have Ez13 := Ez12.gr hX
        have B13 := B12.trans ((hX.below).mono B12.size)
        clear Rt12 Rv12 Ey12 Ez12 B12 hX
        rw [HD2.out.1, HD2.out.2]
        clear Ey0 Ey1 Ey2
        go_wp2_with fail
        go_ret
        exact ⟨rfl, B13⟩
      · have hl0 : (el == 0) = false := by simpa using hl
        obtain ⟨Ey0, Ey1, Ey2⟩ := Ey11.cells
        obtain ⟨Ez0, Ez1, Ez2⟩ := Ez11.cells
        go_wp2_with fail
        refine (dc_impl (za, zb, zc) (ya, yb, yc) _ (HT.out.later B11)).mono ?_
        rintro e w12 ⟨rfl, hX⟩
        have Rt12 := Rt11.gr hX
        have Rv12 := Rv11.gr hX
        have Ey12 := Ey11.gr hX
        have Ez12 := Ez11.gr hX
        have B12 := B11.trans ((hX.below).mono B11.size)
        clear Rt11 Rv11 Ey11 Ez11 B11 hX
        rw [HD1.out.1, HD1.out.2]
        clear Ey0 Ey1 Ey2 Ez0 Ez1 Ez2
        obtain ⟨Ey0, Ey1, Ey2⟩ := Ey12.cells
        go_wp2_with fail
        refine (dc_impl (ya, yb, yc) (ya, yb, yc) _ (HT.out.later B12)).mono ?_
        rintro e w13 ⟨rfl, hX⟩
        have Rt13 := Rt12.gr hX
        have Rv13 := Rv12.gr hX
        have Ey13 := Ey12.gr hX
        have Ez13 := Ez12.gr hX
        have B13 := B12.trans ((hX.below).mono B12.size)
        clear Rt12 Rv12 Ey12 Ez12 B12 hX
        rw [HD2.out.1, HD2.out.2]
        clear Ey0 Ey1 Ey2
        go_wp2_with fail
        go_ret
        exact ⟨rfl, B13⟩
    · have hd0 : (ec == 0) = false := by simpa using hd
      by_cases hl : el = 0
      · obtain ⟨k, hk, hk1, hk2, hk3⟩ := HLF.out hl
        subst hl
        have q1 : decide ((S.size : Int) < 1) = false := decide_eq_false (by omega)
        have q2 : decide (4 < (S.size : Int)) = false := decide_eq_false (by omega)
        have q3 : IntKind.i64.wrap ((S.size : Int) - 1) = (k : Int) := by rw [show (S.size : Int) - 1 = k by omega]; exact IntWalk.i64_in _ (by omega)
        have q4 : ((S[k].toNat : Int) == 48) = false := by simp; omega
        have q5 : (0 : Int) ≤ (k : Int) := by omega
        have q6 : (k : Int) < (S.size : Int) := by omega
        clear hk1 hk2 hk3
        go_wp2_with fail
        go_ret
        exact ⟨rfl, B11⟩
      · have hl0 : (el == 0) = false := by simpa using hl
        go_wp2_with fail
        go_ret
        exact ⟨rfl, B11⟩

set_option maxHeartbeats 4000000 in
set_option maxRecDepth 100000 in
theorem walk (w : World) (hL : laidMet Tryd.prog Rows.fnProofsRow.laid w) (A0 : Option Addr) (n0 c0 : Nat) (hB0 : Bytes w w.heap.size A0 n0) :
    Calls Tryd.prog 7 #[.slice A0 n0 c0] w (LawDone w) := by
  have hT := tab hL
  clear hL
  by_cases hbig : 4096 < n0
  · have hd : decide ((4096 : Int) < n0) = true := by simp; omega
    go_enter Tryd.func7, Tryd.ntmps7
    go_wp2_with fail
    refine (big_any A0 n0 c0 w).mono ?_
    rw [hd]
    rintro e w1 ⟨rfl, rfl⟩
    go_wp2_with fail
    go_ret
    exact ⟨rfl, Below.refl _ _⟩
  · exact walk1 w hT A0 n0 c0 hB0 hbig

set_option maxRecDepth 100000 in
theorem lifted (os : Os) (started : os.Started) (H : Type) (enc : TypeId × Value → H) :
    ReturnsInHanded {} Tryd.checked os 7 .any (fun w args => (Rows.fnProofsSpec.pre enc Tryd.prog Tryd.f7 Rows.fnProofsRow.domain false w args ∧ laidMetH Tryd.prog Rows.fnProofsRow.laid w) ∧ sizedMet enc Tryd.prog Tryd.f7 (OpenSpec.ofChange Rows.fnProofsSpec) false w args) (Rows.fnProofsSpec.post enc Tryd.prog Tryd.f7 false true false false) := by
  refine returnsInHanded_of_change_and (C := Tryd.checked) (X := fun w _ => laidMetH Tryd.prog Rows.fnProofsRow.laid w) (fun _ _ _ hh h => h.of_heap hh) own started (by kernel_rfl) Tryd.func7
    (ChangeSpec.witness_shaped (enc := enc) (C := Tryd.checked) (os := os) (X := fun w _ => laidMetH Tryd.prog Rows.fnProofsRow.laid w) false (World.laidAll Tryd.prog os Rows.fnProofsRow.laid) #[.slice none 0 0] 8 (World.laidAll_os _ _ _)
      (World.shaped_of_ZipB (by kernel_rfl) (by kernel_rfl)) (by kernel_rfl) (by kernel_rfl) (by kernel_rfl)
      (by rw [MakeChecks.laidMetH_plain _ _ _ (by kernel_rfl)]; exact laidMet_laidAll _ (by kernel_rfl) (by kernel_rfl))) ?_
  intro W base args ds gs before hval0 hW _ _ hL _
  rw [MakeChecks.laidMetH_plain _ _ _ (by kernel_rfl)] at hL
  have hval : ∀ (j : Nat) t v, Tryd.f7.params[j]? = some t → args[j]? = some v → Value.okWide Tryd.prog W .any base t v := hval0
  have hW' := hW
  obtain ⟨p, q, hA0, hV, hpq, hfz, hnd⟩ := hW
  have hA : DataW.TrodAll enc Tryd.prog W 0 (fun _ => true) true Tryd.f7.params.toList args.toList ds p := hA0
  have hT := hA
  obtain ⟨rfl, rfl⟩ := trodVars_none hV
  rw [Tryd.params7] at hA hval
  obtain ⟨v0, vs0, d0, ds0, p0, q0, hargs, rfl, rfl, h0, r0⟩ := trodAll_cons hA
  obtain ⟨rfl, rfl, rfl⟩ := trodAll_nil r0
  obtain rfl : args = #[v0] := by cases args; simp_all
  obtain ⟨A0, n0, c0, rfl, -, hB0⟩ := open_code Tryd.underlying22 Tryd.underlying5 (by kernel_rfl) (hval 0 22 v0 rfl rfl) h0
  clear hA0 hval0
  refine (walk W hL A0 n0 c0 hB0).mono fun e W' ⟨he, hb⟩ => ?_
  subst he
  exact ⟨_, rfl, law_post laidOut hW' hT hpq (by kernel_rfl) (fun _ _ => rfl) rfl rfl rfl Tryd.underlying4 hb⟩

theorem over : Rows.fnProofsRow.holds Tryd.pinned (OpenSpec.ofChange Rows.fnProofsSpec) :=
  OpenClaim.holds_of_wide 7 Tryd.f7 rfl rfl rfl rfl rfl rfl rfl ⟨rfl, rfl, rfl, rfl, rfl⟩ rfl rfl rfl rfl rfl (by kernel_rfl) Tryd.func7 (by kernel_rfl)
    (of_decide_eq_true (by kernel_rfl)) (by unfold Func.isWrapper; first | (rw [if_pos (by decide +kernel)]; kernel_rfl) | (rw [if_neg (by decide +kernel)]; exact ⟨rfl, rfl⟩))
    (fun os started H enc _ => lifted os started H enc)

theorem proved : Rows.FnProofsCardSaid :=
  Claim7.holds_tied_plain_at .later [] Rows.fnProofsCard.laidKinds true Rows.fnProofsCard.stood.harness Rows.fnProofsCard.stood.looks
    over (fun _ h => by cases h) (by kernel_rfl) (fun _ h => by cases h) fnProofs_row_tie rfl ⟨rfl, rfl⟩ (by kernel_rfl) rfl
    (fun f fn hf hfn => by
      obtain rfl : f = 7 := Option.some.inj ((show Tryd.prog.funcNamed Rows.fnProofsRow.func = some 7 by kernel_rfl).symm.trans hf) |>.symm
      obtain rfl : fn = Tryd.f7 := (Option.some.inj (Tryd.func7.symm.trans hfn)).symm
      exact ⟨by kernel_rfl, fun j t ht => by
        rw [Tryd.params7] at ht
        have hm : t ∈ [22] := by simpa using Array.mem_of_getElem? ht
        have hall : ([22].all fun u => !Tryd.prog.wantsStandIn u) = true := by kernel_rfl
        exact (show Tryd.prog.wantsStandIn t = false by simpa using List.all_eq_true.1 hall t hm)⟩)
    (by kernel_rfl)
end Go.Proofs.YtggflladheemoaaDoor.fnProofs
