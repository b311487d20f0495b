/- Contracts of chapter 9: IsProof. -/
import Derived.Test.YtlimfpdibohioabDoorC09r
namespace Go.Proofs.YtlimfpdibohioabDoor
open Go.RowKit Go.Shelf
set_option linter.unusedVariables false
set_option linter.unusedSimpArgs false

set_option maxRecDepth 100000 in
set_option maxHeartbeats 4000000 in
theorem ip_impl (A : Option Addr) (n c : Nat) (zs : List P3) (B : Option Addr) (m d : Nat) (v : List Int) (w : World) (ht : Tab w) (hn : zs.length = n) (hN : n ≤ 16777216) (hA : Reads w w.heap.size A (cells3 zs)) (hm : v.length = m) (hM : m ≤ 2000000) (hmd : m ≤ d) (hB : Reads w w.heap.size B (v.map vi)) :
    Calls Tryd.prog 30 #[.slice A n c, .slice B m d] w fun e w' => e = .returned (.tuple #[.bool (ipV zs v), .int .i64 (lbE zs)]) ∧ Gr w w' := by
  have HC := Lib.hid (lbcode_impl A n c zs w hn hN hA)
  have HV := Lib.hid (show ipV zs v = if lbE zs = 0 then ipB zs v else false from rfl)
  by_cases h : lbE zs = 0
  · obtain ⟨h40, ha⟩ := lbE_zero h
    have HP := Lib.hid (fun W (hg : Gr w W) => ps_impl A n c zs W (ht.gr hg) hn (by omega) (hA.gr hg) ha)
    have HQ := Lib.hid (fun W (hg : Below w.heap.size w W) (AS : Option Addr) (cS : Nat) (hS : Reads W W.heap.size AS ((stL zs n n).flatMap cl4)) => ip_of AS n cS zs B m d v W hn (by omega) ha hS hm hM hmd (hB.below hg))
    have HLN := Lib.hid (stL_len zs n n)
    rw [if_pos h] at HV
    rw [h] at HC ⊢
    generalize ipV zs v = r at *
    generalize ipB zs v = b at *
    generalize stL zs n n = ss at *
    clear h hA hB hn hm ha h40
    go_enter Tryd.func30, Tryd.ntmps30
    go_wp2_with fail
    refine (HC.out).mono ?_
    rintro e w2 ⟨rfl, hg2⟩
    go_wp2_with fail
    refine (HP.out _ hg2).mono ?_
    rintro e w3 ⟨⟨v3, rfl, hv⟩, hb3⟩
    obtain ⟨AS, cS, rfl, hS⟩ := LstG.slice hv
    rw [HLN.out]
    have hs23 := hg2.below.size
    have hb23 := hg2.below.trans (hb3.mono hs23)
    go_wp2_with fail
    refine (HQ.out _ hb23 AS cS hS).mono ?_
    rintro e w4 ⟨rfl, hg4⟩
    go_wp2_with fail
    ((try simp only [Exit.inBlock, Exit.then]); refine bodyPost_ret (v := .tuple #[.bool b, .int .i64 0]) (by simp [results, Tryd.results30, go_sem]) rfl ?_)
    exact ⟨by rw [HV.out], Gr.of_below (hb23.trans (hg4.below.mono hb23.size))⟩
  · rw [if_neg h] at HV
    generalize ipV zs v = r at *
    have hc0 : (lbE zs == 0) = false := by simpa using h
    generalize lbE zs = cd at *
    clear hA hB hn hm
    go_enter Tryd.func30, Tryd.ntmps30
    go_wp2_with fail
    refine (HC.out).mono ?_
    rintro e w' ⟨rfl, hg1⟩
    go_wp2_with fail
    ((try simp only [Exit.inBlock, Exit.then]); refine bodyPost_ret (v := .tuple #[.bool false, .int .i64 cd]) (by simp [results, Tryd.results30, go_sem]) rfl ?_)
    exact ⟨by rw [HV.out], hg1⟩

set_option maxRecDepth 100000 in
set_option maxHeartbeats 8000000 in
theorem ip_spec (A : Option Addr) (n c : Nat) (zs : List P3) (B : Option Addr) (m d : Nat) (v : List Int) (w : World) (hn : zs.length = n) (hN : n ≤ 16777216) (hA : Reads w w.heap.size A (cells3 zs)) (hm : v.length = m) (hM : m ≤ 2000000) (hB : Reads w w.heap.size B (v.map vi)) :
    Calls Tryd.prog 29 #[.slice A n c, .slice B m d] w fun e w' => e = .returned (.tuple #[.bool (ipV zs v), .int .i64 (lbE zs)]) ∧ Gr w w' := by
  have HC := Lib.hid (lbcode_spec A n c zs w hn hN hA)
  have HVV := Lib.hid (show ipV zs v = if lbE zs = 0 then ipB zs v else false from rfl)
  by_cases h : lbE zs = 0
  rotate_left
  · rw [if_neg h] at HVV
    generalize ipV zs v = r at *
    have hc0 : (lbE zs == 0) = false := by simpa using h
    generalize lbE zs = cd at *
    clear hA hB hn hm
    go_enter Tryd.func29, Tryd.ntmps29
    go_wp2_with fail
    refine (HC.out).mono ?_
    rintro e w' ⟨rfl, hg1⟩
    go_wp2_with fail
    ((try simp only [Exit.inBlock, Exit.then]); refine bodyPost_ret (v := .tuple #[.bool false, .int .i64 cd]) (by simp [results, Tryd.results29, go_sem]) rfl ?_)
    exact ⟨by rw [HVV.out], hg1⟩
  obtain ⟨h40, ha⟩ := lbE_zero h
  have hn40 : n ≤ 40 := by omega
  rw [if_pos h] at HVV
  rw [h] at HC ⊢
  generalize ipV zs v = r at *
  have HN := Lib.hid (ipB_no (zs := zs) (v := v))
  have HY := Lib.hid ((ipB_iff zs v).2)
  rw [hn, hm] at HN HY
  by_cases hl : m = n + 1
  rotate_left
  · have HQ := Lib.hid (HVV.out.trans (HN.out (fun h => hl h.1)))
    have hml : ¬ (m : Int) = (n : Int) + 1 := by omega
    have hml2 : ((m : Int) == (n : Int) + 1) = false := by simpa using hml
    clear hA hB hn hm
    go_enter Tryd.func29, Tryd.ntmps29
    go_wp2_with fail
    refine (HC.out).mono ?_
    rintro e w' ⟨rfl, hg1⟩
    go_wp2_with fail
    ((try simp only [Exit.inBlock, Exit.then]); refine bodyPost_ret (v := .tuple #[.bool false, .int .i64 0]) (by simp [results, Tryd.results29, go_sem]) rfl ?_)
    exact ⟨by rw [HQ.out], hg1⟩
  subst hl
  have HV := Lib.hid hB
  have HM := Lib.hid hm
  by_cases h0 : v.getD 0 0 = 0
  rotate_left
  · have HQ := Lib.hid (HVV.out.trans (HN.out (fun h => h0 h.2.1)))
    have v0 := cs_at (cs := v) (k := 0) (by omega)
    have HX := Lib.hid (fun W (hg : Gr w W) => (hB.gr hg).at_ v0)
    generalize v.getD 0 0 = x at *
    have hx0 : (x == 0) = false := by simpa using h0
    clear hA hB hn hm v0
    go_enter Tryd.func29, Tryd.ntmps29
    go_wp2_with fail
    refine (HC.out).mono ?_
    rintro e w' ⟨rfl, hg1⟩
    obtain ⟨gv, ov, rfl, hgv, c0⟩ := HX.out _ hg1
    rw [Nat.add_zero] at c0
    go_wp2_with fail
    ((try simp only [Exit.inBlock, Exit.then]); refine bodyPost_ret (v := .tuple #[.bool false, .int .i64 0]) (by simp [results, Tryd.results29, go_sem]) rfl ?_)
    exact ⟨by rw [HQ.out], hg1⟩
  have HO := Lib.hid (fun W (hg : Below w.heap.size w W) => order_spec A n c zs W hn hn40 (hA.below hg) ha)
  have HA := Lib.hid (fun W (h : Below w.heap.size w W) => hA.below h)
  have HVB := Lib.hid (fun W (h : Below w.heap.size w W) => hB.below h)
  have HL := Lib.hid hn
  have HZ := Lib.hid (fun (k : Nat) (h : k < n) => tkN_is ha (k := k) (by rw [hn]; exact h))
  have HFS := Lib.hid (fun (z : P3) W (h : Below w.heap.size w W) (hz : lbIs z) => frN_spec A n c zs z W hn (by omega) (hA.below h) ha hz)
  have HLN := Lib.hid (show (natI (orL (rtN zs) n)).length = n by rw [List.length_map, orL_len])
  have HOA := Lib.hid (fun p (h : p < n) => orA_at (rtN zs) h)
  have HOT := Lib.hid (fun p (h : p < n) => orA_lt (rtN zs) h)
  have HBD := Lib.hid (ip_bd (zs := zs) h0)
  have HFR := Lib.hid (fun i (h : i < n) => show frN (rtN zs) (lfN zs) n (orA (rtN zs) n i) ≤ i from by have := fr_le ha i (by omega); rwa [hn] at this)
  have HIC := Lib.hid (fun k => show ipC zs v k = (v.getD (k + 1) 0 ≤ 1000000000000 ∧ v.getD k 0 ≤ v.getD (k + 1) 0 ∧ woN zs (orA (rtN zs) zs.length k) + v.getD (frN (rtN zs) (lfN zs) zs.length (orA (rtN zs) zs.length k)) 0 ≤ v.getD (k + 1) 0) from rfl)
  rw [hn] at HIC
  have HWB := Lib.hid (fun k => woN_bd ha k)
  have v0 := cs_at (cs := v) (k := 0) (by omega)
  have HX := Lib.hid (fun W (hg : Gr w W) => (hB.gr hg).at_ v0)
  rw [h0] at HX
  clear hA hB hn hm v0 ha h h40
  go_enter Tryd.func29, Tryd.ntmps29
  go_wp2_with fail
  refine (HC.out).mono ?_
  rintro e w2 ⟨rfl, hg2⟩
  obtain ⟨gv, ov, rfl, hgv, c0⟩ := HX.out _ hg2
  rw [Nat.add_zero] at c0
  go_wp2_with fail
  refine (HO.out _ hg2.below).mono ?_
  rintro e w3 ⟨⟨vo, rfl, hvo⟩, hb3⟩
  obtain ⟨AO, cO, rfl, hAO⟩ := Lst.slice hvo
  rw [HLN.out]
  have HS := Lib.hid hAO
  have HW3 := Lib.hid (hg2.below.trans (hb3.mono hg2.below.size))
  have hs3 := HW3.out.size
  clear hg2 hb3 hvo hAO c0 hgv
  go_wp2
  go_loopw [8] (fun i wr => ∃ k : Nat, k ≤ n ∧ i = .int .i64 k ∧ Hid (∀ j, j < k → ipC zs v j) ∧ Gr w3 wr) (fun i _ => n - (intOf i).toNat)
  case atStart => exact ⟨0, by omega, rfl, Lib.hid (fun j h => absurd h (by omega)), Gr.refl _⟩
  case round =>
    obtain ⟨k, hk, rfl, hI, hG⟩ := hrel
    have HWR := Lib.hid (HW3.out.trans (hG.below.mono hs3))
    by_cases hlt : k < n
    · have hot := HOT.out k hlt
      have hfk := HFR.out k hlt
      have hok : ((natI (orL (rtN zs) n)).map vi)[k]? = some (vi ((orA (rtN zs) n k : Nat) : Int)) := by rw [List.getElem?_map, List.getElem?_map, HOA.out k hlt]; rfl
      obtain ⟨gs, os, rfl, hgs, s0⟩ := (HS.out.gr hG).at_ hok
      have hz := tkN_at (zs := zs) (k := orA (rtN zs) n k) (by rw [HL.out]; exact hot)
      obtain ⟨ga, oa, rfl, hga, x0, x1, x2⟩ := (HA.out wr HWR.out).at3 hz
      have hzi := HZ.out (orA (rtN zs) n k) hot
      have HFK := fun W (h : Gr wr W) => HFS.out (tkN zs (orA (rtN zs) n k)) W (HWR.out.trans (h.below.mono HWR.out.size)) hzi
      have HWS := fun W => worth_spec (tkN zs (orA (rtN zs) n k)) W hzi.2.2
      rw [show frK (rtN zs) (lfT (tkN zs (orA (rtN zs) n k))) n = frN (rtN zs) (lfN zs) n (orA (rtN zs) n k) from rfl] at HFK
      rw [show 1 + 10 * (tkN zs (orA (rtN zs) n k)).2.2 = woN zs (orA (rtN zs) n k) from rfl] at HWS
      have HVC := Lib.hid (fun W (h : Gr wr W) q (hq : q < n + 1) => show W.cell? ⟨gv, ov + q, none⟩ = some (vi (v.getD q 0)) ∧ gv < W.heap.size from by
        obtain ⟨g2, o2, e2, l2, y2⟩ := (HVB.out W (HWR.out.trans (h.below.mono HWR.out.size))).at_ (cs_at (cs := v) (k := q) (by rw [HM.out]; exact hq))
        injection e2 with e2
        injection e2 with e2a e2b
        subst e2a e2b
        exact ⟨y2, l2⟩)
      have HI1 := Lib.hid (fun (h : ipC zs v k) => show ∀ j, j < k + 1 → ipC zs v j from fun j hj => by
        rcases Nat.lt_or_ge j k with h1 | h1
        · exact hI.out j h1
        · rw [show j = k by omega]; exact h)
      have HN1 := Lib.hid (fun (h : ¬ ipC zs v k) => HVV.out.trans (HN.out (fun hh => h (hh.2.2 k hlt))))
      have HIC1 := Lib.hid (HIC.out k)
      have hb1 := HBD.out k hI.out
      have hb2 := HBD.out (frN (rtN zs) (lfN zs) n (orA (rtN zs) n k)) (fun j hj => hI.out j (by omega))
      have hb3 := HWB.out (orA (rtN zs) n k)
      have hotn : ((orA (rtN zs) n k : Nat) : Int) < (n : Int) := by omega
      have HGR := Lib.hid hG
      clear hok hz hzi hG
      generalize tkN zs (orA (rtN zs) n k) = z at *
      generalize woN zs (orA (rtN zs) n k) = wo at *
      generalize hfe : frN (rtN zs) (lfN zs) n (orA (rtN zs) n k) = fr at *
      generalize orA (rtN zs) n k = oj at *
      clear hfe
      obtain ⟨za, zb, zc⟩ := z
      simp only [tkV] at HWS HFK
      simp only at x0 x1 x2
      replace HWS := Lib.hid HWS
      replace HFK := Lib.hid HFK
      go_wp2_with fail
      refine (HFK.out _ (by repeat (first | with_reducible exact Gr.refl _ | with_reducible refine Gr.alloc ?_ _ | with_reducible refine Gr.gr ?_ _ _ | with_reducible refine Gr.drew ?_ | with_reducible refine Gr.drewN ?_ _))).mono ?_
      rintro e w5 ⟨rfl, hg5⟩
      have hG5 : Gr wr w5 := Gr.trans (show Gr wr _ from (by repeat (first | with_reducible exact Gr.refl _ | with_reducible refine Gr.alloc ?_ _ | with_reducible refine Gr.gr ?_ _ _ | with_reducible refine Gr.drew ?_ | with_reducible refine Gr.drewN ?_ _))) hg5
      have hT := (Row.new wr 26 [.int .i64 za, .int .i64 zb, .int .i64 zc]).gr hg5
      have t0 := hT.cell 0
      have t1 := hT.cell 1
      have t2 := hT.cell 2
      simp only [List.getElem?_cons_zero, List.getElem?_cons_succ] at t0 t1 t2
      have htl := hT.lt
      obtain ⟨y1, hgv5⟩ := HVC.out _ hG5 (k + 1) (by omega)
      have y0 := (HVC.out _ hG5 k (by omega)).1
      have yf := (HVC.out _ hG5 fr (by omega)).1
      have HG5 := Lib.hid (HGR.out.trans hG5)
      clear x0 x1 x2 s0 hga hgs hg5 hG5 hT
      generalize v.getD fr 0 = vf at *
      generalize v.getD (k + 1) 0 = y at *
      generalize v.getD k 0 = x at *
      have hk1 : (k : Int) + 1 < (n : Int) + 1 := by omega
      have hk2 : (0 : Int) ≤ (k : Int) + 1 := by omega
      have hk3 : (k : Int) < (n : Int) + 1 := by omega
      have hk4 : (fr : Int) < (n : Int) + 1 := by omega
      have hwk : IntKind.i64.wrap ((k : Int) + 1) = (k : Int) + 1 := IntWalk.i64_in _ (by omega)
      have hww : IntKind.i64.wrap (wo + vf) = wo + vf := IntWalk.i64_in _ (by omega)
      have HIS := Lib.hid (fun W => (is_any y W).mono fun e w' ⟨a, b⟩ => show _ ∧ w' = W from ⟨a, b.symm⟩)
      have HIG := Lib.hid (fun W => (is_any y W))
      by_cases hc0 : vl y = true
      rotate_left
      · have hc0' : vl y = false := by simpa using hc0
        have HQ := Lib.hid (HN1.out (by
          rw [HIC1.out]; intro h
          apply hc0
          rw [vl_iff]
          omega))
        rw [hc0'] at HIS
        clear HIC1 hc0 hc0'
        go_wp2
        go_quiet (exact Calls.quiet_of_same (HIS.out _))
        go_wp2
        ((try simp only [Exit.inBlock, Exit.then]); refine bodyPost_ret (v := .tuple #[.bool false, .int .i64 0]) (by simp [results, Tryd.results29, go_sem]) rfl ?_)
        exact ⟨by rw [HQ.out], Gr.of_below (HW3.out.trans ((HG5.out.trans (by repeat (first | with_reducible exact Gr.refl _ | with_reducible refine Gr.alloc ?_ _ | with_reducible refine Gr.gr ?_ _ _ | with_reducible refine Gr.drew ?_ | with_reducible refine Gr.drewN ?_ _))).below.mono hs3))⟩
      have hyb := (vl_iff y).1 hc0
      rw [hc0] at HIS HIG
      by_cases hc1 : x ≤ y
      rotate_left
      · have HQ := Lib.hid (HN1.out (by rw [HIC1.out]; exact fun h => hc1 h.2.1))
        have hd1 : decide (y < x) = true := decide_eq_true (by omega)
        clear HIC1 hc0
        go_wp2
        go_quiet (exact Calls.quiet_of_same (HIS.out _))
        go_wp2
        ((try simp only [Exit.inBlock, Exit.then]); refine bodyPost_ret (v := .tuple #[.bool false, .int .i64 0]) (by simp [results, Tryd.results29, go_sem]) rfl ?_)
        exact ⟨by rw [HQ.out], Gr.of_below (HW3.out.trans ((HG5.out.trans (by repeat (first | with_reducible exact Gr.refl _ | with_reducible refine Gr.alloc ?_ _ | with_reducible refine Gr.gr ?_ _ _ | with_reducible refine Gr.drew ?_ | with_reducible refine Gr.drewN ?_ _))).below.mono hs3))⟩
      have hd1 : decide (y < x) = false := decide_eq_false (by omega)
      have HWT := Lib.hid HWS.out
      by_cases hc2 : wo + vf ≤ y
      · have HQ := Lib.hid (HI1.out (by rw [HIC1.out]; exact ⟨by omega, hc1, hc2⟩))
        have hd2 : decide (y < wo + vf) = false := decide_eq_false (by omega)
        clear HIC1 hc0
        go_wp2
        ((first | refine region_gr_on (by kernel_rfl) (by kernel_rfl) ?_ | refine region_gr (by kernel_rfl) (by kernel_rfl) ?_); (repeat (quiet_step (first | exact Calls.gr_same (HIG.out _) | exact Calls.gr_of (HWT.out _)))); refine wpQuiet_nil ?_; intro _ hw'; obtain ⟨⟨kq, oq⟩, hw''⟩ := hw'; subst hw'')
        go_wp2
        go_roundw
        case rel => exact ⟨k + 1, by omega, by go_num, HQ, HG5.out.trans (by repeat (first | with_reducible exact Gr.refl _ | with_reducible refine Gr.alloc ?_ _ | with_reducible refine Gr.gr ?_ _ _ | with_reducible refine Gr.drew ?_ | with_reducible refine Gr.drewN ?_ _))⟩
        case measure => simp [intOf] <;> omega
      · have HQ := Lib.hid (HN1.out (by rw [HIC1.out]; exact fun h => hc2 h.2.2))
        have hd2 : decide (y < wo + vf) = true := decide_eq_true (by omega)
        clear HIC1 hc0
        go_wp2
        ((first | refine region_gr_on (by kernel_rfl) (by kernel_rfl) ?_ | refine region_gr (by kernel_rfl) (by kernel_rfl) ?_); (repeat (quiet_step (first | exact Calls.gr_same (HIG.out _) | exact Calls.gr_of (HWT.out _)))); refine wpQuiet_nil ?_; intro _ hw'; obtain ⟨⟨kq, oq⟩, hw''⟩ := hw'; subst hw'')
        go_wp2
        ((try simp only [Exit.inBlock, Exit.then]); refine bodyPost_ret (v := .tuple #[.bool false, .int .i64 0]) (by simp [results, Tryd.results29, go_sem]) rfl ?_)
        exact ⟨by rw [HQ.out], Gr.of_below (HW3.out.trans ((HG5.out.trans (by repeat (first | with_reducible exact Gr.refl _ | with_reducible refine Gr.alloc ?_ _ | with_reducible refine Gr.gr ?_ _ _ | with_reducible refine Gr.drew ?_ | with_reducible refine Gr.drewN ?_ _))).below.mono hs3))⟩
    · obtain rfl : k = n := by omega
      have HQ := Lib.hid (HVV.out.trans (HY.out ⟨by simp, h0, hI.out⟩))
      go_wp2
      ((try simp only [Exit.inBlock, Exit.then]); refine bodyPost_ret (v := .tuple #[.bool true, .int .i64 0]) (by simp [results, Tryd.results29, go_sem]) rfl ?_)
      exact ⟨by rw [HQ.out], Gr.of_below HWR.out⟩
end Go.Proofs.YtlimfpdibohioabDoor
