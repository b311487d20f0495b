/- Plain mathematics, merged. -/
import Derived.Test.YtggflladheemoaaDoor9B
import Derived.Test.YtggflladheemoaaDoor9A
import Derived.Test.YtggflladheemoaaDoor8C
/- Contracts of chapter 9: whether a list is a proof. -/
namespace Go.Proofs.YtggflladheemoaaDoor
open Go.RowKit Go.Shelf
set_option linter.unusedVariables false
set_option linter.unusedSimpArgs false

/-- One step of a proof holds. -/
def ipC (zs : List P3) (v : List Int) (k : Nat) : Prop := v.getD (k + 1) 0 ≤ 1000000000000 ∧ v.getD k 0 ≤ v.getD (k + 1) 0 ∧ woN zs (orA (rtN zs) zs.length k) + v.getD (frN (rtN zs) (lfN zs) zs.length (orA (rtN zs) zs.length k)) 0 ≤ v.getD (k + 1) 0
instance (zs : List P3) (v : List Int) (k : Nat) : Decidable (ipC zs v k) := by unfold ipC; exact inferInstance
def ipB (zs : List P3) (v : List Int) : Bool := decide (v.length = zs.length + 1) && (decide (v.getD 0 0 = 0) && (List.range zs.length).all fun k => decide (ipC zs v k))
theorem ipB_iff (zs : List P3) (v : List Int) : ipB zs v = true ↔ v.length = zs.length + 1 ∧ v.getD 0 0 = 0 ∧ ∀ k, k < zs.length → ipC zs v k := by
  unfold ipB
  rw [Bool.and_eq_true, Bool.and_eq_true, List.all_eq_true, decide_eq_true_eq, decide_eq_true_eq]
  exact ⟨fun h => ⟨h.1, h.2.1, fun k hk => of_decide_eq_true (h.2.2 k (List.mem_range.2 hk))⟩, fun h => ⟨h.1, h.2.1, fun k hk => decide_eq_true (h.2.2 k (List.mem_range.1 hk))⟩⟩
theorem ipB_no {zs : List P3} {v : List Int} (h : ¬ (v.length = zs.length + 1 ∧ v.getD 0 0 = 0 ∧ ∀ k, k < zs.length → ipC zs v k)) : ipB zs v = false := by
  cases e : ipB zs v
  · rfl
  · exact absurd ((ipB_iff zs v).1 e) h
def ipV (zs : List P3) (v : List Int) : Bool := if lbE zs = 0 then ipB zs v else false
/-- The numbers so far. -/
theorem ip_bd {zs : List P3} {v : List Int} (h0 : v.getD 0 0 = 0) : ∀ k, (∀ j, j < k → ipC zs v j) → 0 ≤ v.getD k 0 ∧ v.getD k 0 ≤ 1000000000000
  | 0, _ => by omega
  | k + 1, h => by
    have := ip_bd h0 k (fun j hj => h j (by omega))
    have h1 := h k (by omega)
    unfold ipC at h1
    omega
theorem getD_take (v : List Int) (i j : Nat) (h : j < i) : (v.take i).getD j 0 = v.getD j 0 := by
  rw [List.getD_eq_getElem?_getD, List.getD_eq_getElem?_getD, List.getElem?_take, if_pos h]

set_option maxRecDepth 100000 in
set_option maxHeartbeats 4000000 in
theorem ip_of (AS : Option Addr) (n cS : Nat) (zs : List P3) (AV : Option Addr) (m d : Nat) (v : List Int) (w : World) (hn : zs.length = n) (hN : n ≤ 40) (ha : allL zs = true) (hA : Reads w w.heap.size AS ((stL zs n n).flatMap cl4)) (hm : v.length = m) (hM : m ≤ 2000000) (hmd : m ≤ d) (hV : Reads w w.heap.size AV (v.map vi)) :
    Calls Tryd.prog 131 #[.slice AS n cS, .slice AV m d] w fun e w' => e = .returned (.bool (ipB zs v)) ∧ Gr w w' := by
  have HN := Lib.hid (ipB_no (zs := zs) (v := v))
  have HY := Lib.hid ((ipB_iff zs v).2)
  rw [hn, hm] at HN HY
  by_cases hl : m = n + 1
  rotate_left
  · have HQ := Lib.hid (HN.out (fun h => hl h.1))
    have hml : ¬ (m : Int) = (n : Int) + 1 := by omega
    have hml2 : ((m : Int) == (n : Int) + 1) = false := by simpa using hml
    clear hA hV hn hm
    go_enter Tryd.func131, Tryd.ntmps131
    go_wp2
    go_ret
    exact ⟨ret_bool HQ.out.symm, Gr.refl _⟩
  subst hl
  have HV := Lib.hid hV
  have HM := Lib.hid hm
  have v0 := cs_at (cs := v) (k := 0) (by omega)
  obtain ⟨gv, ov, rfl, hgv, c0⟩ := hV.at_ v0
  rw [Nat.add_zero] at c0
  by_cases h0 : v.getD 0 0 = 0
  rotate_left
  · have HQ := Lib.hid (HN.out (fun h => h0 h.2.1))
    generalize v.getD 0 0 = x at *
    have hx0 : (x == 0) = false := by simpa using h0
    clear hA hV hn hm v0
    go_enter Tryd.func131, Tryd.ntmps131
    go_wp2
    go_ret
    exact ⟨ret_bool HQ.out.symm, Gr.refl _⟩
  rw [h0] at c0
  have HBD := Lib.hid (ip_bd (zs := zs) h0)
  have HFR := Lib.hid (fun i (h : i < n) => show frN (rtN zs) (lfN zs) n (orA (rtN zs) n i) ≤ i from by have := fr_le ha i (by omega); rwa [hn] at this)
  have HIC := Lib.hid (fun k => show ipC zs v k = (v.getD (k + 1) 0 ≤ 1000000000000 ∧ v.getD k 0 ≤ v.getD (k + 1) 0 ∧ woN zs (orA (rtN zs) zs.length k) + v.getD (frN (rtN zs) (lfN zs) zs.length (orA (rtN zs) zs.length k)) 0 ≤ v.getD (k + 1) 0) from rfl)
  rw [hn] at HIC
  have HLN := Lib.hid (fun (k : Nat) (hk : k < n) (hI : ∀ j, j < k → ipC zs v j) W (hg : Gr w W) => least_next AS n cS (stL zs n n) (some ⟨gv, ov, none⟩) (k + 1) (k + 1) k (frN (rtN zs) (lfN zs) n (orA (rtN zs) n k)) (v.take (k + 1)) (stepP zs n (orA (rtN zs) n k)) W (stL_len zs n n) (by omega) (hA.gr hg) (by rw [List.length_take]; omega) (by rw [List.map_take]; exact (hV.gr hg).take (k + 1)) rfl hk (stL_at zs n k hk) rfl (HFR.out k hk) (by have := woN_bd ha (orA (rtN zs) n k); unfold stepP; simp only; omega) (by
    have h1 := HFR.out k hk
    rw [getD_take _ _ _ (by omega)]
    have := HBD.out (frN (rtN zs) (lfN zs) n (orA (rtN zs) n k)) (fun j hj => hI j (by omega))
    omega))
  have HTD := Lib.hid (getD_take v)
  have HWO := Lib.hid (fun k => show (stepP zs n (orA (rtN zs) n k)).2.2.1 = woN zs (orA (rtN zs) n k) from rfl)
  have HWB := Lib.hid (fun k => woN_bd ha k)
  clear hA hV hn hm v0 ha
  go_enter Tryd.func131, Tryd.ntmps131
  go_wp2
  go_loopw [5] (fun i wr => ∃ k : Nat, k ≤ n ∧ i = .int .i64 ((k + 1 : Nat) : Int) ∧ Hid (∀ j, j < k → ipC zs v j) ∧ Gr w wr) (fun i _ => n + 1 - (intOf i).toNat)
  case atStart => exact ⟨0, by omega, rfl, Lib.hid (fun j h => absurd h (by omega)), Gr.refl _⟩
  case round =>
    obtain ⟨k, hk, rfl, hI, hG⟩ := hrel
    by_cases hlt : k < n
    · have hv1 := cs_at (cs := v) (k := k + 1) (by rw [HM.out]; omega)
      obtain ⟨gv2, ov2, eg, hgv2, ca⟩ := (HV.out.gr hG).at_ hv1
      injection eg with eg
      injection eg with eg1 eg2
      subst eg1 eg2
      have HI1 := Lib.hid (fun (h : ipC zs v k) => show ∀ j, j < k + 1 → ipC zs v j from fun j hj => by
        rcases Nat.lt_or_ge j k with h1 | h1
        · exact hI.out j h1
        · rw [show j = k by omega]; exact h)
      have HN1 := Lib.hid (fun (h : ¬ ipC zs v k) => HN.out (fun hh => h (hh.2.2 k hlt)))
      have HL1 := fun W (h : Gr wr W) => HLN.out k hlt hI.out W (hG.trans h)
      rw [HTD.out _ _ (Nat.lt_succ_self k), HTD.out _ _ (Nat.lt_succ_of_le (HFR.out k hlt)), HWO.out] at HL1
      replace HL1 := Lib.hid HL1
      have HIC1 := Lib.hid (HIC.out k)
      have hb1 := HBD.out k hI.out
      have hb2 := HBD.out (frN (rtN zs) (lfN zs) n (orA (rtN zs) n k)) (fun j hj => hI.out j (by have := HFR.out k hlt; omega))
      have hb3 := HWB.out (orA (rtN zs) n k)
      generalize v.getD (frN (rtN zs) (lfN zs) n (orA (rtN zs) n k)) 0 = vf at *
      generalize woN zs (orA (rtN zs) n k) = wo at *
      generalize v.getD (k + 1) 0 = y at *
      generalize v.getD k 0 = x at *
      have HG := Lib.hid hG
      have hk1 : (k : Int) + 1 < (n : Int) + 1 := by omega
      have hk2 : (0 : Int) ≤ (k : Int) + 1 := by omega
      have hk3 : (k : Int) + 1 ≤ (d : Int) := by omega
      have hk4 : k < n := hlt
      clear hv1 hG c0 hgv
      by_cases hc1 : y ≤ 1000000000000
      rotate_left
      · have HQ := Lib.hid (HN1.out (by rw [HIC1.out]; exact fun h => hc1 h.1))
        have hd1 : decide (1000000000000 < y) = true := decide_eq_true (by omega)
        clear HIC1
        go_wp2
        go_quiet (fail)
        go_wp2
        go_ret
        exact ⟨ret_bool HQ.out.symm, HG.out.trans (by repeat (first | with_reducible exact Gr.refl _ | with_reducible refine Gr.alloc ?_ _ | with_reducible refine Gr.gr ?_ _ _ | with_reducible refine Gr.drew ?_ | with_reducible refine Gr.drewN ?_ _))⟩
      have hd1 : decide (1000000000000 < y) = false := decide_eq_false (by omega)
      by_cases hc2 : max x (wo + vf) ≤ y
      · have HQ := Lib.hid (HI1.out (by rw [HIC1.out]; exact ⟨hc1, by omega, by omega⟩))
        have hd2 : decide (y < max x (wo + vf)) = false := decide_eq_false (by omega)
        clear HIC1
        generalize max x (wo + vf) = mx at *
        go_wp2
        ((first | refine region_gr_on (by kernel_rfl) (by kernel_rfl) ?_ | refine region_gr (by kernel_rfl) (by kernel_rfl) ?_); (repeat (quiet_step (exact Calls.gr_of (HL1.out _ (by repeat (first | with_reducible exact Gr.refl _ | with_reducible refine Gr.alloc ?_ _ | with_reducible refine Gr.gr ?_ _ _ | with_reducible refine Gr.drew ?_ | with_reducible refine Gr.drewN ?_ _)))))); refine wpQuiet_nil ?_; intro _ hw'; obtain ⟨⟨kq, oq⟩, hw''⟩ := hw'; subst hw'')
        go_wp2
        go_roundw
        case rel => exact ⟨k + 1, by omega, by congr 1, HQ, HG.out.trans (by repeat (first | with_reducible exact Gr.refl _ | with_reducible refine Gr.alloc ?_ _ | with_reducible refine Gr.gr ?_ _ _ | with_reducible refine Gr.drew ?_ | with_reducible refine Gr.drewN ?_ _))⟩
        case measure => simp [intOf] <;> omega
      · have HQ := Lib.hid (HN1.out (by rw [HIC1.out]; exact fun h => hc2 (by omega)))
        have hd2 : decide (y < max x (wo + vf)) = true := decide_eq_true (by omega)
        clear HIC1
        generalize max x (wo + vf) = mx at *
        go_wp2
        ((first | refine region_gr_on (by kernel_rfl) (by kernel_rfl) ?_ | refine region_gr (by kernel_rfl) (by kernel_rfl) ?_); (repeat (quiet_step (exact Calls.gr_of (HL1.out _ (by repeat (first | with_reducible exact Gr.refl _ | with_reducible refine Gr.alloc ?_ _ | with_reducible refine Gr.gr ?_ _ _ | with_reducible refine Gr.drew ?_ | with_reducible refine Gr.drewN ?_ _)))))); refine wpQuiet_nil ?_; intro _ hw'; obtain ⟨⟨kq, oq⟩, hw''⟩ := hw'; subst hw'')
        go_wp2
        go_ret
        exact ⟨ret_bool HQ.out.symm, HG.out.trans (by repeat (first | with_reducible exact Gr.refl _ | with_reducible refine Gr.alloc ?_ _ | with_reducible refine Gr.gr ?_ _ _ | with_reducible refine Gr.drew ?_ | with_reducible refine Gr.drewN ?_ _))⟩
    · obtain rfl : k = n := by omega
      have HQ := Lib.hid (HY.out ⟨by simp, h0, hI.out⟩)
      go_wp2
      go_ret
      exact ⟨ret_bool HQ.out.symm, hG⟩
end Go.Proofs.YtggflladheemoaaDoor

/- Contracts of chapter 9: IsProof. -/
namespace Go.Proofs.YtggflladheemoaaDoor
open Go.RowKit Go.Shelf
set_option linter.unusedVariables false
set_option linter.unusedSimpArgs false

set_option maxRecDepth 100000 in
set_option maxHeartbeats 4000000 in
theorem ip_impl (A : Option Addr) (n c : Nat) (zs : List P3) (B : Option Addr) (m d : Nat) (v : List Int) (w : World) (ht : Tab w) (hn : zs.length = n) (hN : n ≤ 16777216) (hA : Reads w w.heap.size A (cells3 zs)) (hm : v.length = m) (hM : m ≤ 2000000) (hmd : m ≤ d) (hB : Reads w w.heap.size B (v.map vi)) :
    Calls Tryd.prog 56 #[.slice A n c, .slice B m d] w fun e w' => e = .returned (.tuple #[.bool (ipV zs v), .int .i64 (lbE zs)]) ∧ Gr w w' := by
  have HC := Lib.hid (lbcode_impl A n c zs w hn hN hA)
  have HV := Lib.hid (show ipV zs v = if lbE zs = 0 then ipB zs v else false from rfl)
  by_cases h : lbE zs = 0
  · obtain ⟨h40, ha⟩ := lbE_zero h
    have HP := Lib.hid (fun W (hg : Gr w W) => ps_impl A n c zs W (ht.gr hg) hn (by omega) (hA.gr hg) ha)
    have HQ := Lib.hid (fun W (hg : Below w.heap.size w W) (AS : Option Addr) (cS : Nat) (hS : Reads W W.heap.size AS ((stL zs n n).flatMap cl4)) => ip_of AS n cS zs B m d v W hn (by omega) ha hS hm hM hmd (hB.below hg))
    have HLN := Lib.hid (stL_len zs n n)
    rw [if_pos h] at HV
    rw [h] at HC ⊢
    generalize ipV zs v = r at *
    generalize ipB zs v = b at *
    generalize stL zs n n = ss at *
    clear h hA hB hn hm ha h40
    go_enter Tryd.func56, Tryd.ntmps56
    go_wp2_with fail
    refine (HC.out).mono ?_
    rintro e w2 ⟨rfl, hg2⟩
    go_wp2_with fail
    refine (HP.out _ hg2).mono ?_
    rintro e w3 ⟨⟨v3, rfl, hv⟩, hb3⟩
    obtain ⟨AS, cS, rfl, hS⟩ := LstG.slice hv
    rw [HLN.out]
    have hs23 := hg2.below.size
    have hb23 := hg2.below.trans (hb3.mono hs23)
    go_wp2_with fail
    refine (HQ.out _ hb23 AS cS hS).mono ?_
    rintro e w4 ⟨rfl, hg4⟩
    go_wp2_with fail
    ((try simp only [Exit.inBlock, Exit.then]); refine bodyPost_ret (v := .tuple #[.bool b, .int .i64 0]) (by simp [results, Tryd.results56, go_sem]) rfl ?_)
    exact ⟨by rw [HV.out], Gr.of_below (hb23.trans (hg4.below.mono hb23.size))⟩
  · rw [if_neg h] at HV
    generalize ipV zs v = r at *
    have hc0 : (lbE zs == 0) = false := by simpa using h
    generalize lbE zs = cd at *
    clear hA hB hn hm
    go_enter Tryd.func56, Tryd.ntmps56
    go_wp2_with fail
    refine (HC.out).mono ?_
    rintro e w' ⟨rfl, hg1⟩
    go_wp2_with fail
    ((try simp only [Exit.inBlock, Exit.then]); refine bodyPost_ret (v := .tuple #[.bool false, .int .i64 cd]) (by simp [results, Tryd.results56, go_sem]) rfl ?_)
    exact ⟨by rw [HV.out], hg1⟩

set_option maxRecDepth 100000 in
set_option maxHeartbeats 8000000 in
theorem ip_spec (A : Option Addr) (n c : Nat) (zs : List P3) (B : Option Addr) (m d : Nat) (v : List Int) (w : World) (hn : zs.length = n) (hN : n ≤ 16777216) (hA : Reads w w.heap.size A (cells3 zs)) (hm : v.length = m) (hM : m ≤ 2000000) (hB : Reads w w.heap.size B (v.map vi)) :
    Calls Tryd.prog 57 #[.slice A n c, .slice B m d] w fun e w' => e = .returned (.tuple #[.bool (ipV zs v), .int .i64 (lbE zs)]) ∧ Gr w w' := by
  have HC := Lib.hid (lbcode_spec A n c zs w hn hN hA)
  have HVV := Lib.hid (show ipV zs v = if lbE zs = 0 then ipB zs v else false from rfl)
  by_cases h : lbE zs = 0
  rotate_left
  · rw [if_neg h] at HVV
    generalize ipV zs v = r at *
    have hc0 : (lbE zs == 0) = false := by simpa using h
    generalize lbE zs = cd at *
    clear hA hB hn hm
    go_enter Tryd.func57, Tryd.ntmps57
    go_wp2_with fail
    refine (HC.out).mono ?_
    rintro e w' ⟨rfl, hg1⟩
    go_wp2_with fail
    ((try simp only [Exit.inBlock, Exit.then]); refine bodyPost_ret (v := .tuple #[.bool false, .int .i64 cd]) (by simp [results, Tryd.results57, go_sem]) rfl ?_)
    exact ⟨by rw [HVV.out], hg1⟩
  obtain ⟨h40, ha⟩ := lbE_zero h
  have hn40 : n ≤ 40 := by omega
  rw [if_pos h] at HVV
  rw [h] at HC ⊢
  generalize ipV zs v = r at *
  have HN := Lib.hid (ipB_no (zs := zs) (v := v))
  have HY := Lib.hid ((ipB_iff zs v).2)
  rw [hn, hm] at HN HY
  by_cases hl : m = n + 1
  rotate_left
  · have HQ := Lib.hid (HVV.out.trans (HN.out (fun h => hl h.1)))
    have hml : ¬ (m : Int) = (n : Int) + 1 := by omega
    have hml2 : ((m : Int) == (n : Int) + 1) = false := by simpa using hml
    clear hA hB hn hm
    go_enter Tryd.func57, Tryd.ntmps57
    go_wp2_with fail
    refine (HC.out).mono ?_
    rintro e w' ⟨rfl, hg1⟩
    go_wp2_with fail
    ((try simp only [Exit.inBlock, Exit.then]); refine bodyPost_ret (v := .tuple #[.bool false, .int .i64 0]) (by simp [results, Tryd.results57, go_sem]) rfl ?_)
    exact ⟨by rw [HQ.out], hg1⟩
  subst hl
  have HV := Lib.hid hB
  have HM := Lib.hid hm
  by_cases h0 : v.getD 0 0 = 0
  rotate_left
  · have HQ := Lib.hid (HVV.out.trans (HN.out (fun h => h0 h.2.1)))
    have v0 := cs_at (cs := v) (k := 0) (by omega)
    have HX := Lib.hid (fun W (hg : Gr w W) => (hB.gr hg).at_ v0)
    generalize v.getD 0 0 = x at *
    have hx0 : (x == 0) = false := by simpa using h0
    clear hA hB hn hm v0
    go_enter Tryd.func57, Tryd.ntmps57
    go_wp2_with fail
    refine (HC.out).mono ?_
    rintro e w' ⟨rfl, hg1⟩
    obtain ⟨gv, ov, rfl, hgv, c0⟩ := HX.out _ hg1
    rw [Nat.add_zero] at c0
    go_wp2_with fail
    ((try simp only [Exit.inBlock, Exit.then]); refine bodyPost_ret (v := .tuple #[.bool false, .int .i64 0]) (by simp [results, Tryd.results57, go_sem]) rfl ?_)
    exact ⟨by rw [HQ.out], hg1⟩
  have HO := Lib.hid (fun W (hg : Below w.heap.size w W) => order_spec A n c zs W hn hn40 (hA.below hg) ha)
  have HA := Lib.hid (fun W (h : Below w.heap.size w W) => hA.below h)
  have HVB := Lib.hid (fun W (h : Below w.heap.size w W) => hB.below h)
  have HL := Lib.hid hn
  have HZ := Lib.hid (fun (k : Nat) (h : k < n) => tkN_is ha (k := k) (by rw [hn]; exact h))
  have HFS := Lib.hid (fun (z : P3) W (h : Below w.heap.size w W) (hz : lbIs z) => frN_spec A n c zs z W hn (by omega) (hA.below h) ha hz)
  have HLN := Lib.hid (show (natI (orL (rtN zs) n)).length = n by rw [List.length_map, orL_len])
  have HOA := Lib.hid (fun p (h : p < n) => orA_at (rtN zs) h)
  have HOT := Lib.hid (fun p (h : p < n) => orA_lt (rtN zs) h)
  have HBD := Lib.hid (ip_bd (zs := zs) h0)
  have HFR := Lib.hid (fun i (h : i < n) => show frN (rtN zs) (lfN zs) n (orA (rtN zs) n i) ≤ i from by have := fr_le ha i (by omega); rwa [hn] at this)
  have HIC := Lib.hid (fun k => show ipC zs v k = (v.getD (k + 1) 0 ≤ 1000000000000 ∧ v.getD k 0 ≤ v.getD (k + 1) 0 ∧ woN zs (orA (rtN zs) zs.length k) + v.getD (frN (rtN zs) (lfN zs) zs.length (orA (rtN zs) zs.length k)) 0 ≤ v.getD (k + 1) 0) from rfl)
  rw [hn] at HIC
  have HWB := Lib.hid (fun k => woN_bd ha k)
  have v0 := cs_at (cs := v) (k := 0) (by omega)
  have HX := Lib.hid (fun W (hg : Gr w W) => (hB.gr hg).at_ v0)
  rw [h0] at HX
  clear hA hB hn hm v0 ha h h40
  go_enter Tryd.func57, Tryd.ntmps57
  go_wp2_with fail
  refine (HC.out).mono ?_
  rintro e w2 ⟨rfl, hg2⟩
  obtain ⟨gv, ov, rfl, hgv, c0⟩ := HX.out _ hg2
  rw [Nat.add_zero] at c0
  go_wp2_with fail
  refine (HO.out _ hg2.below).mono ?_
  rintro e w3 ⟨⟨vo, rfl, hvo⟩, hb3⟩
  obtain ⟨AO, cO, rfl, hAO⟩ := Lst.slice hvo
  rw [HLN.out]
  have HS := Lib.hid hAO
  have HW3 := Lib.hid (hg2.below.trans (hb3.mono hg2.below.size))
  have hs3 := HW3.out.size
  clear hg2 hb3 hvo hAO c0 hgv
  go_wp2
  go_loopw [8] (fun i wr => ∃ k : Nat, k ≤ n ∧ i = .int .i64 k ∧ Hid (∀ j, j < k → ipC zs v j) ∧ Gr w3 wr) (fun i _ => n - (intOf i).toNat)
  case atStart => exact ⟨0, by omega, rfl, Lib.hid (fun j h => absurd h (by omega)), Gr.refl _⟩
  case round =>
    obtain ⟨k, hk, rfl, hI, hG⟩ := hrel
    have HWR := Lib.hid (HW3.out.trans (hG.below.mono hs3))
    by_cases hlt : k < n
    · have hot := HOT.out k hlt
      have hfk := HFR.out k hlt
      have hok : ((natI (orL (rtN zs) n)).map vi)[k]? = some (vi ((orA (rtN zs) n k : Nat) : Int)) := by rw [List.getElem?_map, List.getElem?_map, HOA.out k hlt]; rfl
      obtain ⟨gs, os, rfl, hgs, s0⟩ := (HS.out.gr hG).at_ hok
      have hz := tkN_at (zs := zs) (k := orA (rtN zs) n k) (by rw [HL.out]; exact hot)
      obtain ⟨ga, oa, rfl, hga, x0, x1, x2⟩ := (HA.out wr HWR.out).at3 hz
      have hzi := HZ.out (orA (rtN zs) n k) hot
      have HFK := fun W (h : Gr wr W) => HFS.out (tkN zs (orA (rtN zs) n k)) W (HWR.out.trans (h.below.mono HWR.out.size)) hzi
      have HWS := fun W => worth_spec (tkN zs (orA (rtN zs) n k)) W hzi.2.2
      rw [show frK (rtN zs) (lfT (tkN zs (orA (rtN zs) n k))) n = frN (rtN zs) (lfN zs) n (orA (rtN zs) n k) from rfl] at HFK
      rw [show 1 + 10 * (tkN zs (orA (rtN zs) n k)).2.2 = woN zs (orA (rtN zs) n k) from rfl] at HWS
      have HVC := Lib.hid (fun W (h : Gr wr W) q (hq : q < n + 1) => show W.cell? ⟨gv, ov + q, none⟩ = some (vi (v.getD q 0)) ∧ gv < W.heap.size from by
        obtain ⟨g2, o2, e2, l2, y2⟩ := (HVB.out W (HWR.out.trans (h.below.mono HWR.out.size))).at_ (cs_at (cs := v) (k := q) (by rw [HM.out]; exact hq))
        injection e2 with e2
        injection e2 with e2a e2b
        subst e2a e2b
        exact ⟨y2, l2⟩)
      have HI1 := Lib.hid (fun (h : ipC zs v k) => show ∀ j, j < k + 1 → ipC zs v j from fun j hj => by
        rcases Nat.lt_or_ge j k with h1 | h1
        · exact hI.out j h1
        · rw [show j = k by omega]; exact h)
      have HN1 := Lib.hid (fun (h : ¬ ipC zs v k) => HVV.out.trans (HN.out (fun hh => h (hh.2.2 k hlt))))
      have HIC1 := Lib.hid (HIC.out k)
      have hb1 := HBD.out k hI.out
      have hb2 := HBD.out (frN (rtN zs) (lfN zs) n (orA (rtN zs) n k)) (fun j hj => hI.out j (by omega))
      have hb3 := HWB.out (orA (rtN zs) n k)
      have hotn : ((orA (rtN zs) n k : Nat) : Int) < (n : Int) := by omega
      have HGR := Lib.hid hG
      clear hok hz hzi hG
      generalize tkN zs (orA (rtN zs) n k) = z at *
      generalize woN zs (orA (rtN zs) n k) = wo at *
      generalize hfe : frN (rtN zs) (lfN zs) n (orA (rtN zs) n k) = fr at *
      generalize orA (rtN zs) n k = oj at *
      clear hfe
      obtain ⟨za, zb, zc⟩ := z
      simp only [tkV] at HWS HFK
      simp only at x0 x1 x2
      replace HWS := Lib.hid HWS
      replace HFK := Lib.hid HFK
      go_wp2_with fail
      refine (HFK.out _ (by repeat (first | with_reducible exact Gr.refl _ | with_reducible refine Gr.alloc ?_ _ | with_reducible refine Gr.gr ?_ _ _ | with_reducible refine Gr.drew ?_ | with_reducible refine Gr.drewN ?_ _))).mono ?_
      rintro e w5 ⟨rfl, hg5⟩
      have hG5 : Gr wr w5 := Gr.trans (show Gr wr _ from (by repeat (first | with_reducible exact Gr.refl _ | with_reducible refine Gr.alloc ?_ _ | with_reducible refine Gr.gr ?_ _ _ | with_reducible refine Gr.drew ?_ | with_reducible refine Gr.drewN ?_ _))) hg5
      have hT := (Row.new wr 60 [.int .i64 za, .int .i64 zb, .int .i64 zc]).gr hg5
      have t0 := hT.cell 0
      have t1 := hT.cell 1
      have t2 := hT.cell 2
      simp only [List.getElem?_cons_zero, List.getElem?_cons_succ] at t0 t1 t2
      have htl := hT.lt
      obtain ⟨y1, hgv5⟩ := HVC.out _ hG5 (k + 1) (by omega)
      have y0 := (HVC.out _ hG5 k (by omega)).1
      have yf := (HVC.out _ hG5 fr (by omega)).1
      have HG5 := Lib.hid (HGR.out.trans hG5)
      clear x0 x1 x2 s0 hga hgs hg5 hG5 hT
      generalize v.getD fr 0 = vf at *
      generalize v.getD (k + 1) 0 = y at *
      generalize v.getD k 0 = x at *
      have hk1 : (k : Int) + 1 < (n : Int) + 1 := by omega
      have hk2 : (0 : Int) ≤ (k : Int) + 1 := by omega
      have hk3 : (k : Int) < (n : Int) + 1 := by omega
      have hk4 : (fr : Int) < (n : Int) + 1 := by omega
      have hwk : IntKind.i64.wrap ((k : Int) + 1) = (k : Int) + 1 := IntWalk.i64_in _ (by omega)
      have hww : IntKind.i64.wrap (wo + vf) = wo + vf := IntWalk.i64_in _ (by omega)
      have HIS := Lib.hid (fun W => (is_any y W).mono fun e w' ⟨a, b⟩ => show _ ∧ w' = W from ⟨a, b.symm⟩)
      have HIG := Lib.hid (fun W => (is_any y W))
      by_cases hc0 : vl y = true
      rotate_left
      · have hc0' : vl y = false := by simpa using hc0
        have HQ := Lib.hid (HN1.out (by
          rw [HIC1.out]; intro h
          apply hc0
          rw [vl_iff]
          omega))
        rw [hc0'] at HIS
        clear HIC1 hc0 hc0'
        go_wp2
        go_quiet (exact Calls.quiet_of_same (HIS.out _))
        go_wp2
        ((try simp only [Exit.inBlock, Exit.then]); refine bodyPost_ret (v := .tuple #[.bool false, .int .i64 0]) (by simp [results, Tryd.results57, go_sem]) rfl ?_)
        exact ⟨by rw [HQ.out], Gr.of_below (HW3.out.trans ((HG5.out.trans (by repeat (first | with_reducible exact Gr.refl _ | with_reducible refine Gr.alloc ?_ _ | with_reducible refine Gr.gr ?_ _ _ | with_reducible refine Gr.drew ?_ | with_reducible refine Gr.drewN ?_ _))).below.mono hs3))⟩
      have hyb := (vl_iff y).1 hc0
      rw [hc0] at HIS HIG
      by_cases hc1 : x ≤ y
      rotate_left
      · have HQ := Lib.hid (HN1.out (by rw [HIC1.out]; exact fun h => hc1 h.2.1))
        have hd1 : decide (y < x) = true := decide_eq_true (by omega)
        clear HIC1 hc0
        go_wp2
        go_quiet (exact Calls.quiet_of_same (HIS.out _))
        go_wp2
        ((try simp only [Exit.inBlock, Exit.then]); refine bodyPost_ret (v := .tuple #[.bool false, .int .i64 0]) (by simp [results, Tryd.results57, go_sem]) rfl ?_)
        exact ⟨by rw [HQ.out], Gr.of_below (HW3.out.trans ((HG5.out.trans (by repeat (first | with_reducible exact Gr.refl _ | with_reducible refine Gr.alloc ?_ _ | with_reducible refine Gr.gr ?_ _ _ | with_reducible refine Gr.drew ?_ | with_reducible refine Gr.drewN ?_ _))).below.mono hs3))⟩
      have hd1 : decide (y < x) = false := decide_eq_false (by omega)
      have HWT := Lib.hid HWS.out
      by_cases hc2 : wo + vf ≤ y
      · have HQ := Lib.hid (HI1.out (by rw [HIC1.out]; exact ⟨by omega, hc1, hc2⟩))
        have hd2 : decide (y < wo + vf) = false := decide_eq_false (by omega)
        clear HIC1 hc0
        go_wp2
        ((first | refine region_gr_on (by kernel_rfl) (by kernel_rfl) ?_ | refine region_gr (by kernel_rfl) (by kernel_rfl) ?_); (repeat (quiet_step (first | exact Calls.gr_same (HIG.out _) | exact Calls.gr_of (HWT.out _)))); refine wpQuiet_nil ?_; intro _ hw'; obtain ⟨⟨kq, oq⟩, hw''⟩ := hw'; subst hw'')
        go_wp2
        go_roundw
        case rel => exact ⟨k + 1, by omega, by go_num, HQ, HG5.out.trans (by repeat (first | with_reducible exact Gr.refl _ | with_reducible refine Gr.alloc ?_ _ | with_reducible refine Gr.gr ?_ _ _ | with_reducible refine Gr.drew ?_ | with_reducible refine Gr.drewN ?_ _))⟩
        case measure => simp [intOf] <;> omega
      · have HQ := Lib.hid (HN1.out (by rw [HIC1.out]; exact fun h => hc2 h.2.2))
        have hd2 : decide (y < wo + vf) = true := decide_eq_true (by omega)
        clear HIC1 hc0
        go_wp2
        ((first | refine region_gr_on (by kernel_rfl) (by kernel_rfl) ?_ | refine region_gr (by kernel_rfl) (by kernel_rfl) ?_); (repeat (quiet_step (first | exact Calls.gr_same (HIG.out _) | exact Calls.gr_of (HWT.out _)))); refine wpQuiet_nil ?_; intro _ hw'; obtain ⟨⟨kq, oq⟩, hw''⟩ := hw'; subst hw'')
        go_wp2
        ((try simp only [Exit.inBlock, Exit.then]); refine bodyPost_ret (v := .tuple #[.bool false, .int .i64 0]) (by simp [results, Tryd.results57, go_sem]) rfl ?_)
        exact ⟨by rw [HQ.out], Gr.of_below (HW3.out.trans ((HG5.out.trans (by repeat (first | with_reducible exact Gr.refl _ | with_reducible refine Gr.alloc ?_ _ | with_reducible refine Gr.gr ?_ _ _ | with_reducible refine Gr.drew ?_ | with_reducible refine Gr.drewN ?_ _))).below.mono hs3))⟩
    · obtain rfl : k = n := by omega
      have HQ := Lib.hid (HVV.out.trans (HY.out ⟨by simp, h0, hI.out⟩))
      go_wp2
      ((try simp only [Exit.inBlock, Exit.then]); refine bodyPost_ret (v := .tuple #[.bool true, .int .i64 0]) (by simp [results, Tryd.results57, go_sem]) rfl ?_)
      exact ⟨by rw [HQ.out], Gr.of_below HWR.out⟩
end Go.Proofs.YtggflladheemoaaDoor

/- Contracts of chapter 9: the best choice, in the program. -/
namespace Go.Proofs.YtggflladheemoaaDoor
open Go.RowKit Go.Shelf
set_option linter.unusedVariables false
set_option linter.unusedSimpArgs false

def bcF (zs : List P3) : Nat → Bool := bcS (rtN zs) (lfN zs) (woN zs) zs.length zs.length (fun _ => false)
def bcL (zs : List P3) : List Int := if lbE zs = 0 then natI (lsS zs.length (bcF zs)) else []

set_option maxRecDepth 100000 in
set_option maxHeartbeats 4000000 in
theorem bc_impl1 (A : Option Addr) (n c : Nat) (zs : List P3) (w : World) (ht : Tab w) (hn : zs.length = n) (hA : Reads w w.heap.size A (cells3 zs)) (h0 : lbE zs = 0) :
    Calls Tryd.prog 44 #[.slice A n c] w fun e w' => (∃ v, e = .returned (.tuple #[v, .int .i64 0]) ∧ Lst w' w.heap.size v (natI (lsS n (bcF zs)))) ∧ Below w.heap.size w w' := by
  obtain ⟨h40, ha⟩ := lbE_zero h0
  have hn40 : n ≤ 40 := by omega
  have HC := Lib.hid (lbcode_impl A n c zs w hn (by omega) hA)
  rw [h0] at HC
  have HP := Lib.hid (fun W (hg : Gr w W) => ps_impl A n c zs W (ht.gr hg) hn hn40 (hA.gr hg) ha)
  have HQ := Lib.hid (fun W (AS : Option Addr) (cS : Nat) (hS : Reads W W.heap.size AS ((stL zs n n).flatMap cl4)) => lp_impl AS n cS zs W hn hn40 ha hS)
  have HLN := Lib.hid (stL_len zs n n)
  have HLP := Lib.hid (pvL_len (rtN zs) (lfN zs) (woN zs) n n)
  have HSA := Lib.hid (fun p (h : p < n) => stL_at zs n p h)
  have HVA := Lib.hid (fun i (h : i ≤ n) => pvL_at (rtN zs) (lfN zs) (woN zs) n n i h)
  have HOT := Lib.hid (fun p (h : p < n) => orA_lt (rtN zs) h)
  have HFR := Lib.hid (fun i (h : i < n) => show frN (rtN zs) (lfN zs) n (orA (rtN zs) n i) ≤ i from by have := fr_le ha i (by omega); rwa [hn] at this)
  have HSM := Lib.hid (fun i S h => bcS_same (rtN zs) (lfN zs) (woN zs) n i S h)
  have HTK := Lib.hid (fun i S h hf => bcS_take (rtN zs) (lfN zs) (woN zs) n i S h hf)
  have HZR := Lib.hid (fun S => bcS_zero (rtN zs) (lfN zs) (woN zs) n S)
  have HBF := Lib.hid (show bcF zs = bcS (rtN zs) (lfN zs) (woN zs) n n (fun _ => false) by unfold bcF; rw [hn])
  have HI0 := Lib.hid (bcI_none (rtN zs) n)
  have HZ0 := Lib.hid (show natI (lsS n (fun _ => false)) = [] by unfold lsS; rw [List.filter_eq_nil_iff.2 (by simp)]; rfl)
  clear hA hn h0 h40 ha
  go_enter Tryd.func44, Tryd.ntmps44
  go_wp2_with fail
  refine (HC.out).mono ?_
  rintro e w2 ⟨rfl, hg2⟩
  go_wp2_with fail
  refine (HP.out _ hg2).mono ?_
  rintro e w3 ⟨⟨v, rfl, hv⟩, hb3⟩
  obtain ⟨AS, cS, rfl, hS⟩ := LstG.slice hv
  rw [HLN.out]
  have hs23 := hg2.below.size
  have hb23 := hg2.below.trans (hb3.mono hs23)
  go_wp2_with fail
  refine (HQ.out _ AS cS hS).mono ?_
  rintro e w4 ⟨⟨v4, rfl, hv4⟩, hb4⟩
  obtain ⟨AV, cV, rfl, hV⟩ := Lst.slice hv4
  rw [HLP.out]
  have HS := Lib.hid (hS.below hb4)
  have HV := Lib.hid hV
  have HB4 := Lib.hid (hb23.trans (hb4.mono hb23.size))
  have hO1 : Lst (w4.alloc (.cells #[] 2)) w4.heap.size (.slice (some ⟨w4.heap.size, 0, none⟩) 0 0) [] := World.ownsRow_made w4 #[] 0 (Nat.le_refl _) (Nat.zero_le _) rfl
  have HO1 := Lib.hid hO1
  have HB1 : Hid (Below w4.heap.size w4 (w4.alloc (.cells #[] 2))) := Lib.hid ((Below.refl _ _).alloc (Nat.le_refl _) _)
  clear hO1 hv hv4 hS hV hb3 hb4 hb23 hs23 hg2
  go_wp2
  generalize w4.alloc (.cells #[] 2) = w5 at *
  go_loopw [7, 8] (fun v i wr => ∃ (k : Nat) (S : Nat → Bool), k ≤ n ∧ i = .int .i64 k ∧ Hid (bcS (rtN zs) (lfN zs) (woN zs) n k S = bcF zs) ∧ Hid (bcI (rtN zs) n k S) ∧ Lst wr w4.heap.size v (natI (lsS n S)) ∧ Below w4.heap.size w4 wr) (fun _ i _ => (intOf i).toNat)
  case atStart => exact ⟨n, fun _ => false, Nat.le_refl _, rfl, Lib.hid HBF.out.symm, HI0, by rw [HZ0.out]; exact HO1.out, HB1.out⟩
  case round =>
    obtain ⟨k, S, hk, rfl, hE, hI, hO, hB⟩ := hrel
    have hsz := hB.size
    by_cases hk0 : k = 0
    · subst hk0
      have HE := Lib.hid (show S = bcF zs by rw [← hE.out, HZR.out])
      go_wp2
      ((try simp only [Exit.inBlock, Exit.then]); refine bodyPost_ret (v := .tuple #[u7, .int .i64 0]) (by simp [results, Tryd.results44, go_sem]) rfl ?_)
      exact ⟨⟨_, rfl, by rw [← HE.out]; exact hO.mono HB4.out.size⟩, HB4.out.trans (hB.mono HB4.out.size)⟩
    · obtain ⟨j, rfl⟩ : ∃ j, k = j + 1 := ⟨k - 1, by omega⟩
      have hjn : j < n := by omega
      have hfj := HFR.out j hjn
      have hot := HOT.out j hjn
      have HSM1 := Lib.hid (HSM.out j S)
      have HTK1 := Lib.hid (fun h => HTK.out j S h hfj)
      have HIN := Lib.hid (bcI_new (rtN zs) hI.out hjn)
      have HIS := Lib.hid (bcI_same (rtN zs) hI.out)
      have HIT := Lib.hid (bcI_take (rtN zs) hI.out hjn hfj)
      have va : ((pvL (rtN zs) (lfN zs) (woN zs) n n).map vi)[j + 1]? = some (vi (pvA (rtN zs) (lfN zs) (woN zs) n (j + 1))) := by rw [List.getElem?_map, HVA.out (j + 1) hk]; rfl
      have vb : ((pvL (rtN zs) (lfN zs) (woN zs) n n).map vi)[j]? = some (vi (pvA (rtN zs) (lfN zs) (woN zs) n j)) := by rw [List.getElem?_map, HVA.out j (by omega)]; rfl
      obtain ⟨gv, ov, rfl, hgv, ca⟩ := (HV.out.below hB).at_ va
      obtain ⟨gv2, ov2, eg, -, cb⟩ := (HV.out.below hB).at_ vb
      injection eg with eg
      injection eg with eg1 eg2
      subst eg1 eg2
      have HSB := Lib.hid (fun W (h : Below w4.heap.size w4 W) => LstG.at4 (HS.out.below h) (HSA.out j hjn))
      obtain ⟨gs, os, rfl, hgs, s0, -, -, s3⟩ := HSB.out wr hB
      rw [show (stepP zs n (orA (rtN zs) n j)).1 = ((orA (rtN zs) n j : Nat) : Int) from rfl] at s0
      rw [show (stepP zs n (orA (rtN zs) n j)).2.2.2 = ((frN (rtN zs) (lfN zs) n (orA (rtN zs) n j) : Nat) : Int) from rfl] at s3
      have HS3 := Lib.hid (fun W (h : Below w4.heap.size w4 W) => show W.cell? ⟨gs, os + j * 4 + 3, none⟩ = some (vi ((frN (rtN zs) (lfN zs) n (orA (rtN zs) n j) : Nat) : Int)) ∧ gs < W.heap.size from by
        obtain ⟨g2, o2, e2, h2, -, -, -, x3⟩ := HSB.out W h
        injection e2 with e2
        injection e2 with e2a e2b
        subst e2a e2b
        exact ⟨x3, h2⟩)
      have hwj : IntKind.i64.wrap ((j : Int) + 1 - 1) = (j : Int) := by rw [show (j : Int) + 1 - 1 = j by omega]; exact IntWalk.i64_in _ (by omega)
      have hwj2 : IntKind.i64.wrap (j : Int) = (j : Int) := IntWalk.i64_in _ (by omega)
      have hj1 : ((j + 1 : Nat) : Int) - 1 = (j : Int) := by omega
      have hj2 : (j : Int) < (n : Int) + 1 := by omega
      have hj3 : (j : Int) + 1 < (n : Int) + 1 := by omega
      have hj4 : (j : Int) < (n : Int) := by omega
      have hj5 : (0 : Int) ≤ (j : Int) + 1 := by omega
      have hj6 : j < n + 1 := by omega
      have HO := Lib.hid hO
      have HB := Lib.hid hB
      clear va vb hO hB hk0
      by_cases hc : pvA (rtN zs) (lfN zs) (woN zs) n (j + 1) = pvA (rtN zs) (lfN zs) (woN zs) n j
      · have HE2 := Lib.hid ((HSM1.out hc).symm.trans hE.out)
        rw [hc] at ca
        generalize pvA (rtN zs) (lfN zs) (woN zs) n j = q at *
        clear hc s0 s3
        go_wp2
        ((first | refine region_gr_on (by kernel_rfl) (by kernel_rfl) ?_ | refine region_gr (by kernel_rfl) (by kernel_rfl) ?_); (repeat (quiet_step (fail))); refine wpQuiet_nil ?_; intro _ hw'; obtain ⟨⟨kq, oq⟩, hw''⟩ := hw'; subst hw'')
        have hG : Gr wr (gr wr kq oq) := ⟨kq, oq, rfl⟩
        have HO2 := Lib.hid (Lst.below HO.out hG.below)
        have HB2 := Lib.hid (HB.out.trans (hG.below.mono hsz))
        clear hG
        generalize gr wr kq oq = wq at *
        go_wp2
        go_roundw
        case rel => exact ⟨j, S, by omega, by congr 1, HE2, HIS, HO2.out, HB2.out⟩
        case measure => simp [intOf] <;> omega
      · have HE2 := Lib.hid ((HTK1.out hc).symm.trans hE.out)
        have hcb : (pvA (rtN zs) (lfN zs) (woN zs) n (j + 1) == pvA (rtN zs) (lfN zs) (woN zs) n j) = false := by simpa using hc
        have HLS := Lib.hid (lsS_insZ n S (orA (rtN zs) n j) hot HIN.out)
        have hKl := lsS_len n S
        have hKl2 : (natI (lsS n S)).length = (lsS n S).length := List.length_map _
        have HINS := Lib.hid (fun w6 (hg : Gr wr w6) => insI_any 117 #[] ltZ ((orA (rtN zs) n j : Nat) : Int) u7 (natI (lsS n S)) w4.heap.size w6 (by omega) (by have := hg.below.size; omega) (Lst.below HO.out hg.below) enters_less (fun W _ y _ => less_cb _ y W))
        generalize pvA (rtN zs) (lfN zs) (woN zs) n (j + 1) = q1 at *
        generalize pvA (rtN zs) (lfN zs) (woN zs) n j = q at *
        generalize hoe : orA (rtN zs) n j = oj at *
        generalize hfe : frN (rtN zs) (lfN zs) n oj = fr at *
        clear hoe hfe s3 hKl hKl2
        go_wp2
        ((first | refine region_gr_on (by kernel_rfl) (by kernel_rfl) ?_ | refine region_gr (by kernel_rfl) (by kernel_rfl) ?_); (repeat (quiet_step (fail))); refine wpQuiet_nil ?_; intro _ hw'; obtain ⟨⟨kq, oq⟩, hw''⟩ := hw'; subst hw'')
        have hG : Gr wr (gr wr kq oq) := ⟨kq, oq, rfl⟩
        have HGQ := Lib.hid hG
        have s0' := (hG.below.cell (p := ⟨gs, os + j * 4, none⟩) hgs).trans s0
        have hgs' : gs < (gr wr kq oq).heap.size := by have := hG.below.size; omega
        clear hG s0 ca cb
        generalize gr wr kq oq = wq at *
        go_wp2_with fail
        refine (HINS.out _ HGQ.out).mono ?_
        rintro e w7 ⟨⟨v7, rfl, hv7, -⟩, hb7⟩
        have HB7 := Lib.hid ((HB.out.trans (HGQ.out.below.mono hsz)).trans (Lst.below_of (Lst.below HO.out HGQ.out.below) (by have := HGQ.out.below.size; omega) hb7))
        have HV7 := Lib.hid hv7
        obtain ⟨s3, hgs7⟩ := HS3.out w7 HB7.out
        clear hv7 hb7
        go_wp2
        go_roundw
        case rel => exact ⟨fr, fun i => S i || i == oj, by omega, rfl, HE2, HIT, by rw [← HLS.out]; exact HV7.out, HB7.out⟩
        case measure => simp [intOf] <;> omega
set_option maxRecDepth 100000 in
theorem bc_impl (A : Option Addr) (n c : Nat) (zs : List P3) (w : World) (ht : Tab w) (hn : zs.length = n) (hN : n ≤ 16777216) (hA : Reads w w.heap.size A (cells3 zs)) :
    Calls Tryd.prog 44 #[.slice A n c] w fun e w' => (∃ v, e = .returned (.tuple #[v, .int .i64 (lbE zs)]) ∧ Lst w' w.heap.size v (bcL zs)) ∧ Below w.heap.size w w' := by
  have HC := Lib.hid (lbcode_impl A n c zs w hn hN hA)
  have HNIL := Lib.hid (fun W => World.ownsRow_nil W w.heap.size 2 1)
  have HV := Lib.hid (show bcL zs = if lbE zs = 0 then natI (lsS zs.length (bcF zs)) else [] from rfl)
  by_cases h : lbE zs = 0
  · rw [if_pos h, hn] at HV
    rw [HV.out, h]
    exact bc_impl1 A n c zs w ht hn hA h
  · rw [if_neg h] at HV
    rw [HV.out]
    have hc0 : (lbE zs == 0) = false := by simpa using h
    generalize lbE zs = cd at *
    clear hA hn HV
    go_enter Tryd.func44, Tryd.ntmps44
    go_wp2_with fail
    refine (HC.out).mono ?_
    rintro e w2 ⟨rfl, hg2⟩
    go_wp2_with fail
    ((try simp only [Exit.inBlock, Exit.then]); refine bodyPost_ret (v := .tuple #[.slice none 0 0, .int .i64 cd]) (by simp [results, Tryd.results44, go_sem]) rfl ?_)
    exact ⟨⟨_, rfl, HNIL.out _⟩, hg2.below⟩
end Go.Proofs.YtggflladheemoaaDoor

/- Contracts of chapter 9: the choice that takes the higher ticks first. -/
namespace Go.Proofs.YtggflladheemoaaDoor
open Go.RowKit Go.Shelf
set_option linter.unusedVariables false
set_option linter.unusedSimpArgs false

def gcL (zs : List P3) : List Int := if lbE zs = 0 then natI (lsS zs.length (kpS zs zs.length (coN zs) (byH zs zs.length))) else []

set_option maxRecDepth 100000 in
theorem gc_impl (A : Option Addr) (n c : Nat) (zs : List P3) (w : World) (ht : Tab w) (hn : zs.length = n) (hN : n ≤ 16777216) (hA : Reads w w.heap.size A (cells3 zs)) :
    Calls Tryd.prog 48 #[.slice A n c] w fun e w' => (∃ v, e = .returned (.tuple #[v, .int .i64 (lbE zs)]) ∧ Lst w' w.heap.size v (gcL zs)) ∧ Below w.heap.size w w' := by
  have HC := Lib.hid (lbcode_impl A n c zs w hn hN hA)
  have HNIL := Lib.hid (fun W => World.ownsRow_nil W w.heap.size 2 1)
  have HV := Lib.hid (show gcL zs = if lbE zs = 0 then natI (lsS zs.length (kpS zs zs.length (coN zs) (byH zs zs.length))) else [] from rfl)
  by_cases h : lbE zs = 0
  rotate_left
  · rw [if_neg h] at HV
    rw [HV.out]
    have hc0 : (lbE zs == 0) = false := by simpa using h
    generalize lbE zs = cd at *
    clear hA hn HV
    go_enter Tryd.func48, Tryd.ntmps48
    go_wp2_with fail
    refine (HC.out).mono ?_
    rintro e w2 ⟨rfl, hg2⟩
    go_wp2_with fail
    ((try simp only [Exit.inBlock, Exit.then]); refine bodyPost_ret (v := .tuple #[.slice none 0 0, .int .i64 cd]) (by simp [results, Tryd.results48, go_sem]) rfl ?_)
    exact ⟨⟨_, rfl, HNIL.out _⟩, hg2.below⟩
  obtain ⟨h40, ha⟩ := lbE_zero h
  have HK := Lib.hid (fun W (hg : Gr w W) => keepHighest_any A n c zs 123 #[] (coN zs) W hn (by omega) (hA.gr hg) (allL_allH ha) enters_near (fun W' hb i k x y hx hy => near_cb zs ha i k x y hx hy W' ((ht.gr hg).later hb)))
  rw [if_pos h, hn] at HV
  rw [HV.out]
  rw [h] at HC ⊢
  generalize natI (lsS n (kpS zs n (coN zs) (byH zs n))) = L at *
  clear hA hn h ha h40 HV
  go_enter Tryd.func48, Tryd.ntmps48
  go_wp2_with fail
  refine (HC.out).mono ?_
  rintro e w2 ⟨rfl, hg2⟩
  go_wp2_with fail
  refine (HK.out _ hg2).mono ?_
  rintro e w3 ⟨⟨v, rfl, hv⟩, hb3⟩
  go_wp2_with fail
  ((try simp only [Exit.inBlock, Exit.then]); refine bodyPost_ret (v := .tuple #[v, .int .i64 0]) (by simp [results, Tryd.results48, go_sem]) rfl ?_)
  exact ⟨⟨_, rfl, hv.mono hg2.below.size⟩, hg2.below.trans (hb3.mono hg2.below.size)⟩

set_option maxRecDepth 100000 in
set_option maxHeartbeats 8000000 in
theorem gc_spec1 (A : Option Addr) (k c : Nat) (zs : List P3) (w : World) (hn : zs.length = k) (hA : Reads w w.heap.size A (cells3 zs)) (h0 : lbE zs = 0) :
    Calls Tryd.prog 49 #[.slice A k c] w fun e w' => (∃ v, e = .returned (.tuple #[v, .int .i64 0]) ∧ Lst w' w.heap.size v (natI (lsS k (kpS zs k (coN zs) (byH zs k))))) ∧ Below w.heap.size w w' := by
  obtain ⟨h40, ha⟩ := lbE_zero h0
  rw [hn] at h40
  have HC := Lib.hid (lbcode_spec A k c zs w hn (by omega) hA)
  rw [h0] at HC
  have HL := Lib.hid hn
  have hH := allL_allH ha
  have HHB := Lib.hid (fun k => tkH_bd hH k)
  have HIS := Lib.hid (fun (i : Nat) (h : i < k) => tkN_is ha (k := i) (by rw [hn]; exact h))
  have HGA := Lib.hid (gH_all zs k)
  have hmk := mkBools k (by omega)
  obtain ⟨i0, hi, hz0, hz1, hz2⟩ := info_parts info_i7
  clear h0 hH hn ha
  go_enter Tryd.func49, Tryd.ntmps49
  go_wp2_with fail
  refine (HC.out).mono ?_
  rintro e w2 ⟨rfl, hg2⟩
  have HA := Lib.hid (hA.gr hg2)
  have HGB := Lib.hid hg2.below
  clear hA hg2
  go_wp2
  clear hmk
  have HR1 : Hid (Row (w2.alloc (.cells (Array.replicate k (.bool false)) 4)) w2.heap.size 4 (flS k (kpS zs k (coN zs) (gH zs k 0)))) := Lib.hid (by
    rw [show kpS zs k (coN zs) (gH zs k 0) = fun _ => false from rfl, flS_none]
    have := Row.new w2 4 (List.replicate k (.bool false))
    rwa [List.toArray_replicate] at this)
  have HG1 : Hid (Below w2.heap.size w2 (w2.alloc (.cells (Array.replicate k (.bool false)) 4))) := Lib.hid (Gr.below (by repeat (first | with_reducible exact Gr.refl _ | with_reducible refine Gr.alloc ?_ _ | with_reducible refine Gr.gr ?_ _ _ | with_reducible refine Gr.drew ?_ | with_reducible refine Gr.drewN ?_ _)))
  generalize w2.alloc (.cells (Array.replicate k (.bool false)) 4) = w1 at *
  generalize hbk : w2.heap.size = bk at *
  have HHk := Lib.hid HHB.out
  go_loopw [6] (fun h wr => ∃ g : Nat, g ≤ 5 ∧ h = .int .i64 (4 - (g : Int)) ∧ Row wr bk 4 (flS k (kpS zs k (coN zs) (gH zs k g))) ∧ Below bk w2 wr) (fun h _ => (intOf h + 1).toNat)
  case atStart => exact ⟨0, by omega, rfl, HR1.out, HG1.out⟩
  case round =>
    obtain ⟨g, hg, rfl, hrow, hB⟩ := hrel
    by_cases hg5 : g < 5
    · have HE := Lib.hid (sL_end zs k (coN zs) g)
      have HS0 := Lib.hid (sL_zero zs k (coN zs) g)
      have HHit := Lib.hid (fun i => sL_hit zs k (coN zs) g i)
      have HMiss := Lib.hid (fun i => sL_miss zs k (coN zs) g i)
      have hge : (0 : Int) ≤ 4 - (g : Int) := by omega
      obtain ⟨hh, hhe⟩ : ∃ hh : Int, 4 - (g : Int) = hh := ⟨_, rfl⟩
      rw [hhe] at HHit HMiss hge ⊢
      have hh4 : hh ≤ 4 := by omega
      go_wp2
      go_loopw [7] (fun x wr => ∃ i : Nat, i ≤ k ∧ x = .int .i64 i ∧ Row wr bk 4 (flS k (sL zs k (coN zs) g i)) ∧ Below bk w2 wr) (fun x _ => k - (intOf x).toNat)
      case atStart => exact ⟨0, by omega, rfl, by rw [HS0.out]; exact hrow, hB⟩
      case round =>
        obtain ⟨i, hi2, rfl, hrow2, hB2⟩ := hrel
        by_cases hlt2 : i < k
        · obtain ⟨za, zb, hz⟩ := th_at (zs := zs) (k := i) (by rw [HL.out]; exact hlt2)
          have hAr : Reads wr wr.heap.size A (cells3 zs) := by
            have h1 := hB2.size
            exact HA.out.keep (show bk ≤ wr.heap.size by omega) hB2.block
          obtain ⟨ga, oa, eA, hga, x0, x1, x2⟩ := hAr.at3 hz
          have HAr := Lib.hid hAr
          have hsz2 := hB2.size
          have hbl := hrow2.lt
          have hbk2 : bk ≤ wr.heap.size := by omega
          have HROW := Lib.hid hrow2
          have HB2 := Lib.hid hB2
          simp only at x0 x1 x2
          have hti : tkN zs i = (za, zb, tkH zs i) := tkN_of hz
          clear hz hAr hrow2 hB2
          subst eA
          by_cases he : tkH zs i = hh
          · have HS := Lib.hid (HHit.out i he)
            have heq : (hh == hh) = true := by simp
            rw [he] at x2 hti
            have HAP := Lib.hid (apP_succ zs (coN zs) (sL zs k (coN zs) g i) i)
            have HAZ := Lib.hid (apP_zero zs (coN zs) (sL zs k (coN zs) g i) i)
            have HST := Lib.hid (show stS zs k (coN zs) (sL zs k (coN zs) g i) i = if apP zs (coN zs) (sL zs k (coN zs) g i) i k = true then fun j => sL zs k (coN zs) g i j || j == i else sL zs k (coN zs) g i from rfl)
            generalize sL zs k (coN zs) g i = S at *
            go_wp2
            go_loopw [8, 9] (fun b x wr4 => ∃ m : Nat, m ≤ k ∧ x = .int .i64 m ∧ b = .bool (apP zs (coN zs) S i m) ∧ Gr wr wr4) (fun _ x _ => k - (intOf x).toNat)
            case atStart => exact ⟨0, by omega, rfl, by rw [HAZ.out], Gr.refl _⟩
            case round =>
              obtain ⟨m, hm, rfl, rfl, hG4⟩ := hrel
              obtain ⟨k0, os0, rfl⟩ := hG4
              by_cases hlt3 : m < k
              · have HS1 := Lib.hid (HAP.out m)
                obtain ⟨⟨ya, yb, yc⟩, hy⟩ := some_at (l := zs) (k := m) (by rw [HL.out]; exact hlt3)
                have htm : tkN zs m = (ya, yb, yc) := tkN_of hy
                obtain ⟨g2, o2, e2, -, y0, y1, y2⟩ := HAr.out.at3 hy
                injection e2 with e2
                injection e2 with e2a e2b
                subst e2a e2b
                simp only at y0 y1 y2
                have c0 := HROW.out.cell m
                rw [flS_at _ _ _ hlt3] at c0
                have HCC := fun W => collide_spec (tkN zs i) (tkN zs m) W (HIS.out i hlt2) (HIS.out m hlt3)
                rw [show coN zs i m = coT (tkN zs i) (tkN zs m) from rfl, hti, htm] at HS1
                rw [hti, htm] at HCC
                simp only [tkV] at HCC
                replace HCC := Lib.hid HCC
                generalize coT (za, zb, hh) (ya, yb, yc) = cb at *
                have hmk : (m : Int) < (k : Int) := by omega
                have hik : (i : Int) < (k : Int) := by omega
                clear htm
                clear hy
                cases hs0 : apP zs (coN zs) S i m
                · rw [hs0] at HS1
                  clear hs0
                  go_wp2
                  go_quiet (fail)
                  go_wp2
                  go_roundw
                  case rel => exact ⟨m + 1, by omega, by go_num, by rw [HS1.out]; rfl, (by repeat (first | with_reducible exact Gr.refl _ | with_reducible refine Gr.alloc ?_ _ | with_reducible refine Gr.gr ?_ _ _ | with_reducible refine Gr.drew ?_ | with_reducible refine Gr.drewN ?_ _))⟩
                  case measure => simp [intOf]; omega
                · rw [hs0] at HS1
                  clear hs0
                  cases hs1 : S m
                  · rw [hs1] at HS1 c0
                    clear hs1
                    go_wp2
                    go_quiet (fail)
                    go_wp2
                    go_roundw
                    case rel => exact ⟨m + 1, by omega, by go_num, by rw [HS1.out]; rfl, (by repeat (first | with_reducible exact Gr.refl _ | with_reducible refine Gr.alloc ?_ _ | with_reducible refine Gr.gr ?_ _ _ | with_reducible refine Gr.drew ?_ | with_reducible refine Gr.drewN ?_ _))⟩
                    case measure => simp [intOf]; omega
                  · rw [hs1] at HS1 c0
                    clear hs1
                    go_wp2
                    ((first | refine region_gr_on (by kernel_rfl) (by kernel_rfl) ?_ | refine region_gr (by kernel_rfl) (by kernel_rfl) ?_); (repeat (quiet_step (exact Calls.gr_of (HCC.out _)))); refine wpQuiet_nil ?_; intro _ hw'; obtain ⟨⟨kq, oq⟩, hw''⟩ := hw'; subst hw'')
                    go_wp2
                    go_roundw
                    case rel => exact ⟨m + 1, by omega, by go_num, by rw [HS1.out]; simp, (by repeat (first | with_reducible exact Gr.refl _ | with_reducible refine Gr.alloc ?_ _ | with_reducible refine Gr.gr ?_ _ _ | with_reducible refine Gr.drew ?_ | with_reducible refine Gr.drewN ?_ _))⟩
                    case measure => simp [intOf]; omega
              · obtain rfl : m = k := by omega
                have HRG := Lib.hid (HROW.out.gr ⟨k0, os0, rfl⟩)
                have hb3 : Below bk w2 (gr wr k0 os0) := HB2.out.trans ((Gr.below ⟨k0, os0, rfl⟩).mono hbk2)
                cases hs0 : apP zs (coN zs) S i m
                · rw [hs0, if_neg (by simp)] at HST
                  clear hs0
                  go_wp2
                  go_roundw
                  case rel => exact ⟨i + 1, by omega, by go_num, by rw [HS.out, HST.out]; exact HRG.out, hb3⟩
                  case measure => simp [intOf]; omega
                · rw [hs0, if_pos rfl] at HST
                  have c0 := HRG.out.cell i
                  rw [flS_at _ _ _ hlt2] at c0
                  have f0 := HRG.out.free i
                  have hl0 := HRG.out.lt
                  have HFS := Lib.hid (flS_set m S i hlt2)
                  clear hs0
                  go_wp2
                  go_roundw
                  case rel => exact ⟨i + 1, by omega, by go_num, by rw [HS.out, HST.out, ← HFS.out]; exact (HROW.out.set i _).gr ⟨k0, os0, rfl⟩, (HB2.out.setCell (p := ⟨bk, i, none⟩) (Nat.le_refl _) _).trans ((Gr.below ⟨k0, os0, rfl⟩).mono (by simp [World.setCell]; exact hbk2))⟩
                  case measure => simp [intOf]; omega
          · have HS := Lib.hid (HMiss.out i he)
            have heq : (tkH zs i == hh) = false := by simpa using he
            generalize tkH zs i = hi' at *
            generalize sL zs k (coN zs) g i = S at *
            go_wp2
            go_loopw [8, 9] (fun b x wr4 => ∃ m : Nat, m ≤ k ∧ x = .int .i64 m ∧ b = .bool false ∧ Gr wr wr4) (fun _ x _ => k - (intOf x).toNat)
            case atStart => exact ⟨0, by omega, rfl, rfl, Gr.refl _⟩
            case round =>
              obtain ⟨m, hm, rfl, rfl, hG4⟩ := hrel
              obtain ⟨k0, os0, rfl⟩ := hG4
              by_cases hlt3 : m < k
              · go_wp2
                go_quiet (fail)
                go_wp2
                go_roundw
                case rel => exact ⟨m + 1, by omega, by go_num, rfl, (by repeat (first | with_reducible exact Gr.refl _ | with_reducible refine Gr.alloc ?_ _ | with_reducible refine Gr.gr ?_ _ _ | with_reducible refine Gr.drew ?_ | with_reducible refine Gr.drewN ?_ _))⟩
                case measure => simp [intOf]; omega
              · obtain rfl : m = k := by omega
                have HRG := Lib.hid (HROW.out.gr ⟨k0, os0, rfl⟩)
                have hb3 : Below bk w2 (gr wr k0 os0) := HB2.out.trans ((Gr.below ⟨k0, os0, rfl⟩).mono hbk2)
                go_wp2
                go_roundw
                case rel => exact ⟨i + 1, by omega, by go_num, by rw [HS.out]; exact HRG.out, hb3⟩
                case measure => simp [intOf]; omega
        · obtain rfl : i = k := by omega
          go_wp2
          go_roundw
          case rel => exact ⟨g + 1, by omega, by congr 1; omega, by rw [← HE.out]; exact hrow2, hB2⟩
          case measure => simp [intOf]; omega
    · obtain rfl : g = 5 := by omega
      rw [HGA.out] at hrow
      generalize hSe : kpS zs k (coN zs) (byH zs k) = S at *
      have HSE := Lib.hid hSe
      clear hSe
      have hsz2 : bk ≤ wr.heap.size := by have := hB.size; omega
      have HO1 : Hid (Lst (wr.alloc (.cells #[] 2)) wr.heap.size (.slice (some ⟨wr.heap.size, 0, none⟩) 0 0) []) := Lib.hid (World.ownsRow_made wr #[] 0 (Nat.le_refl _) (Nat.zero_le _) rfl)
      have HB1 : Hid (Below wr.heap.size wr (wr.alloc (.cells #[] 2))) := Lib.hid ((Below.refl _ _).alloc (Nat.le_refl _) _)
      have HROW := Lib.hid hrow
      have HBW := Lib.hid hB
      have hbl := hrow.lt
      clear hrow hB
      go_wp2
      generalize wr.alloc (.cells #[] 2) = w2 at *
      generalize hsr : wr.heap.size = sr at *
      go_loopw [10, 11] (fun v x wr5 => ∃ m : Nat, m ≤ k ∧ x = .int .i64 m ∧ Lst wr5 sr v (natI (lsS m S)) ∧ Below sr wr wr5) (fun _ x _ => k - (intOf x).toNat)
      case atStart => exact ⟨0, by omega, rfl, HO1.out, HB1.out⟩
      case round =>
        obtain ⟨m, hm, rfl, hO, hB5⟩ := hrel
        have hsz5 : sr ≤ wr.heap.size := by have := hB5.size; omega
        by_cases hlt3 : m < k
        · have HLS := Lib.hid (lsS_succ S m)
          have hrow5 := HROW.out.below hB5 (by omega)
          have c0 := hrow5.cell m
          rw [flS_at _ _ _ hlt3] at c0
          have hml := lsS_len m S
          have hml2 : (natI (lsS m S)).length = (lsS m S).length := List.length_map _
          have HO := Lib.hid hO
          have HB5 := Lib.hid hB5
          clear hO hB5
          cases hs1 : S m
          · rw [hs1] at HLS c0
            clear hs1
            go_wp2
            go_roundw
            case rel => exact ⟨m + 1, by omega, by go_num, by rw [HLS.out, if_neg (by simp), List.append_nil]; exact HO.out, HB5.out⟩
            case measure => simp [intOf]; omega
          · rw [hs1] at HLS c0
            clear hs1
            go_wp2_with (at_builtin; refine wpList_append_own _ rfl _ _ 52 rfl sr 2 i0 (.int .i64 0) 1 8 Tryd.underlying52 hi hz0 hz1 hz2 rfl (by decide) _ _ _ rfl (HO.out.alloc _) ⟨wr.heap.size, 0, none⟩ 1 1 [.int .i64 m] rfl rfl (one_cell_new _ _ _) (by simp [Value.oneCell']) (by unfold maxLen; omega) (by omega) (by simp; omega) ?_; intro v' w6 hown' hgrow _; obtain ⟨hA1, hA2⟩ := Lst.app (xs := natI (lsS m S)) (x := (m : Int)) HB5.out hsz5 (HO.out.alloc _) hown' hgrow; have HA1 : Hid (Lst w6 sr v' (natI (lsS m S) ++ [(m : Int)])) := Lib.hid hA1; have HA2 : Hid (Below sr _ w6) := Lib.hid hA2; clear hA1 hA2; clear hgrow hown')
            go_roundw
            case rel => exact ⟨m + 1, by omega, by go_num, by rw [HLS.out]; simp only [if_true]; rw [natI_snoc]; exact HA1.out, HA2.out⟩
            case measure => simp [intOf]; omega
        · obtain rfl : m = k := by omega
          go_wp2
          ((try simp only [Exit.inBlock, Exit.then]); refine bodyPost_ret (v := .tuple #[u10, .int .i64 0]) (by simp [results, Tryd.results49, go_sem]) rfl ?_)
          exact ⟨⟨_, rfl, by rw [HSE.out]; exact hO.mono (by have := HGB.out.size; omega)⟩, HGB.out.trans ((HBW.out.trans (hB5.mono hsz2)).mono (by rw [← hbk]; exact HGB.out.size))⟩

set_option maxRecDepth 100000 in
theorem gc_spec (A : Option Addr) (n c : Nat) (zs : List P3) (w : World) (hn : zs.length = n) (hN : n ≤ 16777216) (hA : Reads w w.heap.size A (cells3 zs)) :
    Calls Tryd.prog 49 #[.slice A n c] w fun e w' => (∃ v, e = .returned (.tuple #[v, .int .i64 (lbE zs)]) ∧ Lst w' w.heap.size v (gcL zs)) ∧ Below w.heap.size w w' := by
  have HC := Lib.hid (lbcode_spec A n c zs w hn hN hA)
  have HNIL := Lib.hid (fun W => World.ownsRow_nil W w.heap.size 2 1)
  have HV := Lib.hid (show gcL zs = if lbE zs = 0 then natI (lsS zs.length (kpS zs zs.length (coN zs) (byH zs zs.length))) else [] from rfl)
  by_cases h : lbE zs = 0
  · rw [if_pos h, hn] at HV
    rw [HV.out, h]
    exact gc_spec1 A n c zs w hn hA h
  · rw [if_neg h] at HV
    rw [HV.out]
    have hc0 : (lbE zs == 0) = false := by simpa using h
    generalize lbE zs = cd at *
    clear hA hn HV
    go_enter Tryd.func49, Tryd.ntmps49
    go_wp2_with fail
    refine (HC.out).mono ?_
    rintro e w2 ⟨rfl, hg2⟩
    go_wp2_with fail
    ((try simp only [Exit.inBlock, Exit.then]); refine bodyPost_ret (v := .tuple #[.slice none 0 0, .int .i64 cd]) (by simp [results, Tryd.results49, go_sem]) rfl ?_)
    exact ⟨⟨_, rfl, HNIL.out _⟩, hg2.below⟩
end Go.Proofs.YtggflladheemoaaDoor
