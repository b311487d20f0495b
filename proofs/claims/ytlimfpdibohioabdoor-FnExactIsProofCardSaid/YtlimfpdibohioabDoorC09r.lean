/- Contracts of chapter 9: whether a list is a proof. -/
import Derived.Test.YtlimfpdibohioabDoor9B
namespace Go.Proofs.YtlimfpdibohioabDoor
open Go.RowKit Go.Shelf
set_option linter.unusedVariables false
set_option linter.unusedSimpArgs false

/-- One step of a proof holds. -/
def ipC (zs : List P3) (v : List Int) (k : Nat) : Prop := v.getD (k + 1) 0 ≤ 1000000000000 ∧ v.getD k 0 ≤ v.getD (k + 1) 0 ∧ woN zs (orA (rtN zs) zs.length k) + v.getD (frN (rtN zs) (lfN zs) zs.length (orA (rtN zs) zs.length k)) 0 ≤ v.getD (k + 1) 0
instance (zs : List P3) (v : List Int) (k : Nat) : Decidable (ipC zs v k) := by unfold ipC; exact inferInstance
def ipB (zs : List P3) (v : List Int) : Bool := decide (v.length = zs.length + 1) && (decide (v.getD 0 0 = 0) && (List.range zs.length).all fun k => decide (ipC zs v k))
theorem ipB_iff (zs : List P3) (v : List Int) : ipB zs v = true ↔ v.length = zs.length + 1 ∧ v.getD 0 0 = 0 ∧ ∀ k, k < zs.length → ipC zs v k := by
  unfold ipB
  rw [Bool.and_eq_true, Bool.and_eq_true, List.all_eq_true, decide_eq_true_eq, decide_eq_true_eq]
  exact ⟨fun h => ⟨h.1, h.2.1, fun k hk => of_decide_eq_true (h.2.2 k (List.mem_range.2 hk))⟩, fun h => ⟨h.1, h.2.1, fun k hk => decide_eq_true (h.2.2 k (List.mem_range.1 hk))⟩⟩
theorem ipB_no {zs : List P3} {v : List Int} (h : ¬ (v.length = zs.length + 1 ∧ v.getD 0 0 = 0 ∧ ∀ k, k < zs.length → ipC zs v k)) : ipB zs v = false := by
  cases e : ipB zs v
  · rfl
  · exact absurd ((ipB_iff zs v).1 e) h
def ipV (zs : List P3) (v : List Int) : Bool := if lbE zs = 0 then ipB zs v else false
/-- The numbers so far. -/
theorem ip_bd {zs : List P3} {v : List Int} (h0 : v.getD 0 0 = 0) : ∀ k, (∀ j, j < k → ipC zs v j) → 0 ≤ v.getD k 0 ∧ v.getD k 0 ≤ 1000000000000
  | 0, _ => by omega
  | k + 1, h => by
    have := ip_bd h0 k (fun j hj => h j (by omega))
    have h1 := h k (by omega)
    unfold ipC at h1
    omega
theorem getD_take (v : List Int) (i j : Nat) (h : j < i) : (v.take i).getD j 0 = v.getD j 0 := by
  rw [List.getD_eq_getElem?_getD, List.getD_eq_getElem?_getD, List.getElem?_take, if_pos h]

set_option maxRecDepth 100000 in
set_option maxHeartbeats 4000000 in
theorem ip_of (AS : Option Addr) (n cS : Nat) (zs : List P3) (AV : Option Addr) (m d : Nat) (v : List Int) (w : World) (hn : zs.length = n) (hN : n ≤ 40) (ha : allL zs = true) (hA : Reads w w.heap.size AS ((stL zs n n).flatMap cl4)) (hm : v.length = m) (hM : m ≤ 2000000) (hmd : m ≤ d) (hV : Reads w w.heap.size AV (v.map vi)) :
    Calls Tryd.prog 52 #[.slice AS n cS, .slice AV m d] w fun e w' => e = .returned (.bool (ipB zs v)) ∧ Gr w w' := by
  have HN := Lib.hid (ipB_no (zs := zs) (v := v))
  have HY := Lib.hid ((ipB_iff zs v).2)
  rw [hn, hm] at HN HY
  by_cases hl : m = n + 1
  rotate_left
  · have HQ := Lib.hid (HN.out (fun h => hl h.1))
    have hml : ¬ (m : Int) = (n : Int) + 1 := by omega
    have hml2 : ((m : Int) == (n : Int) + 1) = false := by simpa using hml
    clear hA hV hn hm
    go_enter Tryd.func52, Tryd.ntmps52
    go_wp2
    go_ret
    exact ⟨ret_bool HQ.out.symm, Gr.refl _⟩
  subst hl
  have HV := Lib.hid hV
  have HM := Lib.hid hm
  have v0 := cs_at (cs := v) (k := 0) (by omega)
  obtain ⟨gv, ov, rfl, hgv, c0⟩ := hV.at_ v0
  rw [Nat.add_zero] at c0
  by_cases h0 : v.getD 0 0 = 0
  rotate_left
  · have HQ := Lib.hid (HN.out (fun h => h0 h.2.1))
    generalize v.getD 0 0 = x at *
    have hx0 : (x == 0) = false := by simpa using h0
    clear hA hV hn hm v0
    go_enter Tryd.func52, Tryd.ntmps52
    go_wp2
    go_ret
    exact ⟨ret_bool HQ.out.symm, Gr.refl _⟩
  rw [h0] at c0
  have HBD := Lib.hid (ip_bd (zs := zs) h0)
  have HFR := Lib.hid (fun i (h : i < n) => show frN (rtN zs) (lfN zs) n (orA (rtN zs) n i) ≤ i from by have := fr_le ha i (by omega); rwa [hn] at this)
  have HIC := Lib.hid (fun k => show ipC zs v k = (v.getD (k + 1) 0 ≤ 1000000000000 ∧ v.getD k 0 ≤ v.getD (k + 1) 0 ∧ woN zs (orA (rtN zs) zs.length k) + v.getD (frN (rtN zs) (lfN zs) zs.length (orA (rtN zs) zs.length k)) 0 ≤ v.getD (k + 1) 0) from rfl)
  rw [hn] at HIC
  have HLN := Lib.hid (fun (k : Nat) (hk : k < n) (hI : ∀ j, j < k → ipC zs v j) W (hg : Gr w W) => least_next AS n cS (stL zs n n) (some ⟨gv, ov, none⟩) (k + 1) (k + 1) k (frN (rtN zs) (lfN zs) n (orA (rtN zs) n k)) (v.take (k + 1)) (stepP zs n (orA (rtN zs) n k)) W (stL_len zs n n) (by omega) (hA.gr hg) (by rw [List.length_take]; omega) (by rw [List.map_take]; exact (hV.gr hg).take (k + 1)) rfl hk (stL_at zs n k hk) rfl (HFR.out k hk) (by have := woN_bd ha (orA (rtN zs) n k); unfold stepP; simp only; omega) (by
    have h1 := HFR.out k hk
    rw [getD_take _ _ _ (by omega)]
    have := HBD.out (frN (rtN zs) (lfN zs) n (orA (rtN zs) n k)) (fun j hj => hI j (by omega))
    omega))
  have HTD := Lib.hid (getD_take v)
  have HWO := Lib.hid (fun k => show (stepP zs n (orA (rtN zs) n k)).2.2.1 = woN zs (orA (rtN zs) n k) from rfl)
  have HWB := Lib.hid (fun k => woN_bd ha k)
  clear hA hV hn hm v0 ha
  go_enter Tryd.func52, Tryd.ntmps52
  go_wp2
  go_loopw [5] (fun i wr => ∃ k : Nat, k ≤ n ∧ i = .int .i64 ((k + 1 : Nat) : Int) ∧ Hid (∀ j, j < k → ipC zs v j) ∧ Gr w wr) (fun i _ => n + 1 - (intOf i).toNat)
  case atStart => exact ⟨0, by omega, rfl, Lib.hid (fun j h => absurd h (by omega)), Gr.refl _⟩
  case round =>
    obtain ⟨k, hk, rfl, hI, hG⟩ := hrel
    by_cases hlt : k < n
    · have hv1 := cs_at (cs := v) (k := k + 1) (by rw [HM.out]; omega)
      obtain ⟨gv2, ov2, eg, hgv2, ca⟩ := (HV.out.gr hG).at_ hv1
      injection eg with eg
      injection eg with eg1 eg2
      subst eg1 eg2
      have HI1 := Lib.hid (fun (h : ipC zs v k) => show ∀ j, j < k + 1 → ipC zs v j from fun j hj => by
        rcases Nat.lt_or_ge j k with h1 | h1
        · exact hI.out j h1
        · rw [show j = k by omega]; exact h)
      have HN1 := Lib.hid (fun (h : ¬ ipC zs v k) => HN.out (fun hh => h (hh.2.2 k hlt)))
      have HL1 := fun W (h : Gr wr W) => HLN.out k hlt hI.out W (hG.trans h)
      rw [HTD.out _ _ (Nat.lt_succ_self k), HTD.out _ _ (Nat.lt_succ_of_le (HFR.out k hlt)), HWO.out] at HL1
      replace HL1 := Lib.hid HL1
      have HIC1 := Lib.hid (HIC.out k)
      have hb1 := HBD.out k hI.out
      have hb2 := HBD.out (frN (rtN zs) (lfN zs) n (orA (rtN zs) n k)) (fun j hj => hI.out j (by have := HFR.out k hlt; omega))
      have hb3 := HWB.out (orA (rtN zs) n k)
      generalize v.getD (frN (rtN zs) (lfN zs) n (orA (rtN zs) n k)) 0 = vf at *
      generalize woN zs (orA (rtN zs) n k) = wo at *
      generalize v.getD (k + 1) 0 = y at *
      generalize v.getD k 0 = x at *
      have HG := Lib.hid hG
      have hk1 : (k : Int) + 1 < (n : Int) + 1 := by omega
      have hk2 : (0 : Int) ≤ (k : Int) + 1 := by omega
      have hk3 : (k : Int) + 1 ≤ (d : Int) := by omega
      have hk4 : k < n := hlt
      clear hv1 hG c0 hgv
      by_cases hc1 : y ≤ 1000000000000
      rotate_left
      · have HQ := Lib.hid (HN1.out (by rw [HIC1.out]; exact fun h => hc1 h.1))
        have hd1 : decide (1000000000000 < y) = true := decide_eq_true (by omega)
        clear HIC1
        go_wp2
        go_quiet (fail)
        go_wp2
        go_ret
        exact ⟨ret_bool HQ.out.symm, HG.out.trans (by repeat (first | with_reducible exact Gr.refl _ | with_reducible refine Gr.alloc ?_ _ | with_reducible refine Gr.gr ?_ _ _ | with_reducible refine Gr.drew ?_ | with_reducible refine Gr.drewN ?_ _))⟩
      have hd1 : decide (1000000000000 < y) = false := decide_eq_false (by omega)
      by_cases hc2 : max x (wo + vf) ≤ y
      · have HQ := Lib.hid (HI1.out (by rw [HIC1.out]; exact ⟨hc1, by omega, by omega⟩))
        have hd2 : decide (y < max x (wo + vf)) = false := decide_eq_false (by omega)
        clear HIC1
        generalize max x (wo + vf) = mx at *
        go_wp2
        ((first | refine region_gr_on (by kernel_rfl) (by kernel_rfl) ?_ | refine region_gr (by kernel_rfl) (by kernel_rfl) ?_); (repeat (quiet_step (exact Calls.gr_of (HL1.out _ (by repeat (first | with_reducible exact Gr.refl _ | with_reducible refine Gr.alloc ?_ _ | with_reducible refine Gr.gr ?_ _ _ | with_reducible refine Gr.drew ?_ | with_reducible refine Gr.drewN ?_ _)))))); refine wpQuiet_nil ?_; intro _ hw'; obtain ⟨⟨kq, oq⟩, hw''⟩ := hw'; subst hw'')
        go_wp2
        go_roundw
        case rel => exact ⟨k + 1, by omega, by congr 1, HQ, HG.out.trans (by repeat (first | with_reducible exact Gr.refl _ | with_reducible refine Gr.alloc ?_ _ | with_reducible refine Gr.gr ?_ _ _ | with_reducible refine Gr.drew ?_ | with_reducible refine Gr.drewN ?_ _))⟩
        case measure => simp [intOf] <;> omega
      · have HQ := Lib.hid (HN1.out (by rw [HIC1.out]; exact fun h => hc2 (by omega)))
        have hd2 : decide (y < max x (wo + vf)) = true := decide_eq_true (by omega)
        clear HIC1
        generalize max x (wo + vf) = mx at *
        go_wp2
        ((first | refine region_gr_on (by kernel_rfl) (by kernel_rfl) ?_ | refine region_gr (by kernel_rfl) (by kernel_rfl) ?_); (repeat (quiet_step (exact Calls.gr_of (HL1.out _ (by repeat (first | with_reducible exact Gr.refl _ | with_reducible refine Gr.alloc ?_ _ | with_reducible refine Gr.gr ?_ _ _ | with_reducible refine Gr.drew ?_ | with_reducible refine Gr.drewN ?_ _)))))); refine wpQuiet_nil ?_; intro _ hw'; obtain ⟨⟨kq, oq⟩, hw''⟩ := hw'; subst hw'')
        go_wp2
        go_ret
        exact ⟨ret_bool HQ.out.symm, HG.out.trans (by repeat (first | with_reducible exact Gr.refl _ | with_reducible refine Gr.alloc ?_ _ | with_reducible refine Gr.gr ?_ _ _ | with_reducible refine Gr.drew ?_ | with_reducible refine Gr.drewN ?_ _))⟩
    · obtain rfl : k = n := by omega
      have HQ := Lib.hid (HY.out ⟨by simp, h0, hI.out⟩)
      go_wp2
      go_ret
      exact ⟨ret_bool HQ.out.symm, hG⟩
end Go.Proofs.YtlimfpdibohioabDoor
