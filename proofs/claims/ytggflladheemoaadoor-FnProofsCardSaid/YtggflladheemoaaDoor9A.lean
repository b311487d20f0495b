/- Plain mathematics, merged. -/
import Derived.Test.YtggflladheemoaaDoorC09b
import Derived.Test.YtggflladheemoaaDoorC08l
import Derived.Test.YtggflladheemoaaDoor1A
import Derived.BigQuiet
/- Contracts of chapter 9: how many labels end before a place; choices of labels and their worth. -/
namespace Go.Proofs.YtggflladheemoaaDoor
open Go.RowKit
set_option linter.unusedVariables false
set_option linter.unusedSimpArgs false

set_option maxRecDepth 100000 in
theorem frK_impl (A : Option Addr) (n c : Nat) (zs : List P3) (x : Int) (w : World) (ht : Tab w) (hn : zs.length = n) (hN : n ≤ 16777216) (hA : Reads w w.heap.size A (cells3 zs)) (ha : allL zs = true) :
    Calls Tryd.prog 161 #[.slice A n c, .int .i64 x] w fun e w' => e = .returned (.int .i64 (frK (rtN zs) x n : Int)) ∧ Gr w w' := by
  have HA := Lib.hid hA
  have HT := Lib.hid ht
  have HL := Lib.hid hn
  have HZ := Lib.hid (fun (k : Nat) (h : k < n) => tkN_is ha (k := k) (by rw [hn]; exact h))
  have HS := Lib.hid (frK_succ (rtN zs) x)
  have HB := Lib.hid (frK_le (rtN zs) x)
  clear hA ht hn ha
  go_enter Tryd.func161, Tryd.ntmps161
  go_wp2
  go_loopw [5, 12] (fun s i wr => ∃ k : Nat, k ≤ n ∧ i = .int .i64 k ∧ s = .int .i64 (frK (rtN zs) x k : Int) ∧ Gr w wr) (fun _ i _ => n - (intOf i).toNat)
  case atStart => exact ⟨0, by omega, rfl, by simp [frK], Gr.refl _⟩
  case round =>
    obtain ⟨k, hk, rfl, rfl, hG⟩ := hrel
    by_cases hlt : k < n
    · have hz := tkN_at (zs := zs) (k := k) (by rw [HL.out]; exact hlt)
      obtain ⟨g, o, rfl, hg, x0, x1, x2⟩ := (HA.out.gr hG).at3 hz
      have HE := fun W (h : Tab W) => ends_impl (tkN zs k) W h (HZ.out k hlt)
      have HS1 := Lib.hid (HS.out k)
      have hb := HB.out k
      rw [show rtN zs k = rtT (tkN zs k) from rfl] at HS1
      clear hz
      generalize tkN zs k = z at *
      obtain ⟨za, zb, zc⟩ := z
      simp only [tkV] at HE
      replace HE := Lib.hid HE
      simp only at x0 x1 x2
      generalize lfT (za, zb, zc) = l at *
      generalize rtT (za, zb, zc) = r at *
      generalize frK (rtN zs) x k = q at *
      by_cases hc : r ≤ x
      · rw [if_pos hc] at HS1
        go_wp2_with fail
        refine (HE.out _ (HT.out.gr (hG.trans (by repeat (first | with_reducible exact Gr.refl _ | with_reducible refine Gr.alloc ?_ _ | with_reducible refine Gr.gr ?_ _ _ | with_reducible refine Gr.drew ?_ | with_reducible refine Gr.drewN ?_ _))))).mono ?_
        rintro e w2 ⟨rfl, hg2⟩
        have HG2 := Lib.hid (hG.trans (Gr.trans (by repeat (first | with_reducible exact Gr.refl _ | with_reducible refine Gr.alloc ?_ _ | with_reducible refine Gr.gr ?_ _ _ | with_reducible refine Gr.drew ?_ | with_reducible refine Gr.drewN ?_ _)) hg2))
        clear hg2
        go_wp2
        go_roundw
        case rel => exact ⟨k + 1, by omega, by go_num, by rw [HS1.out]; go_num, HG2.out⟩
        case measure => simp [intOf]; omega
      · rw [if_neg hc] at HS1
        go_wp2_with fail
        refine (HE.out _ (HT.out.gr (hG.trans (by repeat (first | with_reducible exact Gr.refl _ | with_reducible refine Gr.alloc ?_ _ | with_reducible refine Gr.gr ?_ _ _ | with_reducible refine Gr.drew ?_ | with_reducible refine Gr.drewN ?_ _))))).mono ?_
        rintro e w2 ⟨rfl, hg2⟩
        have HG2 := Lib.hid (hG.trans (Gr.trans (by repeat (first | with_reducible exact Gr.refl _ | with_reducible refine Gr.alloc ?_ _ | with_reducible refine Gr.gr ?_ _ _ | with_reducible refine Gr.drew ?_ | with_reducible refine Gr.drewN ?_ _)) hg2))
        clear hg2
        go_wp2
        go_roundw
        case rel => exact ⟨k + 1, by omega, by go_num, by rw [HS1.out, Nat.add_zero], HG2.out⟩
        case measure => simp [intOf]; omega
    · obtain rfl : k = n := by omega
      go_wp2
      go_ret
      exact ⟨rfl, hG⟩
set_option maxRecDepth 100000 in
theorem frN_spec (A : Option Addr) (n c : Nat) (zs : List P3) (z : P3) (w : World) (hn : zs.length = n) (hN : n ≤ 16777216) (hA : Reads w w.heap.size A (cells3 zs)) (ha : allL zs = true) (hz : lbIs z) :
    Calls Tryd.prog 121 #[.slice A n c, tkV z] w fun e w' => e = .returned (.int .i64 (frK (rtN zs) (lfT z) n : Int)) ∧ Gr w w' := by
  have HA := Lib.hid hA
  have HL := Lib.hid hn
  have HZ := Lib.hid (fun (k : Nat) (h : k < n) => tkN_is ha (k := k) (by rw [hn]; exact h))
  have HS := Lib.hid (fun x => frK_succ (rtN zs) x)
  have HB := Lib.hid (fun x => frK_le (rtN zs) x)
  have H0 := fun W => ends_spec z W hz
  obtain ⟨a, b, c1⟩ := z
  simp only [tkV] at H0
  replace H0 := Lib.hid H0
  generalize lfT (a, b, c1) = x at *
  generalize rtT (a, b, c1) = y at *
  clear hA hn ha hz
  go_enter Tryd.func121, Tryd.ntmps121
  go_wp2_with fail
  refine (H0.out _).mono ?_
  rintro e w1 ⟨rfl, hg1⟩
  have HG1 := Lib.hid (Gr.trans (show Gr w _ from (by repeat (first | with_reducible exact Gr.refl _ | with_reducible refine Gr.alloc ?_ _ | with_reducible refine Gr.gr ?_ _ _ | with_reducible refine Gr.drew ?_ | with_reducible refine Gr.drewN ?_ _))) hg1)
  clear hg1
  go_wp2
  go_loopw [7, 8] (fun s i wr => ∃ k : Nat, k ≤ n ∧ i = .int .i64 k ∧ s = .int .i64 (frK (rtN zs) x k : Int) ∧ Gr w wr) (fun _ i _ => n - (intOf i).toNat)
  case atStart => exact ⟨0, by omega, rfl, by simp [frK], HG1.out⟩
  case round =>
    obtain ⟨k, hk, rfl, rfl, hG⟩ := hrel
    by_cases hlt : k < n
    · have hz := tkN_at (zs := zs) (k := k) (by rw [HL.out]; exact hlt)
      obtain ⟨g, o, rfl, hg, x0, x1, x2⟩ := (HA.out.gr hG).at3 hz
      have HE := fun W => ends_spec (tkN zs k) W (HZ.out k hlt)
      have HS1 := Lib.hid (HS.out x k)
      have hb := HB.out x k
      rw [show rtN zs k = rtT (tkN zs k) from rfl] at HS1
      clear hz
      generalize tkN zs k = z at *
      obtain ⟨za, zb, zc⟩ := z
      simp only [tkV] at HE
      replace HE := Lib.hid HE
      simp only at x0 x1 x2
      generalize lfT (za, zb, zc) = l at *
      generalize rtT (za, zb, zc) = r at *
      generalize frK (rtN zs) x k = q at *
      by_cases hc : r ≤ x
      · rw [if_pos hc] at HS1
        go_wp2_with fail
        refine (HE.out _).mono ?_
        rintro e w2 ⟨rfl, hg2⟩
        have HG2 := Lib.hid (hG.trans hg2)
        clear hg2
        go_wp2
        go_roundw
        case rel => exact ⟨k + 1, by omega, by go_num, by rw [HS1.out]; go_num, HG2.out⟩
        case measure => simp [intOf]; omega
      · rw [if_neg hc] at HS1
        go_wp2_with fail
        refine (HE.out _).mono ?_
        rintro e w2 ⟨rfl, hg2⟩
        have HG2 := Lib.hid (hG.trans hg2)
        clear hg2
        go_wp2
        go_roundw
        case rel => exact ⟨k + 1, by omega, by go_num, by rw [HS1.out, Nat.add_zero], HG2.out⟩
        case measure => simp [intOf]; omega
    · obtain rfl : k = n := by omega
      go_wp2
      go_ret
      exact ⟨rfl, hG⟩

/-- A strictly increasing list of indices. -/
def riP (n : Nat) (cs : List Int) (k : Nat) : Prop := (0 ≤ cs.getD k 0 ∧ cs.getD k 0 < n) ∧ (0 < k → cs.getD (k - 1) 0 < cs.getD k 0)
def chP (zs : List P3) (cs : List Int) : Prop := (∀ k, k < cs.length → riP zs.length cs k) ∧ ∀ i k, i < cs.length → k < i → coN zs (cs.getD i 0).toNat (cs.getD k 0).toNat = false
instance (n : Nat) (cs : List Int) (k : Nat) : Decidable (riP n cs k) := by unfold riP; exact inferInstance
def riB (n : Nat) (cs : List Int) : Bool := (List.range cs.length).all fun k => decide (riP n cs k)
def chB (zs : List P3) (cs : List Int) : Bool := riB zs.length cs && (List.range cs.length).all fun i => (List.range i).all fun k => !coN zs (cs.getD i 0).toNat (cs.getD k 0).toNat
theorem riB_iff (n : Nat) (cs : List Int) : riB n cs = true ↔ ∀ k, k < cs.length → riP n cs k := by
  unfold riB
  rw [List.all_eq_true]
  exact ⟨fun h k hk => of_decide_eq_true (h k (List.mem_range.2 hk)), fun h k hk => decide_eq_true (h k (List.mem_range.1 hk))⟩
theorem riB_yes {n : Nat} {cs : List Int} (h : ∀ k, k < cs.length → riP n cs k) : riB n cs = true := (riB_iff n cs).2 h
theorem riB_all {n : Nat} {cs : List Int} (h : riB n cs = true) : ∀ k, k < cs.length → riP n cs k := (riB_iff n cs).1 h
theorem riB_no {n : Nat} {cs : List Int} {k : Nat} (hk : k < cs.length) (h : ¬ riP n cs k) : riB n cs = false := by
  cases e : riB n cs
  · rfl
  · exact absurd (riB_all e k hk) h
theorem chB_iff (zs : List P3) (cs : List Int) : chB zs cs = true ↔ chP zs cs := by
  unfold chB chP
  rw [Bool.and_eq_true, riB_iff, List.all_eq_true]
  refine ⟨fun h => ⟨h.1, fun i k hi hk => ?_⟩, fun h => ⟨h.1, fun i hi => ?_⟩⟩
  · have := List.all_eq_true.1 (h.2 i (List.mem_range.2 hi)) k (List.mem_range.2 hk)
    simpa using this
  · rw [List.all_eq_true]
    intro k hk
    rw [h.2 i k (List.mem_range.1 hi) (List.mem_range.1 hk)]
    rfl
theorem chB_yes {zs : List P3} {cs : List Int} (h : chP zs cs) : chB zs cs = true := (chB_iff zs cs).2 h
theorem chB_no {zs : List P3} {cs : List Int} (h : ¬ chP zs cs) : chB zs cs = false := by
  cases e : chB zs cs
  · rfl
  · exact absurd ((chB_iff zs cs).1 e) h
theorem cs_at {cs : List Int} {k : Nat} (h : k < cs.length) : (cs.map vi)[k]? = some (vi (cs.getD k 0)) := by
  rw [List.getElem?_map, List.getElem?_eq_getElem h, List.getD_eq_getElem?_getD, List.getElem?_eq_getElem h]
  rfl

set_option maxRecDepth 100000 in
set_option maxHeartbeats 2000000 in
theorem rises_any (A : Option Addr) (n c : Nat) (cs : List Int) (m : Nat) (w : World) (hn : cs.length = n) (hN : n ≤ 16777216) (hm : m ≤ 16777216) (hA : Reads w w.heap.size A (cs.map vi)) :
    Calls Tryd.prog 170 #[.slice A n c, .int .i64 m] w fun e w' => e = .returned (.bool (riB m cs)) ∧ Gr w w' := by
  have HA := Lib.hid hA
  have HL := Lib.hid hn
  have HY := Lib.hid (riB_yes (n := m) (cs := cs))
  have HNO := Lib.hid (fun k => riB_no (n := m) (cs := cs) (k := k))
  have hwm : IntKind.i64.wrap ((m : Int) - 1) = (m : Int) - 1 := IntWalk.i64_in _ (by omega)
  rw [hn] at HY HNO
  clear hA hn
  go_enter Tryd.func170, Tryd.ntmps170
  go_wp2
  go_loopw [5] (fun i wr => ∃ k : Nat, k ≤ n ∧ i = .int .i64 k ∧ Hid (∀ j, j < k → riP m cs j) ∧ Gr w wr) (fun i _ => n - (intOf i).toNat)
  case atStart => exact ⟨0, by omega, rfl, Lib.hid (fun j h => absurd h (by omega)), Gr.refl _⟩
  case round =>
    obtain ⟨k, hk, rfl, hI, hG⟩ := hrel
    by_cases hlt : k < n
    · have hck := cs_at (cs := cs) (k := k) (by rw [HL.out]; exact hlt)
      obtain ⟨g, o, rfl, hg, x0⟩ := (HA.out.gr hG).at_ hck
      have HNK := Lib.hid (HNO.out k hlt)
      have HYK := Lib.hid (fun (h : riP m cs k) => show ∀ j, j < k + 1 → riP m cs j from fun j hj => by
        rcases Nat.lt_or_ge j k with h1 | h1
        · exact hI.out j h1
        · rw [show j = k by omega]; exact h)
      have HRI := Lib.hid (show riP m cs k = ((0 ≤ cs.getD k 0 ∧ cs.getD k 0 < (m : Int)) ∧ (0 < k → cs.getD (k - 1) 0 < cs.getD k 0)) from rfl)
      have HG := Lib.hid hG
      have hwk : IntKind.i64.wrap ((k : Int) - 1) = (k : Int) - 1 := IntWalk.i64_in _ (by omega)
      have HIN := Lib.hid (fun W => (in_any (cs.getD k 0) 0 ((m : Int) - 1) W).mono fun e w' ⟨a, b⟩ => show _ ∧ w' = W from ⟨a, b.symm⟩)
      clear hck hG
      by_cases h1 : 0 ≤ cs.getD k 0 ∧ cs.getD k 0 ≤ (m : Int) - 1
      rotate_left
      · have HQ := Lib.hid (HNK.out (by rw [HRI.out]; intro h; exact h1 ⟨h.1.1, by omega⟩))
        rw [decide_eq_false h1] at HIN
        generalize cs.getD k 0 = x at *
        clear h1 HNK HYK HRI
        go_wp2
        go_quiet (exact Calls.quiet_of_same (HIN.out _))
        go_wp2
        go_ret
        exact ⟨ret_bool HQ.out.symm, HG.out.trans (by repeat (first | with_reducible exact Gr.refl _ | with_reducible refine Gr.alloc ?_ _ | with_reducible refine Gr.gr ?_ _ _ | with_reducible refine Gr.drew ?_ | with_reducible refine Gr.drewN ?_ _))⟩
      rw [decide_eq_true h1] at HIN
      by_cases h2 : k = 0
      · have HQ := Lib.hid (HYK.out (by rw [HRI.out]; exact ⟨⟨h1.1, by omega⟩, fun h => absurd h (by omega)⟩))
        subst h2
        rw [Nat.add_zero] at x0
        generalize cs.getD 0 0 = x at *
        clear h1 HNK HYK HRI
        go_wp2
        go_quiet (exact Calls.quiet_of_same (HIN.out _))
        go_wp2
        go_roundw
        case rel => exact ⟨0 + 1, by omega, by go_num, HQ, HG.out.trans (by repeat (first | with_reducible exact Gr.refl _ | with_reducible refine Gr.alloc ?_ _ | with_reducible refine Gr.gr ?_ _ _ | with_reducible refine Gr.drew ?_ | with_reducible refine Gr.drewN ?_ _))⟩
        case measure => simp [intOf]; omega
      have hd0 : decide (0 < (k : Int)) = true := decide_eq_true (by omega)
      have hd1 : decide (0 < k) = true := decide_eq_true (by omega)
      have hcp := cs_at (cs := cs) (k := k - 1) (by rw [HL.out]; omega)
      obtain ⟨g2, o2, eg, -, x1⟩ := (HA.out.gr HG.out).at_ hcp
      injection eg with eg
      injection eg with eg1 eg2
      subst eg1 eg2
      have x1' : wr.cell? ⟨g, o + ((k : Int) - 1).toNat, none⟩ = some (vi (cs.getD (k - 1) 0)) := by rw [show ((k : Int) - 1).toNat = k - 1 by omega]; exact x1
      have hk1 : (0 : Int) ≤ (k : Int) - 1 := by omega
      by_cases h3 : cs.getD (k - 1) 0 < cs.getD k 0
      · have HQ := Lib.hid (HYK.out (by rw [HRI.out]; exact ⟨⟨h1.1, by omega⟩, fun _ => h3⟩))
        have hd3 : decide (cs.getD k 0 ≤ cs.getD (k - 1) 0) = false := decide_eq_false (by omega)
        clear hcp
        generalize cs.getD (k - 1) 0 = y at *
        generalize cs.getD k 0 = x at *
        clear h1 HNK HYK HRI
        go_wp2
        go_quiet (exact Calls.quiet_of_same (HIN.out _))
        go_wp2
        go_roundw
        case rel => exact ⟨k + 1, by omega, by go_num, HQ, HG.out.trans (by repeat (first | with_reducible exact Gr.refl _ | with_reducible refine Gr.alloc ?_ _ | with_reducible refine Gr.gr ?_ _ _ | with_reducible refine Gr.drew ?_ | with_reducible refine Gr.drewN ?_ _))⟩
        case measure => simp [intOf]; omega
      · have HQ := Lib.hid (HNK.out (by rw [HRI.out]; intro h; exact h3 (h.2 (by omega))))
        have hd3 : decide (cs.getD k 0 ≤ cs.getD (k - 1) 0) = true := decide_eq_true (by omega)
        clear hcp
        generalize cs.getD (k - 1) 0 = y at *
        generalize cs.getD k 0 = x at *
        clear h1 HNK HYK HRI
        go_wp2
        go_quiet (exact Calls.quiet_of_same (HIN.out _))
        go_wp2
        go_ret
        exact ⟨ret_bool HQ.out.symm, HG.out.trans (by repeat (first | with_reducible exact Gr.refl _ | with_reducible refine Gr.alloc ?_ _ | with_reducible refine Gr.gr ?_ _ _ | with_reducible refine Gr.drew ?_ | with_reducible refine Gr.drewN ?_ _))⟩
    · obtain rfl : k = n := by omega
      have HQ := Lib.hid (HY.out hI.out)
      go_wp2
      go_ret
      exact ⟨ret_bool HQ.out.symm, hG⟩
end Go.Proofs.YtggflladheemoaaDoor

/- Contracts of chapter 9: whether a list is a choice, and what a choice is worth. -/
namespace Go.Proofs.YtggflladheemoaaDoor
open Go.RowKit
set_option linter.unusedVariables false
set_option linter.unusedSimpArgs false

set_option maxRecDepth 100000 in
set_option maxHeartbeats 4000000 in
theorem choice_spec (A : Option Addr) (n c : Nat) (zs : List P3) (B : Option Addr) (m d : Nat) (cs : List Int) (w : World) (hn : zs.length = n) (hN : n ≤ 16777216) (hA : Reads w w.heap.size A (cells3 zs)) (ha : allL zs = true) (hm : cs.length = m) (hM : m ≤ 16777216) (hB : Reads w w.heap.size B (cs.map vi)) :
    Calls Tryd.prog 129 #[.slice A n c, .slice B m d] w fun e w' => e = .returned (.bool (chB zs cs)) ∧ Gr w w' := by
  have HR := Lib.hid (rises_any B m d cs n w hm hM hN hB)
  have HA := Lib.hid hA
  have HB := Lib.hid hB
  have HL := Lib.hid hn
  have HM := Lib.hid hm
  have HC := Lib.hid (fun (k : Nat) y z w (h1 : lbIs y) (h2 : lbIs z) => collide_spec y z w h1 h2)
  have HZ := Lib.hid (fun (k : Nat) (h : k < n) => tkN_is ha (k := k) (by rw [hn]; exact h))
  have HNC := Lib.hid (chB_no (zs := zs) (cs := cs))
  have HYC := Lib.hid (chB_yes (zs := zs) (cs := cs))
  have HP := Lib.hid (show chP zs cs = ((∀ k, k < cs.length → riP zs.length cs k) ∧ ∀ i k, i < cs.length → k < i → coN zs (cs.getD i 0).toNat (cs.getD k 0).toNat = false) from rfl)
  rw [hm, hn] at HP
  cases hr : riB n cs
  · have HQ := Lib.hid (HNC.out (fun h => by
      have h1 := riB_yes (n := n) (cs := cs) (by have := h.1; rwa [hn] at this)
      rw [hr] at h1
      cases h1))
    rw [hr] at HR
    clear hA hn hm hB ha hr HC HZ HYC HP
    go_enter Tryd.func129, Tryd.ntmps129
    go_wp2_with (go_at_call 170; refine (HR.out).mono ?_; rintro e w1 ⟨rfl, hg1⟩)
    go_ret
    exact ⟨ret_bool HQ.out.symm, hg1⟩
  have HRA := Lib.hid (fun k hk => riB_all hr k (by rw [hm]; exact hk))
  rw [hr] at HR
  clear hA hn hm hB ha hr
  go_enter Tryd.func129, Tryd.ntmps129
  go_wp2_with (go_at_call 170; refine (HR.out).mono ?_; rintro e w1 ⟨rfl, hg1⟩)
  go_loopw [5] (fun i wr => ∃ k : Nat, k ≤ m ∧ i = .int .i64 k ∧ Hid (∀ j l, j < k → l < j → coN zs (cs.getD j 0).toNat (cs.getD l 0).toNat = false) ∧ Gr w wr) (fun i _ => m - (intOf i).toNat)
  case atStart => exact ⟨0, by omega, rfl, Lib.hid (fun j l h => absurd h (by omega)), hg1⟩
  case round =>
    obtain ⟨k, hk, rfl, hI, hG⟩ := hrel
    by_cases hlt : k < m
    · go_wp2
      go_loopw [6] (fun l wr2 => ∃ q : Nat, q ≤ k ∧ l = .int .i64 q ∧ Hid (∀ l, l < q → coN zs (cs.getD k 0).toNat (cs.getD l 0).toNat = false) ∧ Gr w wr2) (fun l _ => k - (intOf l).toNat)
      case atStart => exact ⟨0, by omega, rfl, Lib.hid (fun l h => absurd h (by omega)), hG⟩
      case round =>
        obtain ⟨q, hq, rfl, hJ, hG2⟩ := hrel
        by_cases hlt2 : q < k
        · have h1 := cs_at (cs := cs) (k := k) (by rw [HM.out]; exact hlt)
          have h2 := cs_at (cs := cs) (k := q) (by rw [HM.out]; omega)
          obtain ⟨gb, ob, rfl, hgb, xk⟩ := (HB.out.gr hG2).at_ h1
          obtain ⟨gb2, ob2, eg, -, xq⟩ := (HB.out.gr hG2).at_ h2
          injection eg with eg
          injection eg with eg1 eg2
          subst eg1 eg2
          have r1 := (HRA.out k hlt).1
          have r2 := (HRA.out q (by omega)).1
          have HC1 := Lib.hid (fun (h : coN zs (cs.getD k 0).toNat (cs.getD q 0).toNat = true) => HNC.out (fun hp => by
            rw [HP.out] at hp
            have := hp.2 k q hlt hlt2
            rw [h] at this
            cases this))
          have HJ2 := Lib.hid (fun (h : coN zs (cs.getD k 0).toNat (cs.getD q 0).toNat = false) => show ∀ l, l < q + 1 → coN zs (cs.getD k 0).toNat (cs.getD l 0).toNat = false from fun l hl => by
            rcases Nat.lt_or_ge l q with h3 | h3
            · exact hJ.out l h3
            · rw [show l = q by omega]; exact h)
          obtain ⟨i, hi⟩ := Int.eq_ofNat_of_zero_le r1.1
          obtain ⟨j, hj⟩ := Int.eq_ofNat_of_zero_le r2.1
          have r1' := r1.2
          have r2' := r2.2
          have hE : coN zs (cs.getD k 0).toNat (cs.getD q 0).toNat = coT (tkN zs i) (tkN zs j) := by rw [hi, hj, Int.toNat_natCast, Int.toNat_natCast]; rfl
          rw [hi] at r1' xk
          rw [hj] at r2' xq
          replace HC1 := Lib.hid (fun h => HC1.out (hE.trans h))
          replace HJ2 := Lib.hid (fun h => HJ2.out (hE.trans h))
          have hin : i < n := by omega
          have hjn : j < n := by omega
          have HCC := fun W => HC.out 0 (tkN zs i) (tkN zs j) W (HZ.out i hin) (HZ.out j hjn)
          have hz1 := tkN_at (zs := zs) (k := i) (by rw [HL.out]; exact hin)
          have hz2 := tkN_at (zs := zs) (k := j) (by rw [HL.out]; exact hjn)
          obtain ⟨g, o, rfl, hg, x0, x1, x2⟩ := (HA.out.gr hG2).at3 hz1
          obtain ⟨g2, o2, eg2, -, y0, y1, y2⟩ := (HA.out.gr hG2).at3 hz2
          injection eg2 with eg2
          injection eg2 with eg3 eg4
          subst eg3 eg4
          generalize tkN zs i = z1 at *
          generalize tkN zs j = z2 at *
          obtain ⟨a1, b1, c1⟩ := z1
          obtain ⟨a2, b2, c2⟩ := z2
          simp only [tkV] at HCC
          simp only at x0 x1 x2 y0 y1 y2
          replace HCC := Lib.hid HCC
          generalize coT (a1, b1, c1) (a2, b2, c2) = cb at *
          have HG2 := Lib.hid hG2
          have hqm : (q : Int) < (m : Int) := by omega
          have hki : (i : Int) < (n : Int) := by omega
          have hkj : (j : Int) < (n : Int) := by omega
          clear h1 h2 r1 r2 hi hj hz1 hz2 hG2 hE
          go_wp2
          ((first | refine region_gr_on (by kernel_rfl) (by kernel_rfl) ?_ | refine region_gr (by kernel_rfl) (by kernel_rfl) ?_); (repeat (quiet_step (exact Calls.gr_of (HCC.out _)))); refine wpQuiet_nil ?_; intro _ hw'; obtain ⟨⟨kq, oq⟩, hw''⟩ := hw'; subst hw'')
          cases cb
          · have HQ := Lib.hid (HJ2.out rfl)
            go_wp2
            go_roundw
            case rel => exact ⟨q + 1, by omega, by go_num, HQ, HG2.out.trans (by repeat (first | with_reducible exact Gr.refl _ | with_reducible refine Gr.alloc ?_ _ | with_reducible refine Gr.gr ?_ _ _ | with_reducible refine Gr.drew ?_ | with_reducible refine Gr.drewN ?_ _))⟩
            case measure => simp [intOf]; omega
          · have HQ := Lib.hid (HC1.out rfl)
            go_wp2
            go_ret
            exact ⟨ret_bool HQ.out.symm, HG2.out.trans (by repeat (first | with_reducible exact Gr.refl _ | with_reducible refine Gr.alloc ?_ _ | with_reducible refine Gr.gr ?_ _ _ | with_reducible refine Gr.drew ?_ | with_reducible refine Gr.drewN ?_ _))⟩
        · obtain rfl : q = k := by omega
          have HI2 := Lib.hid (show ∀ j l, j < q + 1 → l < j → coN zs (cs.getD j 0).toNat (cs.getD l 0).toNat = false from fun j l hj hl => by
            rcases Nat.lt_or_ge j q with h3 | h3
            · exact hI.out j l h3 hl
            · obtain rfl : j = q := by omega
              exact hJ.out l hl)
          go_wp2
          go_roundw
          case rel => exact ⟨q + 1, by omega, by go_num, HI2, hG2⟩
          case measure => simp [intOf]; omega
    · obtain rfl : k = m := by omega
      have HQ := Lib.hid (HYC.out (by rw [HP.out]; exact ⟨HRA.out, hI.out⟩))
      go_wp2
      go_ret
      exact ⟨ret_bool HQ.out.symm, hG⟩
end Go.Proofs.YtggflladheemoaaDoor

/- Contracts of chapter 9: whether a list is a choice, in the program. -/
namespace Go.Proofs.YtggflladheemoaaDoor
open Go.RowKit Go.Shelf
set_option linter.unusedVariables false
set_option linter.unusedSimpArgs false

theorem tkN_of {zs : List P3} {k : Nat} {z : P3} (h : zs[k]? = some z) : tkN zs k = z := by
  unfold tkN
  rw [List.getD_eq_getElem?_getD, h]
  rfl
theorem near_cb (zs : List P3) (ha : allL zs = true) (i k : Nat) (x y : P3) (hx : zs[i]? = some x) (hy : zs[k]? = some y) (w : World) (ht : Tab w) :
    Calls Tryd.prog 123 (#[.agg #[.int .i64 x.1, .int .i64 x.2.1, .int .i64 x.2.2], .agg #[.int .i64 y.1, .int .i64 y.2.1, .int .i64 y.2.2]] ++ #[]) w fun e w' => e = .returned (.bool (coN zs i k)) ∧ Gr w w' := by
  rw [show (#[Value.agg #[.int .i64 x.1, .int .i64 x.2.1, .int .i64 x.2.2], .agg #[.int .i64 y.1, .int .i64 y.2.1, .int .i64 y.2.2]] ++ #[] : Array Value) = #[tkV x, tkV y] from rfl]
  unfold coN
  rw [tkN_of hx, tkN_of hy]
  exact collide_impl x y w ht (allL_at ha hx) (allL_at ha hy)
theorem enters_near (args : Array Value) (w : World) : (callFunc 123 args).run Tryd.prog w = .ok (.enter 123 args) w := by kernel_rfl
theorem Reads.take {w : World} {B : Nat} {A : Option Addr} {vs : List Value} (h : Reads w B A vs) (k : Nat) : Reads w B A (vs.take k) := by
  intro j hj
  rw [List.length_take] at hj
  obtain ⟨g, o, a, b, c⟩ := h j (by omega)
  exact ⟨g, o, a, b, by rw [c, List.getElem_take]⟩
/-- The first ones of a choice, as numbers of ticks. -/
def chK (cs : List Int) (k : Nat) : List Nat := (cs.take k).map Int.toNat
theorem chK_len (cs : List Int) (k : Nat) (h : k ≤ cs.length) : (chK cs k).length = k := by unfold chK; rw [List.length_map, List.length_take]; omega
theorem chK_nat (cs : List Int) (k : Nat) (h : ∀ j, j < k → 0 ≤ cs.getD j 0) : natI (chK cs k) = cs.take k := by
  unfold chK natI
  rw [List.map_map]
  apply List.ext_getElem?
  intro j
  rw [List.getElem?_map]
  cases e : (cs.take k)[j]? with
  | none => rfl
  | some z =>
    rw [List.getElem?_take] at e
    split at e
    · rename_i hj
      have := h j hj
      rw [List.getD_eq_getElem?_getD, e] at this
      simp at this
      simp; omega
    · cases e
theorem chK_at {cs : List Int} {k q : Nat} (h : q < k) (hk : k ≤ cs.length) : (chK cs k)[q]? = some (cs.getD q 0).toNat := by
  unfold chK
  rw [List.getElem?_map, List.getElem?_take, if_pos h, List.getElem?_eq_getElem (by omega), List.getD_eq_getElem?_getD, List.getElem?_eq_getElem (by omega)]
  rfl
theorem chK_mem {cs : List Int} {k i : Nat} (hk : k ≤ cs.length) (h : i ∈ chK cs k) : ∃ q, q < k ∧ i = (cs.getD q 0).toNat := by
  obtain ⟨q, hq, e⟩ := List.mem_iff_getElem.1 h
  rw [chK_len cs k hk] at hq
  refine ⟨q, hq, ?_⟩
  have := chK_at hq hk
  rw [List.getElem?_eq_getElem (by rw [chK_len cs k hk]; exact hq), e] at this
  injection this

set_option maxRecDepth 100000 in
set_option maxHeartbeats 4000000 in
theorem choice_impl (A : Option Addr) (n c : Nat) (zs : List P3) (B : Option Addr) (m d : Nat) (cs : List Int) (w : World) (ht : Tab w) (hn : zs.length = n) (hN : n ≤ 100000) (hA : Reads w w.heap.size A (cells3 zs)) (ha : allL zs = true) (hm : cs.length = m) (hM : m ≤ 2000000) (hmd : m ≤ d) (hB : Reads w w.heap.size B (cs.map vi)) :
    Calls Tryd.prog 126 #[.slice A n c, .slice B m d] w fun e w' => e = .returned (.bool (chB zs cs)) ∧ Gr w w' := by
  have HA := Lib.hid hA
  have HB := Lib.hid hB
  have HL := Lib.hid hn
  have HM := Lib.hid hm
  have HT := Lib.hid ht
  have HAL := Lib.hid ha
  have HNC := Lib.hid (chB_no (zs := zs) (cs := cs))
  have HYC := Lib.hid (chB_yes (zs := zs) (cs := cs))
  have HP := Lib.hid (show chP zs cs = ((∀ k, k < cs.length → riP zs.length cs k) ∧ ∀ i k, i < cs.length → k < i → coN zs (cs.getD i 0).toNat (cs.getD k 0).toNat = false) from rfl)
  rw [hm, hn] at HP
  have HAP := Lib.hid (fun (AK : Option Addr) (nk ck : Nat) (K : List Nat) (i : Nat) W (h : Gr w W) (hi : i < n) (hk : K.length = nk) (hkN : nk ≤ 2000000) (hK : ∀ k ∈ K, k < n) hR => isApart_any A AK n c nk ck zs K i 123 #[] (coN zs) W hn hN (hA.gr h) hi hk hkN hK hR enters_near (fun W' hg k x y hx hy => near_cb zs ha i k x y hx hy W' (ht.gr (h.trans hg))))
  clear hA hn hm hB ha ht
  go_enter Tryd.func126, Tryd.ntmps126
  go_wp2
  go_loopw [9] (fun i wr => ∃ k : Nat, k ≤ m ∧ i = .int .i64 k ∧ Hid ((∀ j, j < k → riP n cs j) ∧ ∀ j l, j < k → l < j → coN zs (cs.getD j 0).toNat (cs.getD l 0).toNat = false) ∧ Gr w wr) (fun i _ => m - (intOf i).toNat)
  case atStart => exact ⟨0, by omega, rfl, Lib.hid ⟨fun j h => absurd h (by omega), fun j l h => absurd h (by omega)⟩, Gr.refl _⟩
  case round =>
    obtain ⟨k, hk, rfl, hI, hG⟩ := hrel
    by_cases hlt : k < m
    · have h1 := cs_at (cs := cs) (k := k) (by rw [HM.out]; exact hlt)
      obtain ⟨gb, ob, rfl, hgb, xk⟩ := (HB.out.gr hG).at_ h1
      have HRI := Lib.hid (show riP n cs k = ((0 ≤ cs.getD k 0 ∧ cs.getD k 0 < (n : Int)) ∧ (0 < k → cs.getD (k - 1) 0 < cs.getD k 0)) from rfl)
      have HN1 := Lib.hid (fun (h : ¬ riP n cs k) => HNC.out (fun hp => by
        rw [HP.out] at hp
        exact h (hp.1 k hlt)))
      have HG := Lib.hid hG
      have HPOS := Lib.hid (fun j (hj : j < k) => (hI.out.1 j hj).1)
      clear h1 hG
      by_cases a1 : 0 ≤ cs.getD k 0
      rotate_left
      · have HQ := Lib.hid (HN1.out (by rw [HRI.out]; intro h; exact a1 h.1.1))
        generalize cs.getD k 0 = x at *
        clear HN1 HRI HPOS
        go_wp2
        go_ret
        exact ⟨ret_bool HQ.out.symm, HG.out⟩
      by_cases a2 : cs.getD k 0 < (n : Int)
      rotate_left
      · have HQ := Lib.hid (HN1.out (by rw [HRI.out]; intro h; exact a2 h.1.2))
        generalize cs.getD k 0 = x at *
        clear HN1 HRI HPOS
        go_wp2
        go_ret
        exact ⟨ret_bool HQ.out.symm, HG.out⟩
      by_cases a3 : 0 < k → cs.getD (k - 1) 0 < cs.getD k 0
      rotate_left
      · have HQ := Lib.hid (HN1.out (by rw [HRI.out]; intro h; exact a3 h.2))
        have hk0 : 0 < k := by
          rcases Nat.eq_zero_or_pos k with h | h
          · exact absurd (fun h2 => absurd h2 (by omega)) a3
          · exact h
        have a4 : cs.getD k 0 ≤ cs.getD (k - 1) 0 := by
          rcases Int.lt_or_le (cs.getD (k - 1) 0) (cs.getD k 0) with h | h
          · exact absurd (fun _ => h) a3
          · exact h
        have h2 := cs_at (cs := cs) (k := k - 1) (by rw [HM.out]; omega)
        obtain ⟨gb2, ob2, eg, -, xq⟩ := (HB.out.gr HG.out).at_ h2
        injection eg with eg
        injection eg with eg1 eg2
        subst eg1 eg2
        have xq' : wr.cell? ⟨gb, ob + ((k : Int) - 1).toNat, none⟩ = some (vi (cs.getD (k - 1) 0)) := by rw [show ((k : Int) - 1).toNat = k - 1 by omega]; exact xq
        have hwk : IntKind.i64.wrap ((k : Int) - 1) = (k : Int) - 1 := IntWalk.i64_in _ (by omega)
        have hk1 : (0 : Int) ≤ (k : Int) - 1 := by omega
        generalize cs.getD (k - 1) 0 = y at *
        generalize cs.getD k 0 = x at *
        clear HN1 HRI HPOS a3 h2
        go_wp2
        go_ret
        exact ⟨ret_bool HQ.out.symm, HG.out⟩
      have HR1 := Lib.hid (show riP n cs k by rw [HRI.out]; exact ⟨⟨a1, a2⟩, a3⟩)
      obtain ⟨i, hi⟩ := Int.eq_ofNat_of_zero_le a1
      have hin : i < n := by rw [hi] at a2; omega
      have HKL := Lib.hid (chK_len cs k (by rw [HM.out]; omega))
      have HKN := Lib.hid (chK_nat cs k (fun j hj => (HPOS.out j hj).1))
      have HKM := Lib.hid (fun q (h : q ∈ chK cs k) => chK_mem (by rw [HM.out]; omega) h)
      have HKA := Lib.hid (fun q (h : q < k) => chK_at (cs := cs) h (by rw [HM.out]; omega))
      have HAPK := Lib.hid (fun W (h : Gr wr W) => HAP.out (some ⟨gb, ob, none⟩) k d (chK cs k) i W (HG.out.trans h) hin HKL.out (by omega) (fun q hq => by
        obtain ⟨j, hj, rfl⟩ := HKM.out q hq
        have := HPOS.out j hj
        omega) (by
        rw [HKN.out]
        have h3 := (HB.out.gr (HG.out.trans h)).take k
        rw [← List.map_take] at h3
        exact h3))
      have hiE : (cs.getD k 0).toNat = i := by rw [hi]; omega
      have HFA := Lib.hid (fun (h : ((chK cs k).all fun q => !coN zs i q) = false) => HNC.out (fun hp => by
        rw [HP.out] at hp
        have : ((chK cs k).all fun q => !coN zs i q) = true := by
          rw [List.all_eq_true]
          intro q hq
          obtain ⟨j, hj, rfl⟩ := HKM.out q hq
          have h4 := hp.2 k j hlt hj
          rw [hiE] at h4
          rw [h4]; rfl
        rw [h] at this
        cases this))
      have HTR := Lib.hid (fun (h : ((chK cs k).all fun q => !coN zs i q) = true) => show (∀ j, j < k + 1 → riP n cs j) ∧ ∀ j l, j < k + 1 → l < j → coN zs (cs.getD j 0).toNat (cs.getD l 0).toNat = false from by
        rw [List.all_eq_true] at h
        refine ⟨fun j hj => ?_, fun j l hj hl => ?_⟩
        · rcases Nat.lt_or_ge j k with h5 | h5
          · exact hI.out.1 j h5
          · rw [show j = k by omega]; exact HR1.out
        · rcases Nat.lt_or_ge j k with h5 | h5
          · exact hI.out.2 j l h5 hl
          · obtain rfl : j = k := by omega
            have h6 := h _ (List.mem_of_getElem? (HKA.out l hl))
            rw [hiE]
            simpa using h6)
      have hwk : IntKind.i64.wrap ((k : Int) - 1) = (k : Int) - 1 := IntWalk.i64_in _ (by omega)
      have hki : (i : Int) < (n : Int) := by omega
      have hkd : k ≤ d := by omega
      by_cases h0 : k = 0
      · subst h0
        rw [hi] at xk
        rw [Nat.add_zero] at xk
        generalize ((chK cs 0).all fun q => !coN zs i q) = r at *
        clear HN1 HRI HPOS a3 hi a1 a2 HR1 HKL HKN HKM HKA hiE
        cases r
        · have HQ := Lib.hid (HFA.out rfl)
          go_wp2_with (go_at_call 169; refine (HAPK.out _ (Gr.refl _)).mono ?_; rintro e w6 ⟨rfl, hg6⟩)
          go_ret
          exact ⟨ret_bool HQ.out.symm, HG.out.trans hg6⟩
        · have HQ := Lib.hid (HTR.out rfl)
          go_wp2_with (go_at_call 169; refine (HAPK.out _ (Gr.refl _)).mono ?_; rintro e w6 ⟨rfl, hg6⟩)
          go_roundw
          case rel => exact ⟨0 + 1, by omega, by go_num, HQ, HG.out.trans hg6⟩
          case measure => simp [intOf]; omega
      · have h2 := cs_at (cs := cs) (k := k - 1) (by rw [HM.out]; omega)
        obtain ⟨gb2, ob2, eg, -, xq⟩ := (HB.out.gr HG.out).at_ h2
        injection eg with eg
        injection eg with eg1 eg2
        subst eg1 eg2
        have xq' : wr.cell? ⟨gb, ob + ((k : Int) - 1).toNat, none⟩ = some (vi (cs.getD (k - 1) 0)) := by rw [show ((k : Int) - 1).toNat = k - 1 by omega]; exact xq
        have hk1 : (0 : Int) ≤ (k : Int) - 1 := by omega
        have hk0 : 0 < k := by omega
        have a4 : ¬ (i : Int) ≤ cs.getD (k - 1) 0 := by have := a3 hk0; rw [hi] at this; simpa using this
        rw [hi] at xk
        generalize ((chK cs k).all fun q => !coN zs i q) = r at *
        generalize cs.getD (k - 1) 0 = y at *
        clear HN1 HRI HPOS a3 hi a1 a2 h2 HR1 HKL HKN HKM HKA hiE
        cases r
        · have HQ := Lib.hid (HFA.out rfl)
          go_wp2_with (go_at_call 169; refine (HAPK.out _ (Gr.refl _)).mono ?_; rintro e w6 ⟨rfl, hg6⟩)
          go_ret
          exact ⟨ret_bool HQ.out.symm, HG.out.trans hg6⟩
        · have HQ := Lib.hid (HTR.out rfl)
          go_wp2_with (go_at_call 169; refine (HAPK.out _ (Gr.refl _)).mono ?_; rintro e w6 ⟨rfl, hg6⟩)
          go_roundw
          case rel => exact ⟨k + 1, by omega, by go_num, HQ, HG.out.trans hg6⟩
          case measure => simp [intOf]; omega
    · obtain rfl : k = m := by omega
      have HQ := Lib.hid (HYC.out (by rw [HP.out]; exact hI.out))
      go_wp2
      go_ret
      exact ⟨ret_bool HQ.out.symm, hG⟩
end Go.Proofs.YtggflladheemoaaDoor

/- Contracts of chapter 9: IsChoice and WorthOf. -/
namespace Go.Proofs.YtggflladheemoaaDoor
open Go.RowKit Go.Shelf
set_option linter.unusedVariables false
set_option linter.unusedSimpArgs false

/-- The worth of a list of indices. -/
def suW (zs : List P3) (cs : List Int) : Int := (cs.map fun c => woN zs c.toNat).sum
theorem suW_nil (zs : List P3) : suW zs [] = 0 := rfl
theorem suW_take (zs : List P3) (cs : List Int) (k : Nat) (hk : k < cs.length) : suW zs (cs.take (k + 1)) = suW zs (cs.take k) + woN zs (cs.getD k 0).toNat := by
  have e : cs.getD k 0 = cs[k] := by rw [List.getD_eq_getElem?_getD, List.getElem?_eq_getElem hk]; rfl
  unfold suW
  rw [List.take_succ_eq_append_getElem hk, List.map_append, List.sum_append, e]
  simp
theorem suW_bd {zs : List P3} (ha : allL zs = true) (cs : List Int) : 0 ≤ suW zs cs ∧ suW zs cs ≤ 41 * (cs.length : Int) := by
  induction cs with
  | nil => simp [suW]
  | cons c r ih =>
    have := woN_bd ha c.toNat
    unfold suW at *
    rw [List.map_cons, List.sum_cons, List.length_cons]
    omega
def icE (zs : List P3) : Int := lbE zs
def icV (zs : List P3) (cs : List Int) : Bool := if lbE zs = 0 then chB zs cs else false
def wtE (zs : List P3) (cs : List Int) : Int := if lbE zs = 0 then if chB zs cs = true then 0 else 5 else lbE zs
def wtV (zs : List P3) (cs : List Int) : Int := if wtE zs cs = 0 then suW zs cs else 0
theorem wt_cases (zs : List P3) (cs : List Int) : (lbE zs ≠ 0 ∧ wtE zs cs = lbE zs ∧ wtV zs cs = 0) ∨ (lbE zs = 0 ∧ chB zs cs = false ∧ wtE zs cs = 5 ∧ wtV zs cs = 0) ∨ (lbE zs = 0 ∧ chB zs cs = true ∧ wtE zs cs = 0 ∧ wtV zs cs = suW zs cs) := by
  by_cases h : lbE zs = 0
  · cases h2 : chB zs cs
    · have e : wtE zs cs = 5 := by unfold wtE; rw [if_pos h, h2]; rfl
      exact .inr (.inl ⟨h, rfl, e, by unfold wtV; rw [if_neg (by omega)]⟩)
    · have e : wtE zs cs = 0 := by unfold wtE; rw [if_pos h, h2]; rfl
      exact .inr (.inr ⟨h, rfl, e, by unfold wtV; rw [if_pos e]⟩)
  · have e : wtE zs cs = lbE zs := by unfold wtE; rw [if_neg h]
    exact .inl ⟨h, e, by unfold wtV; rw [if_neg (by omega)]⟩

set_option maxRecDepth 100000 in
theorem ic_spec (A : Option Addr) (n c : Nat) (zs : List P3) (B : Option Addr) (m d : Nat) (cs : List Int) (w : World) (hn : zs.length = n) (hN : n ≤ 16777216) (hA : Reads w w.heap.size A (cells3 zs)) (hm : cs.length = m) (hM : m ≤ 16777216) (hB : Reads w w.heap.size B (cs.map vi)) :
    Calls Tryd.prog 54 #[.slice A n c, .slice B m d] w fun e w' => e = .returned (.tuple #[.bool (icV zs cs), .int .i64 (lbE zs)]) ∧ Gr w w' := by
  have HC := Lib.hid (lbcode_spec A n c zs w hn hN hA)
  have HV := Lib.hid (show icV zs cs = if lbE zs = 0 then chB zs cs else false from rfl)
  by_cases h : lbE zs = 0
  · have HI := Lib.hid (fun W (hg : Gr w W) => choice_spec A n c zs B m d cs W hn hN (hA.gr hg) (lbE_zero h).2 hm hM (hB.gr hg))
    rw [if_pos h] at HV
    rw [h] at HC ⊢
    generalize icV zs cs = v at *
    generalize chB zs cs = b at *
    clear h hA hB hn hm
    go_enter Tryd.func54, Tryd.ntmps54
    go_wp2_with fail
    refine (HC.out).mono ?_
    rintro e w' ⟨rfl, hg1⟩
    go_wp2_with fail
    refine (HI.out _ hg1).mono ?_
    rintro e w2 ⟨rfl, hg2⟩
    go_wp2_with fail
    ((try simp only [Exit.inBlock, Exit.then]); refine bodyPost_ret (v := .tuple #[.bool b, .int .i64 0]) (by simp [results, Tryd.results54, go_sem]) rfl ?_)
    exact ⟨by rw [HV.out], hg1.trans hg2⟩
  · rw [if_neg h] at HV
    generalize icV zs cs = v at *
    have hc0 : (lbE zs == 0) = false := by simpa using h
    generalize lbE zs = cd at *
    clear hA hB hn hm
    go_enter Tryd.func54, Tryd.ntmps54
    go_wp2_with fail
    refine (HC.out).mono ?_
    rintro e w' ⟨rfl, hg1⟩
    go_wp2_with fail
    ((try simp only [Exit.inBlock, Exit.then]); refine bodyPost_ret (v := .tuple #[.bool false, .int .i64 cd]) (by simp [results, Tryd.results54, go_sem]) rfl ?_)
    exact ⟨by rw [HV.out], hg1⟩
set_option maxRecDepth 100000 in
theorem ic_impl (A : Option Addr) (n c : Nat) (zs : List P3) (B : Option Addr) (m d : Nat) (cs : List Int) (w : World) (ht : Tab w) (hn : zs.length = n) (hN : n ≤ 16777216) (hA : Reads w w.heap.size A (cells3 zs)) (hm : cs.length = m) (hM : m ≤ 2000000) (hmd : m ≤ d) (hB : Reads w w.heap.size B (cs.map vi)) :
    Calls Tryd.prog 53 #[.slice A n c, .slice B m d] w fun e w' => e = .returned (.tuple #[.bool (icV zs cs), .int .i64 (lbE zs)]) ∧ Gr w w' := by
  have HC := Lib.hid (lbcode_impl A n c zs w hn hN hA)
  have HV := Lib.hid (show icV zs cs = if lbE zs = 0 then chB zs cs else false from rfl)
  by_cases h : lbE zs = 0
  · have h40 := (lbE_zero h).1
    have HI := Lib.hid (fun W (hg : Gr w W) => choice_impl A n c zs B m d cs W (ht.gr hg) hn (by omega) (hA.gr hg) (lbE_zero h).2 hm hM hmd (hB.gr hg))
    rw [if_pos h] at HV
    rw [h] at HC ⊢
    generalize icV zs cs = v at *
    generalize chB zs cs = b at *
    clear h hA hB hn hm
    go_enter Tryd.func53, Tryd.ntmps53
    go_wp2_with fail
    refine (HC.out).mono ?_
    rintro e w' ⟨rfl, hg1⟩
    go_wp2_with fail
    refine (HI.out _ hg1).mono ?_
    rintro e w2 ⟨rfl, hg2⟩
    go_wp2_with fail
    ((try simp only [Exit.inBlock, Exit.then]); refine bodyPost_ret (v := .tuple #[.bool b, .int .i64 0]) (by simp [results, Tryd.results53, go_sem]) rfl ?_)
    exact ⟨by rw [HV.out], hg1.trans hg2⟩
  · rw [if_neg h] at HV
    generalize icV zs cs = v at *
    have hc0 : (lbE zs == 0) = false := by simpa using h
    generalize lbE zs = cd at *
    clear hA hB hn hm
    go_enter Tryd.func53, Tryd.ntmps53
    go_wp2_with fail
    refine (HC.out).mono ?_
    rintro e w' ⟨rfl, hg1⟩
    go_wp2_with fail
    ((try simp only [Exit.inBlock, Exit.then]); refine bodyPost_ret (v := .tuple #[.bool false, .int .i64 cd]) (by simp [results, Tryd.results53, go_sem]) rfl ?_)
    exact ⟨by rw [HV.out], hg1⟩

set_option maxRecDepth 100000 in
theorem sum_impl (A : Option Addr) (n c : Nat) (zs : List P3) (B : Option Addr) (m d : Nat) (cs : List Int) (w : World) (hn : zs.length = n) (hN : n ≤ 16777216) (hA : Reads w w.heap.size A (cells3 zs)) (ha : allL zs = true) (hm : cs.length = m) (hM : m ≤ 2000000) (hB : Reads w w.heap.size B (cs.map vi)) (hr : ∀ k, k < m → 0 ≤ cs.getD k 0 ∧ cs.getD k 0 < (n : Int)) :
    Calls Tryd.prog 127 #[.slice B m d, .func (.func 128) #[.slice A n c] #[]] w fun e w' => e = .returned (.int .i64 (suW zs cs)) ∧ Gr w w' := by
  have HB := Lib.hid hB
  have HM := Lib.hid hm
  have HR := Lib.hid hr
  have HS := Lib.hid (fun k hk => suW_take zs cs k (by rw [hm]; exact hk))
  have HBD := Lib.hid (fun k => suW_bd ha (cs.take k))
  have HWB := Lib.hid (fun k => woN_bd ha k)
  have HW := Lib.hid (fun i W (hg : Gr w W) (hi : i < n) => worth_impl A n c zs i W hn hN (hA.gr hg) hi ha)
  clear hA hB hn hm hr ha
  go_enter Tryd.func127, Tryd.ntmps127
  go_wp2
  go_loopw [5, 10] (fun s i wr => ∃ k : Nat, k ≤ m ∧ i = .int .i64 k ∧ s = .int .i64 (suW zs (cs.take k)) ∧ Gr w wr) (fun _ i _ => m - (intOf i).toNat)
  case atStart => exact ⟨0, by omega, rfl, by simp [suW], Gr.refl _⟩
  case round =>
    obtain ⟨k, hk, rfl, rfl, hG⟩ := hrel
    by_cases hlt : k < m
    · have h1 := cs_at (cs := cs) (k := k) (by rw [HM.out]; exact hlt)
      obtain ⟨gb, ob, rfl, hgb, xk⟩ := (HB.out.gr hG).at_ h1
      have r1 := HR.out k hlt
      have HS1 := Lib.hid (HS.out k hlt)
      obtain ⟨i, hi⟩ := Int.eq_ofNat_of_zero_le r1.1
      rw [hi, Int.toNat_natCast] at HS1
      rw [hi] at xk r1
      have hb := HBD.out k
      have hb2 := HWB.out i
      have hl := List.length_take_le k cs
      have HWI := Lib.hid (HW.out i _ hG (by omega))
      generalize suW zs (cs.take k) = s at *
      generalize woN zs i = x at *
      have hkk : ((cs.take k).length : Int) ≤ 2000000 := by omega
      have hws : IntKind.i64.wrap (s + x) = s + x := IntWalk.i64_in _ (by omega)
      have hG0 := Lib.hid hG
      clear h1 hi hG
      go_wp2_with (go_at_call 128; refine (HWI.out).mono ?_; rintro e w' ⟨rfl, rfl⟩)
      go_roundw
      case rel => exact ⟨k + 1, by omega, by go_num, by rw [HS1.out], hG0.out.trans (by repeat (first | with_reducible exact Gr.refl _ | with_reducible refine Gr.alloc ?_ _ | with_reducible refine Gr.gr ?_ _ _ | with_reducible refine Gr.drew ?_ | with_reducible refine Gr.drewN ?_ _))⟩
      case measure => simp [intOf]; omega
    · obtain rfl : k = m := by omega
      have HQ := Lib.hid (show suW zs (cs.take k) = suW zs cs by rw [List.take_of_length_le (by rw [HM.out]; omega)])
      go_wp2
      go_ret
      exact ⟨ret_int HQ.out, hG⟩
end Go.Proofs.YtggflladheemoaaDoor

/- Contracts of chapter 9: what a choice is worth. -/
namespace Go.Proofs.YtggflladheemoaaDoor
open Go.RowKit Go.Shelf
set_option linter.unusedVariables false
set_option linter.unusedSimpArgs false

set_option maxRecDepth 100000 in
set_option maxHeartbeats 2000000 in
theorem wt_spec (A : Option Addr) (n c : Nat) (zs : List P3) (B : Option Addr) (m d : Nat) (cs : List Int) (w : World) (hn : zs.length = n) (hN : n ≤ 16777216) (hA : Reads w w.heap.size A (cells3 zs)) (hm : cs.length = m) (hM : m ≤ 2000000) (hB : Reads w w.heap.size B (cs.map vi)) :
    Calls Tryd.prog 52 #[.slice A n c, .slice B m d] w fun e w' => e = .returned (.tuple #[.int .i64 (wtV zs cs), .int .i64 (wtE zs cs)]) ∧ Gr w w' := by
  have HC := Lib.hid (lbcode_spec A n c zs w hn hN hA)
  rcases wt_cases zs cs with ⟨h1, h2, h3⟩ | ⟨h1, hb, h2, h3⟩ | ⟨h1, hb, h2, h3⟩
  · rw [h2, h3]
    have hc0 : (lbE zs == 0) = false := by simpa using h1
    generalize lbE zs = cd at *
    clear hA hB hn hm h2 h3
    go_enter Tryd.func52, Tryd.ntmps52
    go_wp2_with fail
    refine (HC.out).mono ?_
    rintro e w' ⟨rfl, hg1⟩
    go_wp2_with fail
    ((try simp only [Exit.inBlock, Exit.then]); refine bodyPost_ret (v := .tuple #[.int .i64 0, .int .i64 cd]) (by simp [results, Tryd.results52, go_sem]) rfl ?_)
    exact ⟨rfl, hg1⟩
  · rw [h2, h3]
    have HI := Lib.hid (fun W (hg : Gr w W) => choice_spec A n c zs B m d cs W hn hN (hA.gr hg) (lbE_zero h1).2 hm (by omega) (hB.gr hg))
    rw [hb] at HI
    rw [h1] at HC
    clear hA hB hn hm h1 h2 h3 hb
    go_enter Tryd.func52, Tryd.ntmps52
    go_wp2_with fail
    refine (HC.out).mono ?_
    rintro e w' ⟨rfl, hg1⟩
    go_wp2_with fail
    refine (HI.out _ hg1).mono ?_
    rintro e w2 ⟨rfl, hg2⟩
    go_wp2_with fail
    ((try simp only [Exit.inBlock, Exit.then]); refine bodyPost_ret (v := .tuple #[.int .i64 0, .int .i64 5]) (by simp [results, Tryd.results52, go_sem]) rfl ?_)
    exact ⟨rfl, hg1.trans hg2⟩
  rw [h2, h3]
  have HI := Lib.hid (fun W (hg : Gr w W) => choice_spec A n c zs B m d cs W hn hN (hA.gr hg) (lbE_zero h1).2 hm (by omega) (hB.gr hg))
  rw [hb] at HI
  rw [h1] at HC
  have ha := (lbE_zero h1).2
  have hch := ((chB_iff zs cs).1 hb).1
  rw [hm, hn] at hch
  have HA := Lib.hid hA
  have HB := Lib.hid hB
  have HL := Lib.hid hn
  have HM := Lib.hid hm
  have HR := Lib.hid (fun k hk => (hch k hk).1)
  have HS := Lib.hid (fun k hk => suW_take zs cs k (by rw [hm]; exact hk))
  have HBD := Lib.hid (fun k => suW_bd ha (cs.take k))
  have HWB := Lib.hid (fun k => woN_bd ha k)
  have HH := Lib.hid (fun (k : Nat) (h : k < n) => (tkN_is ha (k := k) (by rw [hn]; exact h)).2.2)
  clear hA hB hn hm h1 h2 h3 hb ha hch
  go_enter Tryd.func52, Tryd.ntmps52
  go_wp2_with fail
  refine (HC.out).mono ?_
  rintro e w' ⟨rfl, hg1⟩
  go_wp2_with fail
  refine (HI.out _ hg1).mono ?_
  rintro e w2 ⟨rfl, hg2⟩
  have HG2 := Lib.hid (hg1.trans hg2)
  clear hg1 hg2
  go_wp2
  go_loopw [7, 8] (fun s i wr => ∃ k : Nat, k ≤ m ∧ i = .int .i64 k ∧ s = .int .i64 (suW zs (cs.take k)) ∧ Gr w wr) (fun _ i _ => m - (intOf i).toNat)
  case atStart => exact ⟨0, by omega, rfl, by simp [suW], HG2.out⟩
  case round =>
    obtain ⟨k, hk, rfl, rfl, hG⟩ := hrel
    by_cases hlt : k < m
    · have h1 := cs_at (cs := cs) (k := k) (by rw [HM.out]; exact hlt)
      obtain ⟨gb, ob, rfl, hgb, xk⟩ := (HB.out.gr hG).at_ h1
      have r1 := HR.out k hlt
      have HS1 := Lib.hid (HS.out k hlt)
      obtain ⟨i, hi⟩ := Int.eq_ofNat_of_zero_le r1.1
      rw [hi, Int.toNat_natCast] at HS1
      rw [hi] at xk r1
      have hin : i < n := by omega
      have hb := HBD.out k
      have hb2 := HWB.out i
      have hl := List.length_take_le k cs
      have hz := tkN_at (zs := zs) (k := i) (by rw [HL.out]; exact hin)
      obtain ⟨g, o, rfl, hg, x0, x1, x2⟩ := (HA.out.gr hG).at3 hz
      have HW := fun W => worth_spec (tkN zs i) W (HH.out i hin)
      have HWE := Lib.hid (show woN zs i = 1 + 10 * (tkN zs i).2.2 from rfl)
      generalize tkN zs i = z at *
      obtain ⟨za, zb, zc⟩ := z
      simp only [tkV] at HW
      simp only at x0 x1 x2 HWE
      rw [← HWE.out] at HW
      replace HW := Lib.hid HW
      generalize suW zs (cs.take k) = s at *
      generalize woN zs i = x at *
      have hkk : ((cs.take k).length : Int) ≤ 2000000 := by omega
      have hws : IntKind.i64.wrap (s + x) = s + x := IntWalk.i64_in _ (by omega)
      have hG0 := Lib.hid hG
      have hki : (i : Int) < (n : Int) := by omega
      clear h1 hi hz hG
      go_wp2_with fail
      refine (HW.out _).mono ?_
      rintro e w3 ⟨rfl, hg3⟩
      have HG3 := Lib.hid (hG0.out.trans hg3)
      clear hg3
      go_wp2
      go_roundw
      case rel => exact ⟨k + 1, by omega, by go_num, by rw [HS1.out], HG3.out⟩
      case measure => simp [intOf]; omega
    · obtain rfl : k = m := by omega
      have HQ := Lib.hid (show suW zs (cs.take k) = suW zs cs by rw [List.take_of_length_le (by rw [HM.out]; omega)])
      go_wp2
      ((try simp only [Exit.inBlock, Exit.then]); refine bodyPost_ret (v := .tuple #[.int .i64 (suW zs (cs.take k)), .int .i64 0]) (by simp [results, Tryd.results52, go_sem]) rfl ?_)
      exact ⟨by rw [HQ.out], hG⟩
set_option maxRecDepth 100000 in
theorem wt_impl (A : Option Addr) (n c : Nat) (zs : List P3) (B : Option Addr) (m d : Nat) (cs : List Int) (w : World) (ht : Tab w) (hn : zs.length = n) (hN : n ≤ 16777216) (hA : Reads w w.heap.size A (cells3 zs)) (hm : cs.length = m) (hM : m ≤ 2000000) (hmd : m ≤ d) (hB : Reads w w.heap.size B (cs.map vi)) :
    Calls Tryd.prog 51 #[.slice A n c, .slice B m d] w fun e w' => e = .returned (.tuple #[.int .i64 (wtV zs cs), .int .i64 (wtE zs cs)]) ∧ Gr w w' := by
  have HC := Lib.hid (lbcode_impl A n c zs w hn hN hA)
  rcases wt_cases zs cs with ⟨h1, h2, h3⟩ | ⟨h1, hb, h2, h3⟩ | ⟨h1, hb, h2, h3⟩
  · rw [h2, h3]
    have hc0 : (lbE zs == 0) = false := by simpa using h1
    generalize lbE zs = cd at *
    clear hA hB hn hm h2 h3
    go_enter Tryd.func51, Tryd.ntmps51
    go_wp2_with fail
    refine (HC.out).mono ?_
    rintro e w' ⟨rfl, hg1⟩
    go_wp2_with fail
    ((try simp only [Exit.inBlock, Exit.then]); refine bodyPost_ret (v := .tuple #[.int .i64 0, .int .i64 cd]) (by simp [results, Tryd.results51, go_sem]) rfl ?_)
    exact ⟨rfl, hg1⟩
  all_goals have h40 := (lbE_zero h1).1
  all_goals rw [h2, h3]
  all_goals have HI := Lib.hid (fun W (hg : Gr w W) => choice_impl A n c zs B m d cs W (ht.gr hg) hn (by omega) (hA.gr hg) (lbE_zero h1).2 hm hM hmd (hB.gr hg))
  all_goals rw [hb] at HI
  all_goals rw [h1] at HC
  · clear hA hB hn hm h1 h2 h3 hb
    go_enter Tryd.func51, Tryd.ntmps51
    go_wp2_with fail
    refine (HC.out).mono ?_
    rintro e w' ⟨rfl, hg1⟩
    go_wp2_with fail
    refine (HI.out _ hg1).mono ?_
    rintro e w2 ⟨rfl, hg2⟩
    go_wp2_with fail
    ((try simp only [Exit.inBlock, Exit.then]); refine bodyPost_ret (v := .tuple #[.int .i64 0, .int .i64 5]) (by simp [results, Tryd.results51, go_sem]) rfl ?_)
    exact ⟨rfl, hg1.trans hg2⟩
  · have hch := ((chB_iff zs cs).1 hb).1
    rw [hm, hn] at hch
    have HS := Lib.hid (fun W (hg : Gr w W) => sum_impl A n c zs B m d cs W hn (by omega) (hA.gr hg) (lbE_zero h1).2 hm hM (hB.gr hg) (fun k hk => (hch k hk).1))
    generalize suW zs cs = s at *
    clear hA hB hn hm h1 h2 h3 hb hch
    go_enter Tryd.func51, Tryd.ntmps51
    go_wp2_with fail
    refine (HC.out).mono ?_
    rintro e w' ⟨rfl, hg1⟩
    go_wp2_with fail
    refine (HI.out _ hg1).mono ?_
    rintro e w2 ⟨rfl, hg2⟩
    go_wp2_with fail
    refine (HS.out _ (hg1.trans hg2)).mono ?_
    rintro e w3 ⟨rfl, hg3⟩
    go_wp2_with fail
    ((try simp only [Exit.inBlock, Exit.then]); refine bodyPost_ret (v := .tuple #[.int .i64 s, .int .i64 0]) (by simp [results, Tryd.results51, go_sem]) rfl ?_)
    exact ⟨rfl, (hg1.trans hg2).trans hg3⟩
end Go.Proofs.YtggflladheemoaaDoor
