/- Contracts of chapter 9: how many labels end before a place; choices of labels and their worth. -/
import Derived.Test.YtlimfpdibohioabDoorC09b
import Derived.Test.YtlimfpdibohioabDoorC08l
import Derived.Test.YtlimfpdibohioabDoorC01d
import Derived.BigQuiet
namespace Go.Proofs.YtlimfpdibohioabDoor
open Go.RowKit
set_option linter.unusedVariables false
set_option linter.unusedSimpArgs false

set_option maxRecDepth 100000 in
theorem frK_impl (A : Option Addr) (n c : Nat) (zs : List P3) (x : Int) (w : World) (ht : Tab w) (hn : zs.length = n) (hN : n ≤ 16777216) (hA : Reads w w.heap.size A (cells3 zs)) (ha : allL zs = true) :
    Calls Tryd.prog 62 #[.slice A n c, .int .i64 x] w fun e w' => e = .returned (.int .i64 (frK (rtN zs) x n : Int)) ∧ Gr w w' := by
  have HA := Lib.hid hA
  have HT := Lib.hid ht
  have HL := Lib.hid hn
  have HZ := Lib.hid (fun (k : Nat) (h : k < n) => tkN_is ha (k := k) (by rw [hn]; exact h))
  have HS := Lib.hid (frK_succ (rtN zs) x)
  have HB := Lib.hid (frK_le (rtN zs) x)
  clear hA ht hn ha
  go_enter Tryd.func62, Tryd.ntmps62
  go_wp2
  go_loopw [5, 12] (fun s i wr => ∃ k : Nat, k ≤ n ∧ i = .int .i64 k ∧ s = .int .i64 (frK (rtN zs) x k : Int) ∧ Gr w wr) (fun _ i _ => n - (intOf i).toNat)
  case atStart => exact ⟨0, by omega, rfl, by simp [frK], Gr.refl _⟩
  case round =>
    obtain ⟨k, hk, rfl, rfl, hG⟩ := hrel
    by_cases hlt : k < n
    · have hz := tkN_at (zs := zs) (k := k) (by rw [HL.out]; exact hlt)
      obtain ⟨g, o, rfl, hg, x0, x1, x2⟩ := (HA.out.gr hG).at3 hz
      have HE := fun W (h : Tab W) => ends_impl (tkN zs k) W h (HZ.out k hlt)
      have HS1 := Lib.hid (HS.out k)
      have hb := HB.out k
      rw [show rtN zs k = rtT (tkN zs k) from rfl] at HS1
      clear hz
      generalize tkN zs k = z at *
      obtain ⟨za, zb, zc⟩ := z
      simp only [tkV] at HE
      replace HE := Lib.hid HE
      simp only at x0 x1 x2
      generalize lfT (za, zb, zc) = l at *
      generalize rtT (za, zb, zc) = r at *
      generalize frK (rtN zs) x k = q at *
      by_cases hc : r ≤ x
      · rw [if_pos hc] at HS1
        go_wp2_with fail
        refine (HE.out _ (HT.out.gr (hG.trans (by repeat (first | with_reducible exact Gr.refl _ | with_reducible refine Gr.alloc ?_ _ | with_reducible refine Gr.gr ?_ _ _ | with_reducible refine Gr.drew ?_ | with_reducible refine Gr.drewN ?_ _))))).mono ?_
        rintro e w2 ⟨rfl, hg2⟩
        have HG2 := Lib.hid (hG.trans (Gr.trans (by repeat (first | with_reducible exact Gr.refl _ | with_reducible refine Gr.alloc ?_ _ | with_reducible refine Gr.gr ?_ _ _ | with_reducible refine Gr.drew ?_ | with_reducible refine Gr.drewN ?_ _)) hg2))
        clear hg2
        go_wp2
        go_roundw
        case rel => exact ⟨k + 1, by omega, by go_num, by rw [HS1.out]; go_num, HG2.out⟩
        case measure => simp [intOf]; omega
      · rw [if_neg hc] at HS1
        go_wp2_with fail
        refine (HE.out _ (HT.out.gr (hG.trans (by repeat (first | with_reducible exact Gr.refl _ | with_reducible refine Gr.alloc ?_ _ | with_reducible refine Gr.gr ?_ _ _ | with_reducible refine Gr.drew ?_ | with_reducible refine Gr.drewN ?_ _))))).mono ?_
        rintro e w2 ⟨rfl, hg2⟩
        have HG2 := Lib.hid (hG.trans (Gr.trans (by repeat (first | with_reducible exact Gr.refl _ | with_reducible refine Gr.alloc ?_ _ | with_reducible refine Gr.gr ?_ _ _ | with_reducible refine Gr.drew ?_ | with_reducible refine Gr.drewN ?_ _)) hg2))
        clear hg2
        go_wp2
        go_roundw
        case rel => exact ⟨k + 1, by omega, by go_num, by rw [HS1.out, Nat.add_zero], HG2.out⟩
        case measure => simp [intOf]; omega
    · obtain rfl : k = n := by omega
      go_wp2
      go_ret
      exact ⟨rfl, hG⟩
set_option maxRecDepth 100000 in
theorem frN_spec (A : Option Addr) (n c : Nat) (zs : List P3) (z : P3) (w : World) (hn : zs.length = n) (hN : n ≤ 16777216) (hA : Reads w w.heap.size A (cells3 zs)) (ha : allL zs = true) (hz : lbIs z) :
    Calls Tryd.prog 46 #[.slice A n c, tkV z] w fun e w' => e = .returned (.int .i64 (frK (rtN zs) (lfT z) n : Int)) ∧ Gr w w' := by
  have HA := Lib.hid hA
  have HL := Lib.hid hn
  have HZ := Lib.hid (fun (k : Nat) (h : k < n) => tkN_is ha (k := k) (by rw [hn]; exact h))
  have HS := Lib.hid (fun x => frK_succ (rtN zs) x)
  have HB := Lib.hid (fun x => frK_le (rtN zs) x)
  have H0 := fun W => ends_spec z W hz
  obtain ⟨a, b, c1⟩ := z
  simp only [tkV] at H0
  replace H0 := Lib.hid H0
  generalize lfT (a, b, c1) = x at *
  generalize rtT (a, b, c1) = y at *
  clear hA hn ha hz
  go_enter Tryd.func46, Tryd.ntmps46
  go_wp2_with fail
  refine (H0.out _).mono ?_
  rintro e w1 ⟨rfl, hg1⟩
  have HG1 := Lib.hid (Gr.trans (show Gr w _ from (by repeat (first | with_reducible exact Gr.refl _ | with_reducible refine Gr.alloc ?_ _ | with_reducible refine Gr.gr ?_ _ _ | with_reducible refine Gr.drew ?_ | with_reducible refine Gr.drewN ?_ _))) hg1)
  clear hg1
  go_wp2
  go_loopw [7, 8] (fun s i wr => ∃ k : Nat, k ≤ n ∧ i = .int .i64 k ∧ s = .int .i64 (frK (rtN zs) x k : Int) ∧ Gr w wr) (fun _ i _ => n - (intOf i).toNat)
  case atStart => exact ⟨0, by omega, rfl, by simp [frK], HG1.out⟩
  case round =>
    obtain ⟨k, hk, rfl, rfl, hG⟩ := hrel
    by_cases hlt : k < n
    · have hz := tkN_at (zs := zs) (k := k) (by rw [HL.out]; exact hlt)
      obtain ⟨g, o, rfl, hg, x0, x1, x2⟩ := (HA.out.gr hG).at3 hz
      have HE := fun W => ends_spec (tkN zs k) W (HZ.out k hlt)
      have HS1 := Lib.hid (HS.out x k)
      have hb := HB.out x k
      rw [show rtN zs k = rtT (tkN zs k) from rfl] at HS1
      clear hz
      generalize tkN zs k = z at *
      obtain ⟨za, zb, zc⟩ := z
      simp only [tkV] at HE
      replace HE := Lib.hid HE
      simp only at x0 x1 x2
      generalize lfT (za, zb, zc) = l at *
      generalize rtT (za, zb, zc) = r at *
      generalize frK (rtN zs) x k = q at *
      by_cases hc : r ≤ x
      · rw [if_pos hc] at HS1
        go_wp2_with fail
        refine (HE.out _).mono ?_
        rintro e w2 ⟨rfl, hg2⟩
        have HG2 := Lib.hid (hG.trans hg2)
        clear hg2
        go_wp2
        go_roundw
        case rel => exact ⟨k + 1, by omega, by go_num, by rw [HS1.out]; go_num, HG2.out⟩
        case measure => simp [intOf]; omega
      · rw [if_neg hc] at HS1
        go_wp2_with fail
        refine (HE.out _).mono ?_
        rintro e w2 ⟨rfl, hg2⟩
        have HG2 := Lib.hid (hG.trans hg2)
        clear hg2
        go_wp2
        go_roundw
        case rel => exact ⟨k + 1, by omega, by go_num, by rw [HS1.out, Nat.add_zero], HG2.out⟩
        case measure => simp [intOf]; omega
    · obtain rfl : k = n := by omega
      go_wp2
      go_ret
      exact ⟨rfl, hG⟩

/-- A strictly increasing list of indices. -/
def riP (n : Nat) (cs : List Int) (k : Nat) : Prop := (0 ≤ cs.getD k 0 ∧ cs.getD k 0 < n) ∧ (0 < k → cs.getD (k - 1) 0 < cs.getD k 0)
def chP (zs : List P3) (cs : List Int) : Prop := (∀ k, k < cs.length → riP zs.length cs k) ∧ ∀ i k, i < cs.length → k < i → coN zs (cs.getD i 0).toNat (cs.getD k 0).toNat = false
instance (n : Nat) (cs : List Int) (k : Nat) : Decidable (riP n cs k) := by unfold riP; exact inferInstance
def riB (n : Nat) (cs : List Int) : Bool := (List.range cs.length).all fun k => decide (riP n cs k)
def chB (zs : List P3) (cs : List Int) : Bool := riB zs.length cs && (List.range cs.length).all fun i => (List.range i).all fun k => !coN zs (cs.getD i 0).toNat (cs.getD k 0).toNat
theorem riB_iff (n : Nat) (cs : List Int) : riB n cs = true ↔ ∀ k, k < cs.length → riP n cs k := by
  unfold riB
  rw [List.all_eq_true]
  exact ⟨fun h k hk => of_decide_eq_true (h k (List.mem_range.2 hk)), fun h k hk => decide_eq_true (h k (List.mem_range.1 hk))⟩
theorem riB_yes {n : Nat} {cs : List Int} (h : ∀ k, k < cs.length → riP n cs k) : riB n cs = true := (riB_iff n cs).2 h
theorem riB_all {n : Nat} {cs : List Int} (h : riB n cs = true) : ∀ k, k < cs.length → riP n cs k := (riB_iff n cs).1 h
theorem riB_no {n : Nat} {cs : List Int} {k : Nat} (hk : k < cs.length) (h : ¬ riP n cs k) : riB n cs = false := by
  cases e : riB n cs
  · rfl
  · exact absurd (riB_all e k hk) h
theorem chB_iff (zs : List P3) (cs : List Int) : chB zs cs = true ↔ chP zs cs := by
  unfold chB chP
  rw [Bool.and_eq_true, riB_iff, List.all_eq_true]
  refine ⟨fun h => ⟨h.1, fun i k hi hk => ?_⟩, fun h => ⟨h.1, fun i hi => ?_⟩⟩
  · have := List.all_eq_true.1 (h.2 i (List.mem_range.2 hi)) k (List.mem_range.2 hk)
    simpa using this
  · rw [List.all_eq_true]
    intro k hk
    rw [h.2 i k (List.mem_range.1 hi) (List.mem_range.1 hk)]
    rfl
theorem chB_yes {zs : List P3} {cs : List Int} (h : chP zs cs) : chB zs cs = true := (chB_iff zs cs).2 h
theorem chB_no {zs : List P3} {cs : List Int} (h : ¬ chP zs cs) : chB zs cs = false := by
  cases e : chB zs cs
  · rfl
  · exact absurd ((chB_iff zs cs).1 e) h
theorem cs_at {cs : List Int} {k : Nat} (h : k < cs.length) : (cs.map vi)[k]? = some (vi (cs.getD k 0)) := by
  rw [List.getElem?_map, List.getElem?_eq_getElem h, List.getD_eq_getElem?_getD, List.getElem?_eq_getElem h]
  rfl

set_option maxRecDepth 100000 in
set_option maxHeartbeats 2000000 in
theorem rises_any (A : Option Addr) (n c : Nat) (cs : List Int) (m : Nat) (w : World) (hn : cs.length = n) (hN : n ≤ 16777216) (hm : m ≤ 16777216) (hA : Reads w w.heap.size A (cs.map vi)) :
    Calls Tryd.prog 59 #[.slice A n c, .int .i64 m] w fun e w' => e = .returned (.bool (riB m cs)) ∧ Gr w w' := by
  have HA := Lib.hid hA
  have HL := Lib.hid hn
  have HY := Lib.hid (riB_yes (n := m) (cs := cs))
  have HNO := Lib.hid (fun k => riB_no (n := m) (cs := cs) (k := k))
  have hwm : IntKind.i64.wrap ((m : Int) - 1) = (m : Int) - 1 := IntWalk.i64_in _ (by omega)
  rw [hn] at HY HNO
  clear hA hn
  go_enter Tryd.func59, Tryd.ntmps59
  go_wp2
  go_loopw [5] (fun i wr => ∃ k : Nat, k ≤ n ∧ i = .int .i64 k ∧ Hid (∀ j, j < k → riP m cs j) ∧ Gr w wr) (fun i _ => n - (intOf i).toNat)
  case atStart => exact ⟨0, by omega, rfl, Lib.hid (fun j h => absurd h (by omega)), Gr.refl _⟩
  case round =>
    obtain ⟨k, hk, rfl, hI, hG⟩ := hrel
    by_cases hlt : k < n
    · have hck := cs_at (cs := cs) (k := k) (by rw [HL.out]; exact hlt)
      obtain ⟨g, o, rfl, hg, x0⟩ := (HA.out.gr hG).at_ hck
      have HNK := Lib.hid (HNO.out k hlt)
      have HYK := Lib.hid (fun (h : riP m cs k) => show ∀ j, j < k + 1 → riP m cs j from fun j hj => by
        rcases Nat.lt_or_ge j k with h1 | h1
        · exact hI.out j h1
        · rw [show j = k by omega]; exact h)
      have HRI := Lib.hid (show riP m cs k = ((0 ≤ cs.getD k 0 ∧ cs.getD k 0 < (m : Int)) ∧ (0 < k → cs.getD (k - 1) 0 < cs.getD k 0)) from rfl)
      have HG := Lib.hid hG
      have hwk : IntKind.i64.wrap ((k : Int) - 1) = (k : Int) - 1 := IntWalk.i64_in _ (by omega)
      have HIN := Lib.hid (fun W => (in_any (cs.getD k 0) 0 ((m : Int) - 1) W).mono fun e w' ⟨a, b⟩ => show _ ∧ w' = W from ⟨a, b.symm⟩)
      clear hck hG
      by_cases h1 : 0 ≤ cs.getD k 0 ∧ cs.getD k 0 ≤ (m : Int) - 1
      rotate_left
      · have HQ := Lib.hid (HNK.out (by rw [HRI.out]; intro h; exact h1 ⟨h.1.1, by omega⟩))
        rw [decide_eq_false h1] at HIN
        generalize cs.getD k 0 = x at *
        clear h1 HNK HYK HRI
        go_wp2
        go_quiet (exact Calls.quiet_of_same (HIN.out _))
        go_wp2
        go_ret
        exact ⟨ret_bool HQ.out.symm, HG.out.trans (by repeat (first | with_reducible exact Gr.refl _ | with_reducible refine Gr.alloc ?_ _ | with_reducible refine Gr.gr ?_ _ _ | with_reducible refine Gr.drew ?_ | with_reducible refine Gr.drewN ?_ _))⟩
      rw [decide_eq_true h1] at HIN
      by_cases h2 : k = 0
      · have HQ := Lib.hid (HYK.out (by rw [HRI.out]; exact ⟨⟨h1.1, by omega⟩, fun h => absurd h (by omega)⟩))
        subst h2
        rw [Nat.add_zero] at x0
        generalize cs.getD 0 0 = x at *
        clear h1 HNK HYK HRI
        go_wp2
        go_quiet (exact Calls.quiet_of_same (HIN.out _))
        go_wp2
        go_roundw
        case rel => exact ⟨0 + 1, by omega, by go_num, HQ, HG.out.trans (by repeat (first | with_reducible exact Gr.refl _ | with_reducible refine Gr.alloc ?_ _ | with_reducible refine Gr.gr ?_ _ _ | with_reducible refine Gr.drew ?_ | with_reducible refine Gr.drewN ?_ _))⟩
        case measure => simp [intOf]; omega
      have hd0 : decide (0 < (k : Int)) = true := decide_eq_true (by omega)
      have hd1 : decide (0 < k) = true := decide_eq_true (by omega)
      have hcp := cs_at (cs := cs) (k := k - 1) (by rw [HL.out]; omega)
      obtain ⟨g2, o2, eg, -, x1⟩ := (HA.out.gr HG.out).at_ hcp
      injection eg with eg
      injection eg with eg1 eg2
      subst eg1 eg2
      have x1' : wr.cell? ⟨g, o + ((k : Int) - 1).toNat, none⟩ = some (vi (cs.getD (k - 1) 0)) := by rw [show ((k : Int) - 1).toNat = k - 1 by omega]; exact x1
      have hk1 : (0 : Int) ≤ (k : Int) - 1 := by omega
      by_cases h3 : cs.getD (k - 1) 0 < cs.getD k 0
      · have HQ := Lib.hid (HYK.out (by rw [HRI.out]; exact ⟨⟨h1.1, by omega⟩, fun _ => h3⟩))
        have hd3 : decide (cs.getD k 0 ≤ cs.getD (k - 1) 0) = false := decide_eq_false (by omega)
        clear hcp
        generalize cs.getD (k - 1) 0 = y at *
        generalize cs.getD k 0 = x at *
        clear h1 HNK HYK HRI
        go_wp2
        go_quiet (exact Calls.quiet_of_same (HIN.out _))
        go_wp2
        go_roundw
        case rel => exact ⟨k + 1, by omega, by go_num, HQ, HG.out.trans (by repeat (first | with_reducible exact Gr.refl _ | with_reducible refine Gr.alloc ?_ _ | with_reducible refine Gr.gr ?_ _ _ | with_reducible refine Gr.drew ?_ | with_reducible refine Gr.drewN ?_ _))⟩
        case measure => simp [intOf]; omega
      · have HQ := Lib.hid (HNK.out (by rw [HRI.out]; intro h; exact h3 (h.2 (by omega))))
        have hd3 : decide (cs.getD k 0 ≤ cs.getD (k - 1) 0) = true := decide_eq_true (by omega)
        clear hcp
        generalize cs.getD (k - 1) 0 = y at *
        generalize cs.getD k 0 = x at *
        clear h1 HNK HYK HRI
        go_wp2
        go_quiet (exact Calls.quiet_of_same (HIN.out _))
        go_wp2
        go_ret
        exact ⟨ret_bool HQ.out.symm, HG.out.trans (by repeat (first | with_reducible exact Gr.refl _ | with_reducible refine Gr.alloc ?_ _ | with_reducible refine Gr.gr ?_ _ _ | with_reducible refine Gr.drew ?_ | with_reducible refine Gr.drewN ?_ _))⟩
    · obtain rfl : k = n := by omega
      have HQ := Lib.hid (HY.out hI.out)
      go_wp2
      go_ret
      exact ⟨ret_bool HQ.out.symm, hG⟩
end Go.Proofs.YtlimfpdibohioabDoor
