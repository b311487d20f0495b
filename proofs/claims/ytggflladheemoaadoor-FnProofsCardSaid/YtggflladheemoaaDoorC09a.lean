/- Contracts of chapter 9: whether two labels collide, the codes, worths, and how many labels end before a place. -/
import Derived.Test.YtggflladheemoaaDoorT19
import Derived.Test.YtggflladheemoaaDoorC08k
import Derived.BigQuiet
namespace Go.Proofs.YtggflladheemoaaDoor
open Go.RowKit
set_option linter.unusedVariables false
set_option linter.unusedSimpArgs false

set_option maxRecDepth 100000 in
theorem collide_impl (y z : P3) (w : World) (ht : Tab w) (hy : lbIs y) (hz : lbIs z) :
    Calls Tryd.prog 123 #[tkV y, tkV z] w fun e w' => e = .returned (.bool (coT y z)) ∧ Gr w w' := by
  have HT := Lib.hid ht
  have HY := fun w (h : Tab w) => ends_impl y w h hy
  have HZ := fun w (h : Tab w) => ends_impl z w h hz
  obtain ⟨a, b, c⟩ := y
  obtain ⟨a', b', c'⟩ := z
  have HC := Lib.hid (show coT (a, b, c) (a', b', c') = decide (lfT (a, b, c) < rtT (a', b', c') ∧ lfT (a', b', c') < rtT (a, b, c)) from rfl)
  simp only [tkV] at HY HZ
  replace HY := Lib.hid HY
  replace HZ := Lib.hid HZ
  generalize coT (a, b, c) (a', b', c') = r at *
  generalize lfT (a, b, c) = l1 at *
  generalize rtT (a, b, c) = r1 at *
  generalize lfT (a', b', c') = l2 at *
  generalize rtT (a', b', c') = r2 at *
  clear ht hy hz
  by_cases h1 : l1 < r2
  · by_cases h2 : l2 < r1
    · have HQ := Lib.hid (show r = true by rw [HC.out]; exact decide_eq_true ⟨h1, h2⟩)
      clear HC
      go_enter Tryd.func123, Tryd.ntmps123
      go_wp2_with fail
      refine (HY.out _ (HT.out.gr (by repeat (first | with_reducible exact Gr.refl _ | with_reducible refine Gr.alloc ?_ _ | with_reducible refine Gr.gr ?_ _ _ | with_reducible refine Gr.drew ?_ | with_reducible refine Gr.drewN ?_ _)))).mono ?_
      rintro e w' ⟨rfl, k, os, rfl⟩
      go_wp2_with fail
      refine (HZ.out _ (HT.out.gr (by repeat (first | with_reducible exact Gr.refl _ | with_reducible refine Gr.alloc ?_ _ | with_reducible refine Gr.gr ?_ _ _ | with_reducible refine Gr.drew ?_ | with_reducible refine Gr.drewN ?_ _)))).mono ?_
      rintro e w' ⟨rfl, k2, os2, rfl⟩
      go_wp2_with fail
      go_ret
      exact ⟨ret_bool HQ.out.symm, (by repeat (first | with_reducible exact Gr.refl _ | with_reducible refine Gr.alloc ?_ _ | with_reducible refine Gr.gr ?_ _ _ | with_reducible refine Gr.drew ?_ | with_reducible refine Gr.drewN ?_ _))⟩
    · have HQ := Lib.hid (show r = false by rw [HC.out]; exact decide_eq_false (fun h => h2 h.2))
      clear HC
      go_enter Tryd.func123, Tryd.ntmps123
      go_wp2_with fail
      refine (HY.out _ (HT.out.gr (by repeat (first | with_reducible exact Gr.refl _ | with_reducible refine Gr.alloc ?_ _ | with_reducible refine Gr.gr ?_ _ _ | with_reducible refine Gr.drew ?_ | with_reducible refine Gr.drewN ?_ _)))).mono ?_
      rintro e w' ⟨rfl, k, os, rfl⟩
      go_wp2_with fail
      refine (HZ.out _ (HT.out.gr (by repeat (first | with_reducible exact Gr.refl _ | with_reducible refine Gr.alloc ?_ _ | with_reducible refine Gr.gr ?_ _ _ | with_reducible refine Gr.drew ?_ | with_reducible refine Gr.drewN ?_ _)))).mono ?_
      rintro e w' ⟨rfl, k2, os2, rfl⟩
      go_wp2_with fail
      go_ret
      exact ⟨ret_bool (by rw [HQ.out]; exact decide_eq_false (by omega)), (by repeat (first | with_reducible exact Gr.refl _ | with_reducible refine Gr.alloc ?_ _ | with_reducible refine Gr.gr ?_ _ _ | with_reducible refine Gr.drew ?_ | with_reducible refine Gr.drewN ?_ _))⟩
  · have HQ := Lib.hid (show r = false by rw [HC.out]; exact decide_eq_false (fun h => h1 h.1))
    clear HC
    go_enter Tryd.func123, Tryd.ntmps123
    go_wp2_with fail
    refine (HY.out _ (HT.out.gr (by repeat (first | with_reducible exact Gr.refl _ | with_reducible refine Gr.alloc ?_ _ | with_reducible refine Gr.gr ?_ _ _ | with_reducible refine Gr.drew ?_ | with_reducible refine Gr.drewN ?_ _)))).mono ?_
    rintro e w' ⟨rfl, k, os, rfl⟩
    go_wp2_with fail
    refine (HZ.out _ (HT.out.gr (by repeat (first | with_reducible exact Gr.refl _ | with_reducible refine Gr.alloc ?_ _ | with_reducible refine Gr.gr ?_ _ _ | with_reducible refine Gr.drew ?_ | with_reducible refine Gr.drewN ?_ _)))).mono ?_
    rintro e w' ⟨rfl, k2, os2, rfl⟩
    go_wp2_with fail
    go_ret
    exact ⟨ret_bool HQ.out.symm, (by repeat (first | with_reducible exact Gr.refl _ | with_reducible refine Gr.alloc ?_ _ | with_reducible refine Gr.gr ?_ _ _ | with_reducible refine Gr.drew ?_ | with_reducible refine Gr.drewN ?_ _))⟩

set_option maxRecDepth 100000 in
theorem collide_spec (y z : P3) (w : World) (hy : lbIs y) (hz : lbIs z) :
    Calls Tryd.prog 124 #[tkV y, tkV z] w fun e w' => e = .returned (.bool (coT y z)) ∧ Gr w w' := by
  have HY := fun w => ends_spec y w hy
  have HZ := fun w => ends_spec z w hz
  have HC := Lib.hid (coT_max y z hy hz)
  obtain ⟨a, b, c⟩ := y
  obtain ⟨a', b', c'⟩ := z
  simp only [tkV] at HY HZ
  replace HY := Lib.hid HY
  replace HZ := Lib.hid HZ
  generalize coT (a, b, c) (a', b', c') = r at *
  generalize lfT (a, b, c) = l1 at *
  generalize rtT (a, b, c) = r1 at *
  generalize lfT (a', b', c') = l2 at *
  generalize rtT (a', b', c') = r2 at *
  clear hy hz
  go_enter Tryd.func124, Tryd.ntmps124
  go_wp2_with fail
  refine (HY.out _).mono ?_
  rintro e w' ⟨rfl, k, os, rfl⟩
  go_wp2_with fail
  refine (HZ.out _).mono ?_
  rintro e w' ⟨rfl, k2, os2, rfl⟩
  go_wp2_with fail
  go_ret
  exact ⟨ret_bool HC.out.symm, (by repeat (first | with_reducible exact Gr.refl _ | with_reducible refine Gr.alloc ?_ _ | with_reducible refine Gr.gr ?_ _ _ | with_reducible refine Gr.drew ?_ | with_reducible refine Gr.drewN ?_ _))⟩

theorem lbIs_any (z : P3) (w : World) :
    Calls Tryd.prog 134 #[tkV z] w fun e w' => e = .returned (.bool (decide (lbIs z))) ∧ Gr w w' := by
  have HC := Lib.hid (show ∀ b : Bool, (b = true ↔ lbIs z) → b = decide (lbIs z) from fun b h => by
    cases b
    · exact (decide_eq_false (fun k => by have := h.2 k; cases this)).symm
    · exact (decide_eq_true (h.1 rfl)).symm)
  obtain ⟨a, b, c⟩ := z
  have H1 := Lib.hid (in_any a 1000 9999)
  have H2 := Lib.hid (in_any b 0 100000)
  have H3 := Lib.hid (in_any c 0 4)
  by_cases h1 : 1000 ≤ a ∧ a ≤ 9999
  rotate_left
  · have HQ := Lib.hid (HC.out false ⟨fun h => (by cases h), fun h => absurd h.1 h1⟩)
    rw [decide_eq_false h1] at H1
    clear HC h1
    go_enter Tryd.func134, Tryd.ntmps134
    go_wp2_with (go_at_call 79; with_reducible refine (H1.out _).mono ?_; rintro e w' ⟨rfl, rfl⟩)
    go_ret
    exact ⟨ret_bool HQ.out, (by repeat (first | with_reducible exact Gr.refl _ | with_reducible refine Gr.alloc ?_ _ | with_reducible refine Gr.gr ?_ _ _ | with_reducible refine Gr.drew ?_ | with_reducible refine Gr.drewN ?_ _))⟩
  rw [decide_eq_true h1] at H1
  by_cases h2 : 0 ≤ b ∧ b ≤ 100000
  rotate_left
  · have HQ := Lib.hid (HC.out false ⟨fun h => (by cases h), fun h => absurd h.2.1 h2⟩)
    rw [decide_eq_false h2] at H2
    clear HC h1 h2
    go_enter Tryd.func134, Tryd.ntmps134
    go_wp2_with (first | (go_at_call 79; with_reducible refine (H1.out _).mono ?_; rintro e w' ⟨rfl, rfl⟩) | (go_at_call 79; with_reducible refine (H2.out _).mono ?_; rintro e w' ⟨rfl, rfl⟩))
    go_ret
    exact ⟨ret_bool HQ.out, (by repeat (first | with_reducible exact Gr.refl _ | with_reducible refine Gr.alloc ?_ _ | with_reducible refine Gr.gr ?_ _ _ | with_reducible refine Gr.drew ?_ | with_reducible refine Gr.drewN ?_ _))⟩
  rw [decide_eq_true h2] at H2
  by_cases h3 : 0 ≤ c ∧ c ≤ 4
  rotate_left
  · have HQ := Lib.hid (HC.out false ⟨fun h => (by cases h), fun h => absurd h.2.2 h3⟩)
    rw [decide_eq_false h3] at H3
    clear HC h1 h2 h3
    go_enter Tryd.func134, Tryd.ntmps134
    go_wp2_with (first | (go_at_call 79; with_reducible refine (H1.out _).mono ?_; rintro e w' ⟨rfl, rfl⟩) | (go_at_call 79; with_reducible refine (H2.out _).mono ?_; rintro e w' ⟨rfl, rfl⟩) | (go_at_call 79; with_reducible refine (H3.out _).mono ?_; rintro e w' ⟨rfl, rfl⟩))
    go_ret
    exact ⟨ret_bool HQ.out, (by repeat (first | with_reducible exact Gr.refl _ | with_reducible refine Gr.alloc ?_ _ | with_reducible refine Gr.gr ?_ _ _ | with_reducible refine Gr.drew ?_ | with_reducible refine Gr.drewN ?_ _))⟩
  have HQ := Lib.hid (HC.out true ⟨fun _ => ⟨h1, h2, h3⟩, fun _ => rfl⟩)
  rw [decide_eq_true h3] at H3
  clear HC h1 h2 h3
  go_enter Tryd.func134, Tryd.ntmps134
  go_wp2_with (first | (go_at_call 79; with_reducible refine (H1.out _).mono ?_; rintro e w' ⟨rfl, rfl⟩) | (go_at_call 79; with_reducible refine (H2.out _).mono ?_; rintro e w' ⟨rfl, rfl⟩) | (go_at_call 79; with_reducible refine (H3.out _).mono ?_; rintro e w' ⟨rfl, rfl⟩))
  go_ret
  exact ⟨ret_bool HQ.out, (by repeat (first | with_reducible exact Gr.refl _ | with_reducible refine Gr.alloc ?_ _ | with_reducible refine Gr.gr ?_ _ _ | with_reducible refine Gr.drew ?_ | with_reducible refine Gr.drewN ?_ _))⟩

theorem lbcode_spec (A : Option Addr) (n c : Nat) (zs : List P3) (w : World) (hn : zs.length = n) (hN : n ≤ 16777216) (hA : Reads w w.heap.size A (cells3 zs)) :
    Calls Tryd.prog 118 #[.slice A n c] w fun e w' => e = .returned (.int .i64 (lbE zs)) ∧ Gr w w' := by
  have HL := Lib.hid hn
  have HA := Lib.hid hA
  clear hA
  by_cases hb : 40 < n
  · have HE := Lib.hid (show lbE zs = 3 by unfold lbE; rw [if_pos (by omega)])
    clear hn
    go_enter Tryd.func118, Tryd.ntmps118
    go_wp2
    go_ret
    exact ⟨ret_int HE.out.symm, Gr.refl _⟩
  have HE := Lib.hid (show lbE zs = if allL zs = true then 0 else 2 by unfold lbE; rw [if_neg (by omega)])
  clear hn
  go_enter Tryd.func118, Tryd.ntmps118
  go_wp2
  go_loopw [3] (fun i wr => ∃ k : Nat, k ≤ n ∧ i = .int .i64 k ∧ Hid (allL (zs.take k) = true) ∧ Gr w wr) (fun i _ => n - (intOf i).toNat)
  case atStart => exact ⟨0, by omega, rfl, Lib.hid (by simp [allL]), Gr.refl _⟩
  case round =>
    obtain ⟨k, hk, rfl, ha, hG⟩ := hrel
    by_cases hlt : k < n
    · obtain ⟨z, hz⟩ := some_at (l := zs) (k := k) (by rw [HL.out]; exact hlt)
      obtain ⟨g, o, rfl, hg, x0, x1, x2⟩ := (HA.out.gr hG).at3 hz
      have HZ := Lib.hid hz
      have HI := fun w => lbIs_any z w
      have HIB := Lib.hid (fun h : lbIs z => allL_take HZ.out ha.out h)
      have HIN := Lib.hid (fun h : ¬ lbIs z => allL_bad HZ.out h)
      clear hz
      obtain ⟨za, zb, zc⟩ := z
      simp only [tkV] at HI
      replace HI := Lib.hid HI
      simp only at x0 x1 x2
      by_cases hv : lbIs (za, zb, zc)
      · have HQ := Lib.hid (HIB.out hv)
        rw [decide_eq_true hv] at HI
        clear hv HIB HIN
        go_wp2_with (go_at_call 134; with_reducible refine (HI.out _).mono ?_; rintro e w' ⟨rfl, hg2⟩)
        go_roundw
        case rel => exact ⟨k + 1, by omega, by go_num, HQ, hG.trans hg2⟩
        case measure => simp [intOf]; omega
      · have HQ := Lib.hid (show lbE zs = 2 by rw [HE.out, if_neg (by rw [HIN.out hv]; simp)])
        rw [decide_eq_false hv] at HI
        clear hv HIB HIN
        go_wp2_with (go_at_call 134; with_reducible refine (HI.out _).mono ?_; rintro e w' ⟨rfl, hg2⟩)
        go_ret
        exact ⟨ret_int HQ.out.symm, hG.trans hg2⟩
    · obtain rfl : k = n := by omega
      have HF := Lib.hid (show zs.take k = zs from List.take_of_length_le (by rw [HL.out]; omega))
      have HQ := Lib.hid (show lbE zs = 0 by rw [HE.out, if_pos (by rw [← HF.out]; exact ha.out)])
      go_wp2
      go_ret
      exact ⟨ret_int HQ.out.symm, hG⟩

theorem lbcode_impl (A : Option Addr) (n c : Nat) (zs : List P3) (w : World) (hn : zs.length = n) (hN : n ≤ 16777216) (hA : Reads w w.heap.size A (cells3 zs)) :
    Calls Tryd.prog 113 #[.slice A n c] w fun e w' => e = .returned (.int .i64 (lbE zs)) ∧ Gr w w' := by
  have HL := Lib.hid hn
  have HA := Lib.hid hA
  have HH := Lib.hid (haveHeights_any A n c zs w hn hN hA)
  clear hA
  by_cases hb : 40 < n
  · have HE := Lib.hid (show lbE zs = 3 by unfold lbE; rw [if_pos (by omega)])
    clear hn
    go_enter Tryd.func113, Tryd.ntmps113
    go_wp2
    go_ret
    exact ⟨ret_int HE.out.symm, Gr.refl _⟩
  have HE := Lib.hid (show lbE zs = if allL zs = true then 0 else 2 by unfold lbE; rw [if_neg (by omega)])
  cases hh : allH zs
  · have HQ := Lib.hid (show lbE zs = 2 by rw [HE.out, if_neg (fun h => by rw [allL_allH h] at hh; cases hh)])
    rw [hh] at HH
    clear hn hh
    go_enter Tryd.func113, Tryd.ntmps113
    go_wp2_with (go_at_call 159; with_reducible refine (HH.out).mono ?_; rintro e w' ⟨rfl, hg2⟩)
    go_ret
    exact ⟨ret_int HQ.out.symm, hg2⟩
  rw [hh] at HH
  have HHA := Lib.hid (fun (k : Nat) (z : P3) (h : zs[k]? = some z) => allH_at h hh)
  clear hn hh
  go_enter Tryd.func113, Tryd.ntmps113
  go_wp2_with (go_at_call 159; with_reducible refine (HH.out).mono ?_; rintro e w' ⟨rfl, hg2⟩)
  go_loopw [13] (fun i wr => ∃ k : Nat, k ≤ n ∧ i = .int .i64 k ∧ Hid (allL (zs.take k) = true) ∧ Gr w wr) (fun i _ => n - (intOf i).toNat)
  case atStart => exact ⟨0, by omega, rfl, Lib.hid (by simp [allL]), hg2⟩
  case round =>
    obtain ⟨k, hk, rfl, ha, hG⟩ := hrel
    by_cases hlt : k < n
    · obtain ⟨z, hz⟩ := some_at (l := zs) (k := k) (by rw [HL.out]; exact hlt)
      obtain ⟨g, o, rfl, hg, x0, x1, x2⟩ := (HA.out.gr hG).at3 hz
      have HZ := Lib.hid hz
      have hzc := HHA.out k z hz
      have HIB := Lib.hid (fun h : lbIs z => allL_take HZ.out ha.out h)
      have HIN := Lib.hid (fun h : ¬ lbIs z => show lbE zs = 2 by rw [HE.out, if_neg (by rw [allL_bad HZ.out h]; simp)])
      clear hz
      obtain ⟨za, zb, zc⟩ := z
      have HD := Lib.hid (areDigits_any za)
      simp only at x0 x1 x2 hzc
      by_cases h1 : 1000 ≤ za ∧ za ≤ 9999
      rotate_left
      · have HQ := Lib.hid (HIN.out (fun h => h1 h.1))
        rw [decide_eq_false h1] at HD
        clear h1 HIB HIN
        go_wp2_with (go_at_call 110; with_reducible refine (HD.out _).mono ?_; rintro e w' ⟨rfl, rfl⟩)
        go_ret
        exact ⟨ret_int HQ.out.symm, hG.trans (by repeat (first | with_reducible exact Gr.refl _ | with_reducible refine Gr.alloc ?_ _ | with_reducible refine Gr.gr ?_ _ _ | with_reducible refine Gr.drew ?_ | with_reducible refine Gr.drewN ?_ _))⟩
      rw [decide_eq_true h1] at HD
      by_cases h2 : 0 ≤ zb
      rotate_left
      · have HQ := Lib.hid (HIN.out (fun h => h2 h.2.1.1))
        clear h1 HIB HIN
        go_wp2_with (go_at_call 110; with_reducible refine (HD.out _).mono ?_; rintro e w' ⟨rfl, rfl⟩)
        go_ret
        exact ⟨ret_int HQ.out.symm, hG.trans (by repeat (first | with_reducible exact Gr.refl _ | with_reducible refine Gr.alloc ?_ _ | with_reducible refine Gr.gr ?_ _ _ | with_reducible refine Gr.drew ?_ | with_reducible refine Gr.drewN ?_ _))⟩
      by_cases h3 : zb ≤ 100000
      rotate_left
      · have HQ := Lib.hid (HIN.out (fun h => h3 h.2.1.2))
        clear h1 HIB HIN
        go_wp2_with (go_at_call 110; with_reducible refine (HD.out _).mono ?_; rintro e w' ⟨rfl, rfl⟩)
        go_ret
        exact ⟨ret_int HQ.out.symm, hG.trans (by repeat (first | with_reducible exact Gr.refl _ | with_reducible refine Gr.alloc ?_ _ | with_reducible refine Gr.gr ?_ _ _ | with_reducible refine Gr.drew ?_ | with_reducible refine Gr.drewN ?_ _))⟩
      have HQ := Lib.hid (HIB.out ⟨h1, ⟨h2, h3⟩, hzc⟩)
      clear h1 HIB HIN
      go_wp2_with (go_at_call 110; with_reducible refine (HD.out _).mono ?_; rintro e w' ⟨rfl, rfl⟩)
      go_roundw
      case rel => exact ⟨k + 1, by omega, by go_num, HQ, hG.trans (by repeat (first | with_reducible exact Gr.refl _ | with_reducible refine Gr.alloc ?_ _ | with_reducible refine Gr.gr ?_ _ _ | with_reducible refine Gr.drew ?_ | with_reducible refine Gr.drewN ?_ _))⟩
      case measure => simp [intOf]; omega
    · obtain rfl : k = n := by omega
      have HF := Lib.hid (show zs.take k = zs from List.take_of_length_le (by rw [HL.out]; omega))
      have HQ := Lib.hid (show lbE zs = 0 by rw [HE.out, if_pos (by rw [← HF.out]; exact ha.out)])
      go_wp2
      go_ret
      exact ⟨ret_int HQ.out.symm, hG⟩

/-- The worth of a label. -/
theorem worth_spec (z : P3) (w : World) (hz : 0 ≤ z.2.2 ∧ z.2.2 ≤ 4) :
    Calls Tryd.prog 130 #[tkV z] w fun e w' => e = .returned (.int .i64 (1 + 10 * z.2.2)) ∧ Gr w w' := by
  obtain ⟨a, b, c⟩ := z
  simp only at hz
  go_enter Tryd.func130, Tryd.ntmps130
  go_wp2
  go_ret
  exact ⟨rfl, (by repeat (first | with_reducible exact Gr.refl _ | with_reducible refine Gr.alloc ?_ _ | with_reducible refine Gr.gr ?_ _ _ | with_reducible refine Gr.drew ?_ | with_reducible refine Gr.drewN ?_ _))⟩
theorem worth_impl (A : Option Addr) (n c : Nat) (zs : List P3) (i : Nat) (w : World) (hn : zs.length = n) (hN : n ≤ 16777216) (hA : Reads w w.heap.size A (cells3 zs)) (hi : i < n) (ha : allL zs = true) :
    Calls Tryd.prog 128 #[.slice A n c, .int .i64 i] w fun e w' => e = .returned (.int .i64 (woN zs i)) ∧ w = w' := by
  obtain ⟨g, o, rfl, hg, x0, x1, x2⟩ := hA.at3 (tkN_at (zs := zs) (k := i) (by rw [hn]; exact hi))
  have hz := (tkN_is ha (k := i) (by rw [hn]; exact hi)).2.2
  have HW := Lib.hid (show woN zs i = 1 + 10 * (tkN zs i).2.2 from rfl)
  generalize (tkN zs i).2.2 = x at *
  have hi2 : (i : Int) < n := by omega
  clear hA hn
  go_enter Tryd.func128, Tryd.ntmps128
  go_wp2
  go_ret
  exact ⟨ret_int HW.out.symm, rfl⟩
end Go.Proofs.YtggflladheemoaaDoor
