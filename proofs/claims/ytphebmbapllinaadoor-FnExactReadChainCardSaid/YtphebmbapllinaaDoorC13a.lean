/- Contracts of chapter 13: valid chains, logarithms and spans of chains. -/
import Derived.Test.YtphebmbapllinaaDoorCT
import Derived.Test.YtphebmbapllinaaDoorMG
import Derived.Test.YtphebmbapllinaaDoor2A
import Derived.Test.YtphebmbapllinaaDoor3A
import Derived.Test.YtphebmbapllinaaDoorC04d
import Derived.Test.YtphebmbapllinaaDoorLw
namespace Go.Proofs.YtphebmbapllinaaDoor
open Go.RowKit
set_option linter.unusedVariables false
set_option linter.unusedSimpArgs false

theorem fg_tf (d t : Int) : fg d t = true ∨ fg d t = false := by cases fg d t <;> simp
theorem isChain_spec (A : Option Addr) (n c : Nat) (cs : List Tm) (w : World) (hn : cs.length = n) (hN : n ≤ 16777216) (hA : Reads w w.heap.size A (tcells cs)) :
    Calls Tryd.prog 24 #[.slice A n c] w fun e w' => e = .returned (.bool (chnB cs)) ∧ Gr w w' := by
  have HL := Lib.hid hn
  have HM := Lib.hid hA
  clear hn hA
  go_enter Tryd.func24, Tryd.ntmps24
  go_wp2
  go_loopw [3] (fun i wr => ∃ k : Nat, k ≤ n ∧ i = .int .i64 k ∧ Hid ((cs.take k).all tmF = true) ∧ Gr w wr) (fun i _ => n - (intOf i).toNat)
  case atStart => exact ⟨0, by omega, rfl, Lib.hid (by simp), Gr.refl _⟩
  case round =>
    obtain ⟨k, hk, rfl, HO, hG⟩ := hrel
    by_cases hlt : k < n
    · obtain ⟨m, hm⟩ := some_at (l := cs) (k := k) (by rw [HL.out]; exact hlt)
      obtain ⟨g, o, rfl, hg, x0, x1, x2⟩ := (HM.out.gr hG).att hm
      have H := Lib.hid hm
      obtain ⟨d, t, b⟩ := m
      simp only at x0 x1 x2
      clear hm
      have HI := Lib.hid (fun W => isFigure_spec d t W)
      rcases fg_tf d t with hb | hb
      · have HR := Lib.hid (all_snoc H.out HO.out hb)
        rw [hb] at HI
        clear hb
        go_wp2_with (go_at_call 38; (with_reducible refine (HI.out _).mono ?_); rintro e w2 ⟨rfl, kk, os, rfl⟩)
        go_roundw
        case rel => exact ⟨k + 1, by omega, by go_num, HR, hG.trans (by repeat (first | with_reducible exact Gr.refl _ | with_reducible refine Gr.alloc ?_ _ | with_reducible refine Gr.gr ?_ _ _ | with_reducible refine Gr.drew ?_ | with_reducible refine Gr.drewN ?_ _))⟩
        case measure => simp [intOf]; omega
      · have HR := Lib.hid (chnB_bad H.out hb)
        rw [hb] at HI
        clear hb
        go_wp2_with (go_at_call 38; (with_reducible refine (HI.out _).mono ?_); rintro e w2 ⟨rfl, kk, os, rfl⟩)
        go_ret
        exact ⟨ret_bool HR.out.symm, hG.trans (by repeat (first | with_reducible exact Gr.refl _ | with_reducible refine Gr.alloc ?_ _ | with_reducible refine Gr.gr ?_ _ _ | with_reducible refine Gr.drew ?_ | with_reducible refine Gr.drewN ?_ _))⟩
    · obtain rfl : k = n := by omega
      have HA := Lib.hid (show cs.all tmF = true by have := HO.out; rwa [List.take_of_length_le (by rw [HL.out]; omega)] at this)
      by_cases hl : 1 ≤ k ∧ k ≤ 6
      · obtain ⟨m, hm⟩ := some_at (l := cs) (k := 0) (by rw [HL.out]; omega)
        obtain ⟨g, o, rfl, hg, x0, x1, x2⟩ := (HM.out.gr hG).att hm
        obtain ⟨d, t, b⟩ := m
        simp only at x0 x1 x2
        have HR := Lib.hid (show chnB cs = !b by
          have h0 : tm0 cs = b := by
            cases cs with
            | nil => cases hm
            | cons x r => simp at hm; subst hm; rfl
          unfold chnB
          rw [h0, HA.out, decide_eq_true (by rw [HL.out]; exact hl)]
          simp)
        have hd : decide ((1 : Int) ≤ (k : Int) ∧ (k : Int) ≤ 6) = true := decide_eq_true (by omega)
        have hkp : 0 < k := by omega
        have HI := Lib.hid (fun W => in_any (k : Int) 1 6 W)
        rw [hd] at HI
        clear hm hl hd
        cases b
        all_goals
          go_wp2_with (go_at_call 39; (with_reducible refine (HI.out _).mono ?_); rintro e w2 ⟨rfl, rfl⟩)
          go_ret
          exact ⟨ret_bool HR.out.symm, hG.trans (by repeat (first | with_reducible exact Gr.refl _ | with_reducible refine Gr.alloc ?_ _ | with_reducible refine Gr.gr ?_ _ _ | with_reducible refine Gr.drew ?_ | with_reducible refine Gr.drewN ?_ _))⟩
      · have HR := Lib.hid (chnB_len (cs := cs) (by rw [HL.out]; exact hl))
        have hd : decide ((1 : Int) ≤ (k : Int) ∧ (k : Int) ≤ 6) = false := decide_eq_false (by omega)
        have HI := Lib.hid (fun W => in_any (k : Int) 1 6 W)
        rw [hd] at HI
        clear hl hd
        go_wp2_with (go_at_call 39; (with_reducible refine (HI.out _).mono ?_); rintro e w2 ⟨rfl, rfl⟩)
        go_ret
        exact ⟨ret_bool HR.out.symm, hG.trans (by repeat (first | with_reducible exact Gr.refl _ | with_reducible refine Gr.alloc ?_ _ | with_reducible refine Gr.gr ?_ _ _ | with_reducible refine Gr.drew ?_ | with_reducible refine Gr.drewN ?_ _))⟩
theorem isChain_impl (A : Option Addr) (n c : Nat) (cs : List Tm) (w : World) (hn : cs.length = n) (hN : n ≤ 16777216) (hA : Reads w w.heap.size A (tcells cs)) :
    Calls Tryd.prog 21 #[.slice A n c] w fun e w' => e = .returned (.bool (chnB cs)) ∧ Gr w w' := by
  have HL := Lib.hid hn
  have HM := Lib.hid hA
  clear hA
  by_cases hl : 1 ≤ n ∧ n ≤ 6
  rotate_left
  · have HR := Lib.hid (chnB_len (cs := cs) (by rw [HL.out]; exact hl))
    clear hn
    by_cases h1 : n < 1
    · obtain rfl : n = 0 := by omega
      clear hl h1
      go_enter Tryd.func21, Tryd.ntmps21
      go_wp2
      go_ret
      exact ⟨ret_bool HR.out.symm, (by repeat (first | with_reducible exact Gr.refl _ | with_reducible refine Gr.alloc ?_ _ | with_reducible refine Gr.gr ?_ _ _ | with_reducible refine Gr.drew ?_ | with_reducible refine Gr.drewN ?_ _))⟩
    · have h6 : 6 < n := by omega
      clear hl
      go_enter Tryd.func21, Tryd.ntmps21
      go_wp2
      go_ret
      exact ⟨ret_bool HR.out.symm, (by repeat (first | with_reducible exact Gr.refl _ | with_reducible refine Gr.alloc ?_ _ | with_reducible refine Gr.gr ?_ _ _ | with_reducible refine Gr.drew ?_ | with_reducible refine Gr.drewN ?_ _))⟩
  obtain ⟨l1, l6⟩ := hl
  obtain ⟨m, hm⟩ := some_at (l := cs) (k := 0) (by rw [HL.out]; omega)
  obtain ⟨g, o, rfl, hg, x0, x1, x2⟩ := HM.out.att hm
  obtain ⟨d, t, b⟩ := m
  simp only at x0 x1 x2
  have h0 : tm0 cs = b := by
    cases cs with
    | nil => cases hm
    | cons x r => simp at hm; subst hm; rfl
  clear hn
  cases b
  rotate_left
  · have HR := Lib.hid (chnB_div h0)
    clear h0 hm
    go_enter Tryd.func21, Tryd.ntmps21
    go_wp2
    go_ret
    exact ⟨ret_bool HR.out.symm, (by repeat (first | with_reducible exact Gr.refl _ | with_reducible refine Gr.alloc ?_ _ | with_reducible refine Gr.gr ?_ _ _ | with_reducible refine Gr.drew ?_ | with_reducible refine Gr.drewN ?_ _))⟩
  have H0 := Lib.hid h0
  clear h0 hm
  go_enter Tryd.func21, Tryd.ntmps21
  go_wp2
  clear x0 x1 x2
  go_loopw [21] (fun i wr => ∃ k : Nat, k ≤ n ∧ i = .int .i64 k ∧ Hid ((cs.take k).all tmF = true) ∧ Gr w wr) (fun i _ => n - (intOf i).toNat)
  case atStart => exact ⟨0, by omega, rfl, Lib.hid (by simp), Gr.refl _⟩
  case round =>
    obtain ⟨k, hk, rfl, HO, hG⟩ := hrel
    by_cases hlt : k < n
    · obtain ⟨m, hm⟩ := some_at (l := cs) (k := k) (by rw [HL.out]; exact hlt)
      obtain ⟨g', o', e', hg', x0, x1, x2⟩ := (HM.out.gr hG).att hm
      injection e' with e'
      injection e' with ea eb
      subst ea eb
      have H := Lib.hid hm
      obtain ⟨d, t, b⟩ := m
      simp only at x0 x1 x2
      clear hm
      have HI := Lib.hid (fun W => isFigure_impl d t W)
      rcases fg_tf d t with hb | hb
      · have HR := Lib.hid (all_snoc H.out HO.out hb)
        rw [hb] at HI
        clear hb
        go_wp2_with (go_at_call 35; (with_reducible refine (HI.out _).mono ?_); rintro e w2 ⟨rfl, kk, os, rfl⟩)
        go_roundw
        case rel => exact ⟨k + 1, by omega, by go_num, HR, hG.trans (by repeat (first | with_reducible exact Gr.refl _ | with_reducible refine Gr.alloc ?_ _ | with_reducible refine Gr.gr ?_ _ _ | with_reducible refine Gr.drew ?_ | with_reducible refine Gr.drewN ?_ _))⟩
        case measure => simp [intOf]; omega
      · have HR := Lib.hid (chnB_bad H.out hb)
        rw [hb] at HI
        clear hb
        go_wp2_with (go_at_call 35; (with_reducible refine (HI.out _).mono ?_); rintro e w2 ⟨rfl, kk, os, rfl⟩)
        go_ret
        exact ⟨ret_bool HR.out.symm, hG.trans (by repeat (first | with_reducible exact Gr.refl _ | with_reducible refine Gr.alloc ?_ _ | with_reducible refine Gr.gr ?_ _ _ | with_reducible refine Gr.drew ?_ | with_reducible refine Gr.drewN ?_ _))⟩
    · obtain rfl : k = n := by omega
      have HR := Lib.hid (show chnB cs = true by
        rw [chnB_iff, H0.out, HL.out]
        exact ⟨⟨l1, l6⟩, rfl, by have := HO.out; rwa [List.take_of_length_le (by rw [HL.out]; omega)] at this⟩)
      go_wp2
      go_ret
      exact ⟨ret_bool HR.out.symm, hG⟩

end Go.Proofs.YtphebmbapllinaaDoor
