/- Contracts of chapter 9: whether a list is a choice, and what a choice is worth. -/
import Derived.Test.YtlimfpdibohioabDoorC09c
namespace Go.Proofs.YtlimfpdibohioabDoor
open Go.RowKit
set_option linter.unusedVariables false
set_option linter.unusedSimpArgs false

set_option maxRecDepth 100000 in
set_option maxHeartbeats 4000000 in
theorem choice_spec (A : Option Addr) (n c : Nat) (zs : List P3) (B : Option Addr) (m d : Nat) (cs : List Int) (w : World) (hn : zs.length = n) (hN : n ≤ 16777216) (hA : Reads w w.heap.size A (cells3 zs)) (ha : allL zs = true) (hm : cs.length = m) (hM : m ≤ 16777216) (hB : Reads w w.heap.size B (cs.map vi)) :
    Calls Tryd.prog 38 #[.slice A n c, .slice B m d] w fun e w' => e = .returned (.bool (chB zs cs)) ∧ Gr w w' := by
  have HR := Lib.hid (rises_any B m d cs n w hm hM hN hB)
  have HA := Lib.hid hA
  have HB := Lib.hid hB
  have HL := Lib.hid hn
  have HM := Lib.hid hm
  have HC := Lib.hid (fun (k : Nat) y z w (h1 : lbIs y) (h2 : lbIs z) => collide_spec y z w h1 h2)
  have HZ := Lib.hid (fun (k : Nat) (h : k < n) => tkN_is ha (k := k) (by rw [hn]; exact h))
  have HNC := Lib.hid (chB_no (zs := zs) (cs := cs))
  have HYC := Lib.hid (chB_yes (zs := zs) (cs := cs))
  have HP := Lib.hid (show chP zs cs = ((∀ k, k < cs.length → riP zs.length cs k) ∧ ∀ i k, i < cs.length → k < i → coN zs (cs.getD i 0).toNat (cs.getD k 0).toNat = false) from rfl)
  rw [hm, hn] at HP
  cases hr : riB n cs
  · have HQ := Lib.hid (HNC.out (fun h => by
      have h1 := riB_yes (n := n) (cs := cs) (by have := h.1; rwa [hn] at this)
      rw [hr] at h1
      cases h1))
    rw [hr] at HR
    clear hA hn hm hB ha hr HC HZ HYC HP
    go_enter Tryd.func38, Tryd.ntmps38
    go_wp2_with (go_at_call 59; refine (HR.out).mono ?_; rintro e w1 ⟨rfl, hg1⟩)
    go_ret
    exact ⟨ret_bool HQ.out.symm, hg1⟩
  have HRA := Lib.hid (fun k hk => riB_all hr k (by rw [hm]; exact hk))
  rw [hr] at HR
  clear hA hn hm hB ha hr
  go_enter Tryd.func38, Tryd.ntmps38
  go_wp2_with (go_at_call 59; refine (HR.out).mono ?_; rintro e w1 ⟨rfl, hg1⟩)
  go_loopw [5] (fun i wr => ∃ k : Nat, k ≤ m ∧ i = .int .i64 k ∧ Hid (∀ j l, j < k → l < j → coN zs (cs.getD j 0).toNat (cs.getD l 0).toNat = false) ∧ Gr w wr) (fun i _ => m - (intOf i).toNat)
  case atStart => exact ⟨0, by omega, rfl, Lib.hid (fun j l h => absurd h (by omega)), hg1⟩
  case round =>
    obtain ⟨k, hk, rfl, hI, hG⟩ := hrel
    by_cases hlt : k < m
    · go_wp2
      go_loopw [6] (fun l wr2 => ∃ q : Nat, q ≤ k ∧ l = .int .i64 q ∧ Hid (∀ l, l < q → coN zs (cs.getD k 0).toNat (cs.getD l 0).toNat = false) ∧ Gr w wr2) (fun l _ => k - (intOf l).toNat)
      case atStart => exact ⟨0, by omega, rfl, Lib.hid (fun l h => absurd h (by omega)), hG⟩
      case round =>
        obtain ⟨q, hq, rfl, hJ, hG2⟩ := hrel
        by_cases hlt2 : q < k
        · have h1 := cs_at (cs := cs) (k := k) (by rw [HM.out]; exact hlt)
          have h2 := cs_at (cs := cs) (k := q) (by rw [HM.out]; omega)
          obtain ⟨gb, ob, rfl, hgb, xk⟩ := (HB.out.gr hG2).at_ h1
          obtain ⟨gb2, ob2, eg, -, xq⟩ := (HB.out.gr hG2).at_ h2
          injection eg with eg
          injection eg with eg1 eg2
          subst eg1 eg2
          have r1 := (HRA.out k hlt).1
          have r2 := (HRA.out q (by omega)).1
          have HC1 := Lib.hid (fun (h : coN zs (cs.getD k 0).toNat (cs.getD q 0).toNat = true) => HNC.out (fun hp => by
            rw [HP.out] at hp
            have := hp.2 k q hlt hlt2
            rw [h] at this
            cases this))
          have HJ2 := Lib.hid (fun (h : coN zs (cs.getD k 0).toNat (cs.getD q 0).toNat = false) => show ∀ l, l < q + 1 → coN zs (cs.getD k 0).toNat (cs.getD l 0).toNat = false from fun l hl => by
            rcases Nat.lt_or_ge l q with h3 | h3
            · exact hJ.out l h3
            · rw [show l = q by omega]; exact h)
          obtain ⟨i, hi⟩ := Int.eq_ofNat_of_zero_le r1.1
          obtain ⟨j, hj⟩ := Int.eq_ofNat_of_zero_le r2.1
          have r1' := r1.2
          have r2' := r2.2
          have hE : coN zs (cs.getD k 0).toNat (cs.getD q 0).toNat = coT (tkN zs i) (tkN zs j) := by rw [hi, hj, Int.toNat_natCast, Int.toNat_natCast]; rfl
          rw [hi] at r1' xk
          rw [hj] at r2' xq
          replace HC1 := Lib.hid (fun h => HC1.out (hE.trans h))
          replace HJ2 := Lib.hid (fun h => HJ2.out (hE.trans h))
          have hin : i < n := by omega
          have hjn : j < n := by omega
          have HCC := fun W => HC.out 0 (tkN zs i) (tkN zs j) W (HZ.out i hin) (HZ.out j hjn)
          have hz1 := tkN_at (zs := zs) (k := i) (by rw [HL.out]; exact hin)
          have hz2 := tkN_at (zs := zs) (k := j) (by rw [HL.out]; exact hjn)
          obtain ⟨g, o, rfl, hg, x0, x1, x2⟩ := (HA.out.gr hG2).at3 hz1
          obtain ⟨g2, o2, eg2, -, y0, y1, y2⟩ := (HA.out.gr hG2).at3 hz2
          injection eg2 with eg2
          injection eg2 with eg3 eg4
          subst eg3 eg4
          generalize tkN zs i = z1 at *
          generalize tkN zs j = z2 at *
          obtain ⟨a1, b1, c1⟩ := z1
          obtain ⟨a2, b2, c2⟩ := z2
          simp only [tkV] at HCC
          simp only at x0 x1 x2 y0 y1 y2
          replace HCC := Lib.hid HCC
          generalize coT (a1, b1, c1) (a2, b2, c2) = cb at *
          have HG2 := Lib.hid hG2
          have hqm : (q : Int) < (m : Int) := by omega
          have hki : (i : Int) < (n : Int) := by omega
          have hkj : (j : Int) < (n : Int) := by omega
          clear h1 h2 r1 r2 hi hj hz1 hz2 hG2 hE
          go_wp2
          ((first | refine region_gr_on (by kernel_rfl) (by kernel_rfl) ?_ | refine region_gr (by kernel_rfl) (by kernel_rfl) ?_); (repeat (quiet_step (exact Calls.gr_of (HCC.out _)))); refine wpQuiet_nil ?_; intro _ hw'; obtain ⟨⟨kq, oq⟩, hw''⟩ := hw'; subst hw'')
          cases cb
          · have HQ := Lib.hid (HJ2.out rfl)
            go_wp2
            go_roundw
            case rel => exact ⟨q + 1, by omega, by go_num, HQ, HG2.out.trans (by repeat (first | with_reducible exact Gr.refl _ | with_reducible refine Gr.alloc ?_ _ | with_reducible refine Gr.gr ?_ _ _ | with_reducible refine Gr.drew ?_ | with_reducible refine Gr.drewN ?_ _))⟩
            case measure => simp [intOf]; omega
          · have HQ := Lib.hid (HC1.out rfl)
            go_wp2
            go_ret
            exact ⟨ret_bool HQ.out.symm, HG2.out.trans (by repeat (first | with_reducible exact Gr.refl _ | with_reducible refine Gr.alloc ?_ _ | with_reducible refine Gr.gr ?_ _ _ | with_reducible refine Gr.drew ?_ | with_reducible refine Gr.drewN ?_ _))⟩
        · obtain rfl : q = k := by omega
          have HI2 := Lib.hid (show ∀ j l, j < q + 1 → l < j → coN zs (cs.getD j 0).toNat (cs.getD l 0).toNat = false from fun j l hj hl => by
            rcases Nat.lt_or_ge j q with h3 | h3
            · exact hI.out j l h3 hl
            · obtain rfl : j = q := by omega
              exact hJ.out l hl)
          go_wp2
          go_roundw
          case rel => exact ⟨q + 1, by omega, by go_num, HI2, hG2⟩
          case measure => simp [intOf]; omega
    · obtain rfl : k = m := by omega
      have HQ := Lib.hid (HYC.out (by rw [HP.out]; exact ⟨HRA.out, hI.out⟩))
      go_wp2
      go_ret
      exact ⟨ret_bool HQ.out.symm, hG⟩
end Go.Proofs.YtlimfpdibohioabDoor
