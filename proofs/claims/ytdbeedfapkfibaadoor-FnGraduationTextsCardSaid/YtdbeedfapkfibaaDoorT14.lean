/- Texts of graduations, in the model. -/
import Derived.Test.YtdbeedfapkfibaaDoorT13
import Derived.Test.YtdbeedfapkfibaaDoor7A
import Derived.Deep.RegionLaw
namespace Go.Proofs.YtdbeedfapkfibaaDoor
open Go.RowKit
set_option linter.unusedVariables false
set_option linter.unusedSimpArgs false

theorem gd_small {zs : List P3} (h : gd zs = true) : ∀ p ∈ zs, Small3 p := by
  intro p hp
  obtain ⟨a, ho, ha⟩ := gd_parts h p hp
  obtain ⟨e1, e2⟩ := prN_is ho
  obtain ⟨p1, p2, p3, p4, -⟩ := (ptOk_iff _ _).1 ho
  have hm := Int.mul_le_mul_of_nonneg_left (show (1 : Int) ≤ (prN p : Int) by omega) (show 0 ≤ p.2.2 by omega)
  rw [Int.mul_one] at hm
  exact ⟨(vl_iff _).2 (by omega), (vl_iff _).2 (by omega), (vl_iff _).2 (by omega)⟩
theorem gd_len {zs : List P3} (h : gd zs = true) : zs.length ≤ 12 := ((gd_iff zs).1 h).1.2
def gtS (zs : List P3) : ByteArray := if gd zs = true then gtB zs zs.length else ⟨#[]⟩

set_option maxRecDepth 100000 in
set_option maxHeartbeats 4000000 in
theorem l07Text_any (A : Option Addr) (n c : Nat) (zs : List P3) (w : World) (hn : zs.length = n) (hN : n ≤ 12) (hA : Reads w w.heap.size A (cells3 zs)) (hs : ∀ p ∈ zs, Small3 p) :
    Calls Tryd.prog 42 #[.slice A n c] w fun e w' => e = .returned (.string (gtB zs n)) ∧ Gr w w' := by
  have HL := Lib.hid hn
  have HA := Lib.hid hA
  have HS := Lib.hid hs
  have HSZ := Lib.hid (gtB_size zs hs)
  clear hA hs hn
  go_enter Tryd.func42, Tryd.ntmps42
  go_wp2
  go_loopw [3, 4] (fun o i wr => ∃ k : Nat, k ≤ n ∧ i = .int .i64 k ∧ o = .string (gtB zs k) ∧ Gr w wr) (fun _ i _ => n - (intOf i).toNat)
  case atStart => exact ⟨0, by omega, rfl, rfl, Gr.refl _⟩
  case round =>
    obtain ⟨k, hk, rfl, rfl, hG⟩ := hrel
    by_cases hlt : k < n
    · obtain ⟨z, hz⟩ := some_at (l := zs) (k := k) (by rw [HL.out]; exact hlt)
      have hsm := HS.out z (List.mem_of_getElem? hz)
      have HT := Lib.hid (gtB_succ zs k)
      rw [show zs.getD k (0, 0, 0) = z by rw [List.getD_eq_getElem?_getD, hz]; rfl] at HT
      have hsz := HSZ.out k (by rw [HL.out]; omega)
      have hpz := ptB_size z hsm
      obtain ⟨g, o, rfl, hg, x0, x1, x2⟩ := (HA.out.gr hG).at3 hz
      obtain ⟨za, zb, zc⟩ := z
      simp only at x0 x1 x2
      have HJ := Lib.hid (fun (g' : Nat) (W : World) (hR : Row W g' 2 [vi za, vi zb, vi zc]) => joinP_any g' za zb zc W hsm hR)
      generalize ptB (za, zb, zc) = y at *
      generalize gtB zs k = s at *
      have HG := Lib.hid hG
      clear hz hsm hG
      by_cases h0 : k = 0
      · rw [if_neg (by omega)] at HT
        have hd0 : decide (0 < k) = false := decide_eq_false (by omega)
        have hd1 : decide (0 < (k : Int)) = false := decide_eq_false (by omega)
        have l2 : ¬ (9223372036854775807 < s.size + y.size) := by omega
        have k2 : ¬ ((9223372036854775807 : Int) < (s.size : Int) + y.size) := by omega
        have HK0 := Lib.hid h0
        clear h0
        go_wp2
        go_region_law (go_simp; go_at_call 85; refine (HJ.out _ _ (Row.gr (Row.new wr 2 [vi za, vi zb, vi zc]) ((Gr.refl _).drew))).mono ?_; rintro e w' ⟨rfl, kk, os, rfl⟩)
        all_goals
          go_wp2
          go_roundw
          case rel => exact ⟨k + 1, by omega, by go_num, by rw [HT.out], HG.out.trans (by repeat (first | with_reducible exact Gr.refl _ | with_reducible refine Gr.alloc ?_ _ | with_reducible refine Gr.gr ?_ _ _ | with_reducible refine Gr.drew ?_ | with_reducible refine Gr.drewN ?_ _))⟩
          case measure => simp [intOf]; omega
      · rw [if_pos (by omega)] at HT
        have hd0 : decide (0 < k) = true := decide_eq_true (by omega)
        have hk0 : 0 < k := by omega
        have l1 : ¬ (9223372036854775807 < s.size + 1) := by omega
        have l2 : ¬ (9223372036854775807 < s.size + 1 + y.size) := by omega
        have k1 : ¬ ((9223372036854775807 : Int) < (s.size : Int) + 1) := by omega
        have k2 : ¬ ((9223372036854775807 : Int) < (s.size : Int) + 1 + y.size) := by omega
        go_wp2
        go_region_law (go_simp; go_at_call 85; refine (HJ.out _ _ (Row.gr (Row.new wr 2 [vi za, vi zb, vi zc]) ((Gr.refl _).drew))).mono ?_; rintro e w' ⟨rfl, kk, os, rfl⟩)
        all_goals
          go_wp2
          go_roundw
          case rel => exact ⟨k + 1, by omega, by go_num, by rw [HT.out], HG.out.trans (by repeat (first | with_reducible exact Gr.refl _ | with_reducible refine Gr.alloc ?_ _ | with_reducible refine Gr.gr ?_ _ _ | with_reducible refine Gr.drew ?_ | with_reducible refine Gr.drewN ?_ _))⟩
          case measure => simp [intOf]; omega
    · obtain rfl : k = n := by omega
      go_wp2
      go_ret
      exact ⟨rfl, hG⟩
theorem gt_spec (A : Option Addr) (n c : Nat) (zs : List P3) (w : World) (hn : zs.length = n) (hN : n ≤ 16777216) (hA : Reads w w.heap.size A (cells3 zs)) :
    Calls Tryd.prog 13 #[.slice A n c] w fun e w' => e = .returned (.tuple #[.string (gtS zs), .int .i64 (cmE zs)]) ∧ Gr w w' := by
  have HG := Lib.hid (gd_spec A n c zs w hn hN hA)
  rcases Bool.eq_false_or_eq_true (gd zs) with hv | hv
  · have HC := Lib.hid (show gtS zs = gtB zs n ∧ cmE zs = 0 by unfold gtS cmE; rw [hv, hn]; exact ⟨rfl, rfl⟩)
    have HT := Lib.hid (fun W (hg : Gr w W) => l07Text_any A n c zs W hn (by have := gd_len hv; omega) (hA.gr hg) (gd_small hv))
    rw [hv] at HG
    clear hv hA hn
    go_enter Tryd.func13, Tryd.ntmps13
    go_wp2_with (first | (go_at_call 41; refine (HG.out).mono ?_; rintro e w' ⟨rfl, kk, os, rfl⟩) | (go_at_call 42; refine (HT.out _ (by repeat (first | with_reducible exact Gr.refl _ | with_reducible refine Gr.alloc ?_ _ | with_reducible refine Gr.gr ?_ _ _ | with_reducible refine Gr.drew ?_ | with_reducible refine Gr.drewN ?_ _))).mono ?_; rintro e w' ⟨rfl, kk2, os2, rfl⟩))
    ((try simp only [Exit.inBlock, Exit.then]); refine bodyPost_ret (v := .tuple #[.string (gtB zs n), .int .i64 0]) (by simp [results, Tryd.results13, go_sem]) rfl ?_)
    exact ⟨ret_sc HC.out.1.symm HC.out.2.symm, (by repeat (first | with_reducible exact Gr.refl _ | with_reducible refine Gr.alloc ?_ _ | with_reducible refine Gr.gr ?_ _ _ | with_reducible refine Gr.drew ?_ | with_reducible refine Gr.drewN ?_ _))⟩
  · have HC := Lib.hid (show gtS zs = ⟨#[]⟩ ∧ cmE zs = 1 by unfold gtS cmE; rw [hv]; exact ⟨rfl, rfl⟩)
    rw [hv] at HG
    clear hv hA hn
    go_enter Tryd.func13, Tryd.ntmps13
    go_wp2_with (go_at_call 41; refine (HG.out).mono ?_; rintro e w' ⟨rfl, kk, os, rfl⟩)
    ((try simp only [Exit.inBlock, Exit.then]); refine bodyPost_ret (v := .tuple #[.string ⟨#[]⟩, .int .i64 1]) (by simp [results, Tryd.results13, go_sem]) rfl ?_)
    exact ⟨ret_sc HC.out.1.symm HC.out.2.symm, (by repeat (first | with_reducible exact Gr.refl _ | with_reducible refine Gr.alloc ?_ _ | with_reducible refine Gr.gr ?_ _ _ | with_reducible refine Gr.drew ?_ | with_reducible refine Gr.drewN ?_ _))⟩
end Go.Proofs.YtdbeedfapkfibaaDoor
