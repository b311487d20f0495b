/- Plain mathematics, merged. -/
import Derived.Test.YtggflladheemoaaDoorC07d
import Derived.Test.YtggflladheemoaaDoorMC
import Derived.Test.YtggflladheemoaaDoorD1
import Derived.Sort.QuietTacIn
import Derived.OwnWalkIn
import Derived.WalkKit
import Derived.Test.YtggflladheemoaaDoorRows
import Derived.RangeFuncNested
import Derived.RangeFuncFrom
import Derived.RangeFuncBound
import Derived.RangeFuncCalls
import Derived.RangeFuncLeaves
import Derived.Shelf.Abstract
import Derived.Shelf.RegionOpen
import Derived.TacticsInMore
import Derived.LoopNIn
import Derived.LoopIn
import Derived.Test.YtggflladheemoaaDoorC07e
import Derived.Maps.AppendAt
import Derived.Test.YtggflladheemoaaDoorC05d
/- Contracts of chapter 7: the program's validity, its count of marks, its marks. -/
namespace Go.Proofs.YtggflladheemoaaDoor
open Go.RowKit
set_option linter.unusedVariables false
set_option linter.unusedSimpArgs false

theorem isDivided_any (a b c : Int) (w : World) (h0 : 0 ≤ a) (h1 : a < b) (h2 : b ≤ 9223372036854775807) :
    Calls Tryd.prog 85 #[.agg #[.int .i64 a, .int .i64 b, .int .i64 c]] w fun e w' => e = .returned (.bool (dvd7 (a, b, c))) ∧ Gr w w' := by
  have HD := Lib.hid (show dvd7 (a, b, c) = decide (1 ≤ c ∧ (b - a).tmod c = 0) from rfl)
  have hw1 : IntKind.i64.wrap (b - a) = b - a := IntWalk.i64_in _ (by omega)
  by_cases q1 : 1 ≤ c
  rotate_left
  · have g1 : decide (1 ≤ c) = false := decide_eq_false q1
    have HQ := Lib.hid (show dvd7 (a, b, c) = false by rw [HD.out]; exact decide_eq_false (fun q => q1 q.1))
    go_enter Tryd.func85, Tryd.ntmps85
    go_wp2
    ((try simp only [Exit.inBlock, Exit.then]); refine bodyPost_ret (v := .bool false) (by simp [results, Tryd.results85, go_sem]) rfl ?_)
    exact ⟨ret_bool HQ.out.symm, (by repeat (first | with_reducible exact Gr.refl _ | with_reducible refine Gr.alloc ?_ _ | with_reducible refine Gr.gr ?_ _ _ | with_reducible refine Gr.drew ?_ | with_reducible refine Gr.drewN ?_ _))⟩
  have g1 : decide (1 ≤ c) = true := decide_eq_true q1
  have hz0 : (c == 0) = false := by simp; omega
  have hb := Int.emod_lt_of_pos (b - a) (show 0 < c by omega)
  have hb0 := Int.emod_nonneg (b - a) (show c ≠ 0 by omega)
  have he : (b - a).tmod c = (b - a) % c := Int.tmod_eq_emod_of_nonneg (by omega)
  by_cases q3 : (b - a) % c = 0
  · have HQ := Lib.hid (show dvd7 (a, b, c) = true by rw [HD.out]; exact decide_eq_true ⟨q1, by rw [he]; exact q3⟩)
    go_enter Tryd.func85, Tryd.ntmps85
    go_wp2
    ((try simp only [Exit.inBlock, Exit.then]); refine bodyPost_ret (v := .bool true) (by simp [results, Tryd.results85, go_sem]) rfl ?_)
    exact ⟨ret_bool HQ.out.symm, (by repeat (first | with_reducible exact Gr.refl _ | with_reducible refine Gr.alloc ?_ _ | with_reducible refine Gr.gr ?_ _ _ | with_reducible refine Gr.drew ?_ | with_reducible refine Gr.drewN ?_ _))⟩
  · have HQ := Lib.hid (show dvd7 (a, b, c) = false by rw [HD.out]; exact decide_eq_false (fun q => q3 (by rw [← he]; exact q.2)))
    have q5 : ((b - a) % c == 0) = false := by simpa using q3
    go_enter Tryd.func85, Tryd.ntmps85
    go_wp2
    ((try simp only [Exit.inBlock, Exit.then]); refine bodyPost_ret (v := .bool false) (by simp [results, Tryd.results85, go_sem]) rfl ?_)
    exact ⟨ret_bool HQ.out.symm, (by repeat (first | with_reducible exact Gr.refl _ | with_reducible refine Gr.alloc ?_ _ | with_reducible refine Gr.gr ?_ _ _ | with_reducible refine Gr.drew ?_ | with_reducible refine Gr.drewN ?_ _))⟩
/-- Every number of every part is an int64. -/
abbrev Wf3 (zs : List P3) : Prop := ∀ z ∈ zs, (Lit.int .i64 z.1).wf = true ∧ (Lit.int .i64 z.2.1).wf = true ∧ (Lit.int .i64 z.2.2).wf = true

set_option maxHeartbeats 4000000 in
/-- The program's validity. -/
theorem gd_impl (A : Option Addr) (n c : Nat) (zs : List P3) (w : World) (hn : zs.length = n) (hN : n ≤ 16777216) (hA : Reads w w.heap.size A (cells3 zs)) (hW : Wf3 zs) :
    Calls Tryd.prog 22 #[.slice A n c] w fun e w' => e = .returned (.bool (gd zs)) ∧ Gr w w' := by
  have HL := Lib.hid hn
  have HA := Lib.hid hA
  have HWF := Lib.hid hW
  clear hA hW
  by_cases hc : n ≤ 12
  · have HGd := Lib.hid (show gd zs = decide (gdJ 1000 zs = some 10000) by rw [gd_J, hn, decide_eq_true hc, Bool.true_and])
    clear hn
    go_enter Tryd.func22, Tryd.ntmps22
    go_wp2
    go_loopw [3, 11] (fun a i wr => ∃ (k : Nat) (b : Int), k ≤ n ∧ i = .int .i64 k ∧ a = .int .i64 b ∧ 1000 ≤ b ∧ b ≤ 9223372036854775807 ∧ Hid (gdJ 1000 (zs.take k) = some b) ∧ Gr w wr) (fun _ i _ => n - (intOf i).toNat)
    case atStart => exact ⟨0, 1000, by omega, rfl, rfl, by omega, by omega, Lib.hid (by simp [gdJ]), Gr.refl _⟩
    case round =>
      obtain ⟨k, b, hk, rfl, rfl, b1, b2, hE, hG⟩ := hrel
      by_cases hlt : k < n
      · obtain ⟨z, hz⟩ := some_at (l := zs) (k := k) (by rw [HL.out]; exact hlt)
        obtain ⟨g, o, rfl, hg, x0, x1, x2⟩ := (HA.out.gr hG).at3 hz
        obtain ⟨-, q0⟩ := i64_bd (HWF.out z (List.mem_of_getElem? hz)).2.1
        have HT := Lib.hid (gdJ_take hz hE.out)
        have HP := Lib.hid (ptJ_iff b z)
        obtain ⟨za, zb, zc⟩ := z
        simp only at x0 x1 x2 HT HP q0
        clear hz
        have hno : ptJ b (za, zb, zc) = false → gd zs = false := fun ho => by rw [HGd.out, HT.out.2 ho]; rfl
        have HNO := Lib.hid hno
        clear hno
        by_cases q1 : za = b
        rotate_left
        · have HQ := Lib.hid (HNO.out (by cases hp : ptJ b (za, zb, zc); rfl; exact absurd (HP.out.1 hp).1 q1))
          go_wp2
          go_ret
          exact ⟨ret_bool HQ.out.symm, hG.trans (by repeat (first | with_reducible exact Gr.refl _ | with_reducible refine Gr.alloc ?_ _ | with_reducible refine Gr.gr ?_ _ _ | with_reducible refine Gr.drew ?_ | with_reducible refine Gr.drewN ?_ _))⟩
        subst q1
        by_cases q2 : za < zb
        rotate_left
        · have HQ := Lib.hid (HNO.out (by cases hp : ptJ za (za, zb, zc); rfl; exact absurd (HP.out.1 hp).2.1 q2))
          go_wp2
          go_ret
          exact ⟨ret_bool HQ.out.symm, hG.trans (by repeat (first | with_reducible exact Gr.refl _ | with_reducible refine Gr.alloc ?_ _ | with_reducible refine Gr.gr ?_ _ _ | with_reducible refine Gr.drew ?_ | with_reducible refine Gr.drewN ?_ _))⟩
        have HDV := Lib.hid (fun W => isDivided_any za zb zc W (by omega) q2 q0)
        rcases Bool.eq_false_or_eq_true (dvd7 (za, zb, zc)) with q3 | q3
        · have HQ := Lib.hid (HT.out.1 (HP.out.2 ⟨rfl, q2, q3⟩))
          rw [q3] at HDV
          clear q3
          go_wp2_with (go_at_call 85; refine (HDV.out _).mono ?_; rintro e w' ⟨rfl, kk, os, rfl⟩)
          go_roundw
          case rel => exact ⟨k + 1, zb, by omega, by go_num, rfl, by omega, by omega, HQ, hG.trans (by repeat (first | with_reducible exact Gr.refl _ | with_reducible refine Gr.alloc ?_ _ | with_reducible refine Gr.gr ?_ _ _ | with_reducible refine Gr.drew ?_ | with_reducible refine Gr.drewN ?_ _))⟩
          case measure => simp [intOf]; omega
        · have HQ := Lib.hid (HNO.out (by cases hp : ptJ za (za, zb, zc); rfl; have := (HP.out.1 hp).2.2; rw [q3] at this; cases this))
          rw [q3] at HDV
          clear q3
          go_wp2_with (go_at_call 85; refine (HDV.out _).mono ?_; rintro e w' ⟨rfl, kk, os, rfl⟩)
          go_ret
          exact ⟨ret_bool HQ.out.symm, hG.trans (by repeat (first | with_reducible exact Gr.refl _ | with_reducible refine Gr.alloc ?_ _ | with_reducible refine Gr.gr ?_ _ _ | with_reducible refine Gr.drew ?_ | with_reducible refine Gr.drewN ?_ _))⟩
      · obtain rfl : k = n := by omega
        have HF := Lib.hid (show zs.take k = zs from List.take_of_length_le (by rw [HL.out]; omega))
        have HQ := Lib.hid (show gd zs = decide (b = 10000) by rw [HGd.out, ← HF.out, hE.out]; simp)
        go_wp2
        go_ret
        exact ⟨ret_bool (by rw [HQ.out]; by_cases h : b = 10000 <;> simp [h]), hG⟩
  · have HQ := Lib.hid (show gd zs = false by rw [gd_J, hn, decide_eq_false hc]; rfl)
    clear hn
    go_enter Tryd.func22, Tryd.ntmps22
    go_wp2
    go_ret
    exact ⟨ret_bool HQ.out.symm, (by repeat (first | with_reducible exact Gr.refl _ | with_reducible refine Gr.alloc ?_ _ | with_reducible refine Gr.gr ?_ _ _ | with_reducible refine Gr.drew ?_ | with_reducible refine Gr.drewN ?_ _))⟩

set_option maxHeartbeats 1000000 in
theorem cm_impl (A : Option Addr) (n c : Nat) (zs : List P3) (w : World) (hn : zs.length = n) (hN : n ≤ 16777216) (hA : Reads w w.heap.size A (cells3 zs)) (hW : Wf3 zs) :
    Calls Tryd.prog 40 #[.slice A n c] w fun e w' => e = .returned (.tuple #[.int .i64 (cmV zs), .int .i64 (cmE zs)]) ∧ Gr w w' := by
  have HL := Lib.hid hn
  have HA := Lib.hid hA
  have HG := Lib.hid (gd_impl A n c zs w hn hN hA hW)
  clear hn hA hW
  rcases Bool.eq_false_or_eq_true (gd zs) with hv | hv
  · have HV := Lib.hid (fun (k : Nat) (p : P3) (hp : zs[k]? = some p) => gd_takeC hv hp)
    have HC := Lib.hid (show cmV zs = cntM zs ∧ cmE zs = 0 by unfold cmV cmE; rw [hv]; exact ⟨rfl, rfl⟩)
    rw [hv] at HG
    clear hv
    go_enter Tryd.func40, Tryd.ntmps40
    go_wp2_with (go_at_call 22; refine (HG.out).mono ?_; rintro e w' ⟨rfl, kk, os, rfl⟩)
    go_loopw [4, 12] (fun a i wr => ∃ k : Nat, i = .int .i64 k ∧ k ≤ n ∧ a = .int .i64 (cntM (zs.take k)) ∧ Gr w wr) (fun _ i _ => n - (intOf i).toNat)
    case atStart => exact ⟨0, rfl, by omega, by simp [cntM], (by repeat (first | with_reducible exact Gr.refl _ | with_reducible refine Gr.alloc ?_ _ | with_reducible refine Gr.gr ?_ _ _ | with_reducible refine Gr.drew ?_ | with_reducible refine Gr.drewN ?_ _))⟩
    case round =>
      obtain ⟨k, rfl, hk, rfl, hG⟩ := hrel
      by_cases hlt : k < n
      · obtain ⟨z, hz⟩ := some_at (l := zs) (k := k) (by rw [HL.out]; exact hlt)
        obtain ⟨a, ho, ha, hc1, hc2, hd1, hd2, hd3⟩ := HV.out k z hz
        obtain ⟨p1, p2, p3, p4, -⟩ := (ptOk_iff _ _).1 ho
        have HT := Lib.hid (cntM_take hz)
        obtain ⟨g, o, rfl, hg, x0, x1, x2⟩ := (HA.out.gr hG).at3 hz
        obtain ⟨za, zb, zc⟩ := z
        simp only at *
        subst p1
        clear hz ho
        generalize hcN : cntM (zs.take k) = cn at *
        rw [hd1] at HT
        generalize (prN (za, zb, zc) : Int) = N at *
        have HCN := Lib.hid hcN
        clear hcN
        have HD := Lib.hid hd1
        have HQ := Lib.hid (show (zb - za) / zc = N by rw [← Int.tdiv_eq_ediv_of_nonneg (by omega)]; exact hd1)
        have hw1 : IntKind.i64.wrap (zb - za) = zb - za := IntWalk.i64_in _ (by omega)
        have hw2 : IntKind.i64.wrap N = N := IntWalk.i64_in _ (by omega)
        have hw3 : IntKind.i64.wrap (cn + N) = cn + N := IntWalk.i64_in _ (by omega)
        have hz0 : (zc == 0) = false := by simp; omega
        go_wp2
        go_roundw
        case rel => exact ⟨k + 1, by go_num, by omega, by rw [HT.out], hG.trans (by repeat (first | with_reducible exact Gr.refl _ | with_reducible refine Gr.alloc ?_ _ | with_reducible refine Gr.gr ?_ _ _ | with_reducible refine Gr.drew ?_ | with_reducible refine Gr.drewN ?_ _))⟩
        case measure => simp [intOf]; omega
      · have HF := Lib.hid (show zs.take k = zs from List.take_of_length_le (by rw [HL.out]; omega))
        go_wp2
        ((try simp only [Exit.inBlock, Exit.then]); refine bodyPost_ret (v := .tuple #[.int .i64 (cntM (zs.take k)), .int .i64 0]) (by simp [results, Tryd.results40, go_sem]) rfl ?_)
        exact ⟨ret_two (by rw [HC.out.1, HF.out]) HC.out.2.symm, hG⟩
  · have HC := Lib.hid (show cmV zs = 0 ∧ cmE zs = 1 by unfold cmV cmE; rw [hv]; exact ⟨rfl, rfl⟩)
    rw [hv] at HG
    clear hv
    go_enter Tryd.func40, Tryd.ntmps40
    go_wp2_with (go_at_call 22; refine (HG.out).mono ?_; rintro e w' ⟨rfl, kk, os, rfl⟩)
    ((try simp only [Exit.inBlock, Exit.then]); refine bodyPost_ret (v := .tuple #[.int .i64 0, .int .i64 1]) (by simp [results, Tryd.results40, go_sem]) rfl ?_)
    exact ⟨ret_two HC.out.1.symm HC.out.2.symm, (by repeat (first | with_reducible exact Gr.refl _ | with_reducible refine Gr.alloc ?_ _ | with_reducible refine Gr.gr ?_ _ _ | with_reducible refine Gr.drew ?_ | with_reducible refine Gr.drewN ?_ _))⟩
set_option maxHeartbeats 1000000 in
theorem im_impl (A : Option Addr) (n c : Nat) (zs : List P3) (m : Int) (w : World) (hn : zs.length = n) (hN : n ≤ 16777216) (hA : Reads w w.heap.size A (cells3 zs)) (hW : Wf3 zs) :
    Calls Tryd.prog 42 #[.slice A n c, .int .i64 m] w fun e w' => e = .returned (.tuple #[.bool (imV zs m), .int .i64 (cmE zs)]) ∧ Gr w w' := by
  have HL := Lib.hid hn
  have HA := Lib.hid hA
  have HG := Lib.hid (gd_impl A n c zs w hn hN hA hW)
  clear hn hA hW
  rcases Bool.eq_false_or_eq_true (gd zs) with hv | hv
  · have HV := Lib.hid (fun (k : Nat) (p : P3) (hp : zs[k]? = some p) => gd_takeC hv hp)
    have HIN := Lib.hid (fun (k : Nat) (p : P3) (hp : zs[k]? = some p) => isM_in hv hp m)
    have HC := Lib.hid (show imV zs m = isM zs m ∧ cmE zs = 0 by unfold imV cmE; rw [hv]; exact ⟨rfl, rfl⟩)
    rw [hv] at HG
    clear hv
    go_enter Tryd.func42, Tryd.ntmps42
    go_wp2_with (go_at_call 22; refine (HG.out).mono ?_; rintro e w' ⟨rfl, kk, os, rfl⟩)
    go_loopw [13] (fun i wr => ∃ k : Nat, i = .int .i64 k ∧ k ≤ n ∧ Hid (isM (zs.take k) m = false) ∧ Gr w wr) (fun i _ => n - (intOf i).toNat)
    case atStart => exact ⟨0, rfl, by omega, Lib.hid (by simp [isM]), (by repeat (first | with_reducible exact Gr.refl _ | with_reducible refine Gr.alloc ?_ _ | with_reducible refine Gr.gr ?_ _ _ | with_reducible refine Gr.drew ?_ | with_reducible refine Gr.drewN ?_ _))⟩
    case round =>
      obtain ⟨k, rfl, hk, hI, hG⟩ := hrel
      by_cases hlt : k < n
      · obtain ⟨z, hz⟩ := some_at (l := zs) (k := k) (by rw [HL.out]; exact hlt)
        obtain ⟨a, ho, ha, -, -, -, -, -⟩ := HV.out k z hz
        obtain ⟨p1, p2, p3, p4, -⟩ := (ptOk_iff _ _).1 ho
        have HT := Lib.hid (isM_take m hz)
        have HS := Lib.hid (HIN.out k z hz)
        obtain ⟨g, o, rfl, hg, x0, x1, x2⟩ := (HA.out.gr hG).at3 hz
        obtain ⟨za, zb, zc⟩ := z
        simp only at *
        subst p1
        clear hz ho
        have HP := Lib.hid (show prI m (za, zb, zc) = decide (za ≤ m ∧ m < zb ∧ (m - za).tmod zc = 0) from rfl)
        have hno : ¬ (za ≤ m ∧ m < zb ∧ (m - za).tmod zc = 0) → isM (zs.take (k + 1)) m = false := fun q => by rw [HT.out, hI.out, HP.out, decide_eq_false q]; rfl
        have HNO := Lib.hid hno
        clear hno
        by_cases q1 : za ≤ m
        rotate_left
        · have HQ := Lib.hid (HNO.out (fun q => q1 q.1))
          have g1 : decide (za ≤ m) = false := decide_eq_false q1
          go_wp2
          go_roundw
          case rel => exact ⟨k + 1, by go_num, by omega, HQ, hG.trans (by repeat (first | with_reducible exact Gr.refl _ | with_reducible refine Gr.alloc ?_ _ | with_reducible refine Gr.gr ?_ _ _ | with_reducible refine Gr.drew ?_ | with_reducible refine Gr.drewN ?_ _))⟩
          case measure => simp [intOf]; omega
        by_cases q2 : m < zb
        rotate_left
        · have HQ := Lib.hid (HNO.out (fun q => q2 q.2.1))
          have g2 : decide (m < zb) = false := decide_eq_false q2
          go_wp2
          go_roundw
          case rel => exact ⟨k + 1, by go_num, by omega, HQ, hG.trans (by repeat (first | with_reducible exact Gr.refl _ | with_reducible refine Gr.alloc ?_ _ | with_reducible refine Gr.gr ?_ _ _ | with_reducible refine Gr.drew ?_ | with_reducible refine Gr.drewN ?_ _))⟩
          case measure => simp [intOf]; omega
        have hw1 : IntKind.i64.wrap (m - za) = m - za := IntWalk.i64_in _ (by omega)
        have hz0 : (zc == 0) = false := by simp; omega
        have hb := Int.emod_lt_of_pos (m - za) (show 0 < zc by omega)
        have hb0 := Int.emod_nonneg (m - za) (show zc ≠ 0 by omega)
        have he : (m - za).tmod zc = (m - za) % zc := Int.tmod_eq_emod_of_nonneg (by omega)
        have HS2 := Lib.hid (HS.out q1 q2)
        have HE := Lib.hid he
        clear he
        go_wp2
        ((try simp only [Exit.inBlock, Exit.then]); refine bodyPost_ret (v := .tuple #[.bool ((m - za) % zc == 0), .int .i64 0]) (by simp [results, Tryd.results42, go_sem]) rfl ?_)
        exact ⟨ret_bi7 (by rw [HC.out.1, HS2.out, HE.out, Bool.eq_iff_iff]; simp) HC.out.2.symm, hG.trans (by repeat (first | with_reducible exact Gr.refl _ | with_reducible refine Gr.alloc ?_ _ | with_reducible refine Gr.gr ?_ _ _ | with_reducible refine Gr.drew ?_ | with_reducible refine Gr.drewN ?_ _))⟩
      · have HF := Lib.hid (show zs.take k = zs from List.take_of_length_le (by rw [HL.out]; omega))
        go_wp2
        ((try simp only [Exit.inBlock, Exit.then]); refine bodyPost_ret (v := .tuple #[.bool false, .int .i64 0]) (by simp [results, Tryd.results42, go_sem]) rfl ?_)
        exact ⟨ret_bi7 (by rw [HC.out.1, ← hI.out, HF.out]) HC.out.2.symm, hG⟩
  · have HC := Lib.hid (show imV zs m = false ∧ cmE zs = 1 by unfold imV cmE; rw [hv]; exact ⟨rfl, rfl⟩)
    rw [hv] at HG
    clear hv
    go_enter Tryd.func42, Tryd.ntmps42
    go_wp2_with (go_at_call 22; refine (HG.out).mono ?_; rintro e w' ⟨rfl, kk, os, rfl⟩)
    ((try simp only [Exit.inBlock, Exit.then]); refine bodyPost_ret (v := .tuple #[.bool false, .int .i64 1]) (by simp [results, Tryd.results42, go_sem]) rfl ?_)
    exact ⟨ret_bi7 HC.out.1.symm HC.out.2.symm, (by repeat (first | with_reducible exact Gr.refl _ | with_reducible refine Gr.alloc ?_ _ | with_reducible refine Gr.gr ?_ _ _ | with_reducible refine Gr.drew ?_ | with_reducible refine Gr.drewN ?_ _))⟩
/-- How many parts a law takes. -/
theorem szParts_no (A : Option Addr) (n c : Nat) (w : World) (h : ¬ n ≤ 1048576) (h2 : n ≤ 9223372036854775807) :
    Calls Tryd.prog 67 #[.slice A n c, .int .i64 1048576] w fun e w' => e = .returned (.int .i64 (-1)) ∧ w = w' := by
  go_enter Tryd.func67, Tryd.ntmps67
  go_wp2
  go_ret
  exact ⟨rfl, rfl⟩
theorem szParts_ok (A : Option Addr) (n c : Nat) (w : World) (h : n ≤ 1048576) :
    Calls Tryd.prog 67 #[.slice A n c, .int .i64 1048576] w fun e w' => e = .returned (.int .i64 (1048576 - (n : Int))) ∧ w = w' := by
  go_enter Tryd.func67, Tryd.ntmps67
  go_wp2
  go_ret
  exact ⟨rfl, rfl⟩
/-- A law writes over the parts of a list: their block alone changes. -/
theorem markParts_any (g n c : Nat) (vs : List Value) (w : World) (hn : vs.length = n * 3) (hN : n ≤ 16777216) (hR : Row w g 39 vs) :
    Calls Tryd.prog 65 #[.slice (some ⟨g, 0, none⟩) n c, .int .i64 1] w fun e w' => e = .returned (.int .i64 (1 + 3 * (n : Int))) ∧ Dr g w w' := by
  go_enter Tryd.func65, Tryd.ntmps65
  go_wp2
  go_loopw [1, 5] (fun x i wr => ∃ (k : Nat) (us : List Value), k ≤ n ∧ x = .int .i64 (1 + 3 * (k : Int)) ∧ i = .int .i64 k ∧ us.length = n * 3 ∧ Row wr g 39 us ∧ Dr g w wr) (fun _ i _ => n - (intOf i).toNat)
  case atStart => exact ⟨0, vs, by omega, by simp, rfl, hn, hR, Dr.refl _ _⟩
  case round =>
    obtain ⟨k, us, hk, rfl, rfl, hl, hrow, hd⟩ := hrel
    by_cases hlt : k < n
    · have c0 := hrow.cell (k * 3)
      have c1 := hrow.cell (k * 3 + 1)
      have c2 := hrow.cell (k * 3 + 2)
      rw [List.getElem?_eq_getElem (by omega)] at c0 c1 c2
      have f0 := hrow.free (k * 3)
      have f1 := hrow.free (k * 3 + 1)
      have f2 := hrow.free (k * 3 + 2)
      generalize us[k * 3] = u0 at *
      generalize us[k * 3 + 1] = u1 at *
      generalize us[k * 3 + 2] = u2 at *
      have hb : (k : Int) < 16777216 := by omega
      clear hn hR
      go_wp2
      go_roundw
      case rel => exact ⟨k + 1, ((us.set (k * 3) _).set (k * 3 + 1) _).set (k * 3 + 2) _, by omega, by congr 1, by go_num, by simp [hl], ((hrow.set _ _).set _ _).set _ _, ((hd.setCell (.inl rfl) _).setCell (.inl rfl) _).setCell (.inl rfl) _⟩
      case measure => simp [intOf]; omega
    · obtain rfl : k = n := by omega
      go_wp2
      go_ret
      exact ⟨rfl, hd⟩
end Go.Proofs.YtggflladheemoaaDoor

/- A region that draws its order, within a round of a loop over an iterator: walked once. -/
namespace Go.Proofs.YtggflladheemoaaDoor
open Go.RowKit
set_option linter.unusedVariables false

/-- No operation is a statement that defers. -/
def noDefer (ops : Array Oper) : Bool := ops.all fun o => match o.op with
  | .defer _ => false
  | _ => true
theorem noDefer_spec {ops : Array Oper} (h : noDefer ops = true) {o : Oper} {i : Nat} (hi : ops[i]? = some o) : ∀ c, o.op ≠ .defer c := by
  intro c hc
  have h1 := Array.all_eq_true_iff_forall_mem.1 h o (Array.mem_of_getElem? hi)
  rw [hc] at h1
  cases h1
theorem quietR_op {F : Fence} {n : Nat} {P : Program} {C : World → Prop} {o : Oper} {a : Act} {K : Act → Prop} {K' : Act → World → Prop} {Q' : Exit → Act → World → Prop} {w : World} (hd : ∀ c, o.op ≠ .defer c) (hw : C w) (h : ∀ a w', C w' → K a → K' a w')
    (ha : o.askedIn F P a C) (hh : o.quietIn F n P a C K) : o.wpIn F n P a w K' Q' := by
  obtain ⟨v, h1, h2⟩ := hh
  have h3 := h1 w hw
  unfold Oper.quietAtIn at h3
  unfold Oper.wpIn
  refine ⟨ha w hw, ?_⟩
  rw [Oper.semAt_plain F _ _ hd]
  generalize (execOp a.eval o).run P w = r at *
  cases r with
  | ok x w' =>
    cases x <;> simp only [Oper.quietUponIn] at h3 <;> simp only [Oper.uponIn]
    case value u =>
      obtain ⟨e1, e2⟩ := h3
      rw [e1, e2]
      exact h _ _ hw h2
    case skip =>
      obtain ⟨e1, e2⟩ := h3
      rw [e1, ← e2]
      exact h _ _ hw h2
    case enter f args =>
      obtain ⟨e1, hd, hc⟩ := h3
      rw [e1]
      exact ⟨hd, hc.mono fun e w'' ⟨he, hw''⟩ => by subst he; exact h _ _ hw'' h2⟩
  | halt x w' => simp only [Oper.quietUponIn] at h3
theorem quietR_opIn {F : Fence} {n : Nat} {P : Program} {ops : Array Oper} {C : World → Prop} {i : Nat} {a : Act} {K : Act → Prop} {K' : Act → World → Prop} {Q' : Exit → Act → World → Prop} {w : World} (hd : noDefer ops = true) (hC : C w) (h : ∀ a w', C w' → K a → K' a w')
    (hh : qOpIn F n P ops C i K a) : wpOpIn F n P ops Q' i K' a w := by
  unfold qOpIn at hh
  unfold wpOpIn
  split
  · rename_i ho; simp only [ho] at hh; exact h _ _ hC hh
  · rename_i o ho
    simp only [ho] at hh
    obtain ⟨ha, hh⟩ := hh
    split
    · rename_i hw; simp only [hw, if_true] at hh; exact quietR_op (noDefer_spec hd ho) hC h ha hh
    · rename_i hw; simp only [hw] at hh; exact ⟨ha w hC, h _ _ hC hh⟩
theorem quietR_any {F : Fence} {n : Nat} {P : Program} {ops : Array Oper} {md : Region.Mode} {C : World → Prop} {Q : Act → Prop} {Q' : Exit → Act → World → Prop} (hd : noDefer ops = true) (hQ : ∀ a w, C w → Q a → Q' .normal a w) : ∀ (fuel : Nat) (listed : Array Bool) (a : Act) (w : World), C w →
    wpAnyQIn F n P md ops C Q fuel listed a → wpAnyIn F n P md ops Q' fuel listed a w
  | 0, _, _, _, hw, h => ⟨h.1, hQ _ _ hw h.2⟩
  | fuel + 1, _, _, _, hw, h => ⟨fun h0 => hQ _ _ hw (h.1 h0), fun i hi => quietR_opIn hd hw (fun a' w' hw' => quietR_any hd hQ fuel _ a' w' hw') (h.2 i hi)⟩
/-- One walk of the order of the text serves every order, within a round. -/
theorem wpIn_region_quietR {F : Fence} {n : Nat} {P : Program} {C : World → Prop} {id : Nat} {Q : Exit → Act → World → Prop} {a : Act} {w : World} {l : List Oper} (hm : P.follows .mixedOrders = true) (hd : noDefer l.toArray = true) (hB : Region.lexB .any l.toArray = true) (hC : C { w with drawn := w.drawn + 1 })
    (h : wpQuietIn F n P l.toArray C (fun a' => ∀ w', C w' → Q .normal a' w') l a) : (Code.region id l.toArray true).wpIn F n P Q a w := by
  simp only [Region.lexB, Bool.and_eq_true] at hB
  refine wpIn_region_any hm (quietR_any (Q := fun a' => ∀ w', C w' → Q .normal a' w') hd (fun _ w' hw' h => h w' hw') _ _ _ _ hC ?_)
  have := wpAnyQIn_lex (F := F) (n := n) (C := C) (md := .any) hB.1 l 0 (Array.replicate l.length false) a (by simp) (by simpa using hB.2) (by simpa using h)
  simpa using this
theorem wpIn_region_quietR_lit {F : Fence} {n : Nat} {P : Program} {id : Nat} {Q : Exit → Act → World → Prop} {a : Act} {w : World} {l : List Oper} (hm : P.follows .mixedOrders = true) (hd : noDefer l.toArray = true) (hB : Region.lexB .any l.toArray = true)
    (h : wpQuietIn F n P l.toArray (fun w' => ∃ n, w' = w.drewN n) (fun a' => ∀ w', (∃ n, w' = w.drewN n) → Q .normal a' w') l a) : (Code.region id l.toArray true).wpIn F n P Q a w :=
  wpIn_region_quietR (C := fun w' => ∃ n, w' = w.drewN n) hm hd hB ⟨1, rfl⟩ h

/-- A region whose first operations are quiet, whatever order is picked, and lead to one state. -/
def anyQ (F : Fence) (n : Nat) (P : Program) (md : Region.Mode) (ops : Array Oper) (C : World → Prop) (Qb : Array Bool → Act → Prop) : Nat → Array Bool → Act → Prop
  | 0, listed, a => Qb listed a
  | fuel + 1, listed, a => Region.ready md ops listed ≠ [] ∧ ∀ i ∈ Region.ready md ops listed, qOpIn F n P ops C i (anyQ F n P md ops C Qb fuel (listed.setIfInBounds i true)) a
theorem anyQ_wp {F : Fence} {n : Nat} {P : Program} {ops : Array Oper} {md : Region.Mode} {C : World → Prop} {Qb : Array Bool → Act → Prop} {Q : Exit → Act → World → Prop} {r : Nat} (hd : noDefer ops = true) (hQ : ∀ listed a w, C w → Qb listed a → wpAnyIn F n P md ops Q r listed a w) :
    ∀ (fuel : Nat) (listed : Array Bool) (a : Act) (w : World), C w → anyQ F n P md ops C Qb fuel listed a → wpAnyIn F n P md ops Q (fuel + r) listed a w
  | 0, listed, a, w, hw, h => by rw [Nat.zero_add]; exact hQ _ _ _ hw h
  | fuel + 1, listed, a, w, hw, h => by
    rw [Nat.add_right_comm]
    exact ⟨fun h0 => absurd h0 h.1, fun i hi => quietR_opIn hd hw (fun a' w' hw' h' => anyQ_wp hd hQ fuel _ a' w' hw' h') (h.2 i hi)⟩
theorem anyQ_ready {F : Fence} {n : Nat} {P : Program} {ops : Array Oper} {md : Region.Mode} {C : World → Prop} {Qb : Array Bool → Act → Prop} {fuel : Nat} {listed : Array Bool} {a : Act} {rs : List Nat} (hr : Region.ready md ops listed = rs) (hne : rs ≠ [])
    (h : ∀ i ∈ rs, qOpIn F n P ops C i (anyQ F n P md ops C Qb fuel (listed.setIfInBounds i true)) a) : anyQ F n P md ops C Qb (fuel + 1) listed a := ⟨hr ▸ hne, hr ▸ h⟩
theorem allQ_nil {p : Nat → Prop} : ∀ i ∈ ([] : List Nat), p i := fun _ h => by cases h
theorem allQ_cons {p : Nat → Prop} {i : Nat} {rs : List Nat} (h : p i) (hs : ∀ j ∈ rs, p j) : ∀ j ∈ i :: rs, p j := fun j hj => by
  rcases List.mem_cons.1 hj with rfl | hj
  · exact h
  · exact hs j hj
theorem qOp_step {F : Fence} {n : Nat} {P : Program} {ops : Array Oper} {C : World → Prop} {i : Nat} {o : Oper} {K : Act → Prop} {a : Act} (ho : ops[i]? = some o) (ha : o.askedIn F P a C)
    (h : ∀ K' : Act → Prop, (∀ a, K a → K' a) → if Region.wanted o (yielded ops a.tmps) then o.quietIn F n P a C K' else K' (a.put o.dst undef)) : qOpIn F n P ops C i K a := by
  unfold qOpIn
  simp only [ho]
  exact ⟨ha, h K (fun _ h => h)⟩
theorem wpIn_region_prefix {F : Fence} {n : Nat} {P : Program} {id : Nat} {Q : Exit → Act → World → Prop} {a : Act} {w : World} {l : List Oper} {Qb : Array Bool → Act → Prop} (fuel r : Nat) (hm : P.follows .mixedOrders = true) (hd : noDefer l.toArray = true) (hsz : l.length = fuel + r)
    (hq : anyQ F n P .any l.toArray (fun w' => ∃ n, w' = w.drewN n) Qb fuel (Array.replicate (fuel + r) false) a)
    (hQ : ∀ listed a' k, Qb listed a' → wpAnyIn F n P .any l.toArray Q r listed a' (w.drewN k)) : (Code.region id l.toArray true).wpIn F n P Q a w := by
  refine wpIn_region_any hm ?_
  rw [show l.toArray.size = fuel + r by simpa using hsz]
  exact anyQ_wp hd (fun listed a' w' ⟨k, hk⟩ h => by rw [hk]; exact hQ _ _ _ h) fuel _ a _ ⟨1, rfl⟩ hq
theorem wpIn_region_prefixA {F : Fence} {n : Nat} {P : Program} {id : Nat} {Q : Exit → Act → World → Prop} {a : Act} {w : World} {l : List Oper} (L : Array Bool) (A : Act) (fuel r : Nat) (hm : P.follows .mixedOrders = true) (hd : noDefer l.toArray = true) (hsz : l.length = fuel + r)
    (hq : anyQ F n P .any l.toArray (fun w' => ∃ n, w' = w.drewN n) (fun li a' => li = L ∧ a' = A) fuel (Array.replicate (fuel + r) false) a)
    (hQ : ∀ k, wpAnyIn F n P .any l.toArray Q r L A (w.drewN k)) : (Code.region id l.toArray true).wpIn F n P Q a w :=
  wpIn_region_prefix fuel r hm hd hsz hq (fun listed a' k ⟨h1, h2⟩ => by rw [h1, h2]; exact hQ k)
end Go.Proofs.YtggflladheemoaaDoor

/- A loop over an iterator that keeps cells of its own between two rounds: its contract and the caller's law. -/
namespace Go.Proofs.YtggflladheemoaaDoor
open Go.RowKit
set_option linter.unusedVariables false

/-- All that lay lies as it lay, save the blocks of a list. -/
structure Kx (bs : List Nat) (W W' : World) : Prop where
  os : W'.os = W.os
  tape : W'.tape = W.tape
  output : W'.output = W.output
  size : W.heap.size ≤ W'.heap.size
  same : ∀ k, k < W.heap.size → k ∉ bs → W'.heap[k]? = W.heap[k]?
theorem Kx.refl (bs : List Nat) (W : World) : Kx bs W W := ⟨rfl, rfl, rfl, Nat.le_refl _, fun _ _ _ => rfl⟩
theorem Kx.trans {bs : List Nat} {A B C : World} (h : Kx bs A B) (k : Kx bs B C) : Kx bs A C :=
  ⟨k.os.trans h.os, k.tape.trans h.tape, k.output.trans h.output, Nat.le_trans h.size k.size, fun i hi hb => (k.same i (Nat.lt_of_lt_of_le hi h.size) hb).trans (h.same i hi hb)⟩
theorem Kx.grown {bs : List Nat} {W W' : World} {row : Option Nat} (hg : W.grownBy W' row) (hr : ∀ r, row = some r → r ∈ bs) : Kx bs W W' :=
  ⟨hg.os, hg.tape, hg.output, hg.size, fun k hk hb => hg.block k hk (fun e => hb (hr k e.symm))⟩
theorem Kx.more {bs cs : List Nat} {W W' : World} (h : Kx bs W W') (hc : ∀ b ∈ bs, b ∈ cs) : Kx cs W W' := ⟨h.os, h.tape, h.output, h.size, fun k hk hb => h.same k hk (fun e => hb (hc k e))⟩
theorem Kx.below {bs : List Nat} {W W' : World} (h : Kx bs W W') {B : Nat} (hB : B ≤ W.heap.size) (hb : ∀ b ∈ bs, B ≤ b) : Below B W W' :=
  ⟨h.os, h.tape, h.output, h.size, fun k hk => h.same k (Nat.lt_of_lt_of_le hk hB) (fun e => by have := hb k e; omega)⟩
theorem Kx.of_below {bs : List Nat} {W W' : World} (h : Below W.heap.size W W') : Kx bs W W' := ⟨h.os, h.tape, h.output, h.size, fun k hk _ => h.block k hk⟩
theorem Kx.boxed {bs : List Nat} {W W' : World} (h : Kx bs W W') {B : Nat} {t : TypeId} {v : Value} (hb : Boxed W B t v) (hn : B ∉ bs) : Boxed W' B t v := (h.same B hb.lt hn).trans hb
theorem Kx.set (bs : List Nat) (W : World) {B : Nat} (hB : B ∈ bs) (v : Value) : Kx bs W (W.setCell ⟨B, 0, none⟩ v) := Kx.grown (grownBy_setCell' W B v) (fun r e => by cases e; exact hB)

/-- Whatever is turned at or beyond B: it abides. -/
def AbX {β : Type} (B : Nat) (J : β → World → Prop) : Prop := ∀ s W W' row, J s W → W.grownBy W' row → (∀ r, row = some r → B ≤ r) → J s W'
theorem AbX.and {β : Type} {B : Nat} {I J : β → World → Prop} (h : AbX B I) (k : AbX B J) : AbX B (fun s W => I s W ∧ J s W) := fun s W W' row hs hg hr => ⟨h s W W' row hs.1 hg hr, k s W W' row hs.2 hg hr⟩
theorem AbX.alloc {β : Type} {B : Nat} {J : β → World → Prop} (h : AbX B J) {s : β} {W : World} (o : Obj) (hs : J s W) : J s (W.alloc o) := h s W _ none hs (World.grownBy_alloc W o none) (fun r e => by cases e)
theorem AbX.putObj {β : Type} {B : Nat} {J : β → World → Prop} (h : AbX B J) {s : β} {W : World} {l : Nat} (o : Obj) (hs : J s W) (hl : B ≤ l) : J s (W.putObj l o) := h s W _ (some l) hs (grownBy_putObj' W l o) (fun r e => by cases e; exact hl)
theorem abX_boxed {β : Type} {B b : Nat} (hb : b < B) (t : TypeId) (f : β → Value) : AbX B (fun s W => Boxed W b t (f s)) := fun s W W' row hs hg hr => Boxed.kept hs hg (fun e => by have := hr b e.symm; omega)
theorem abX_pure {β : Type} (B : Nat) (p : β → Prop) : AbX B (fun s (_ : World) => p s) := fun _ _ _ _ hs _ _ => hs
theorem abX_below {β : Type} {B n₀ : Nat} {w : World} (hn : n₀ ≤ B) (hw : n₀ ≤ w.heap.size) : AbX B (fun (_ : β) W => Below n₀ w W) := fun s W W' row hs hg hr => hs.grown hg (Nat.le_trans hw hs.size) (fun k e => Nat.le_trans hn (hr k e))
theorem AbX.mono {β : Type} {B C : Nat} {J : β → World → Prop} (h : AbX B J) (hc : B ≤ C) : AbX C J := fun s W W' row hs hg hr => h s W W' row hs hg (fun r e => Nat.le_trans hc (hr r e))

/-- The iterator's contract: each round keeps all but the blocks of a list; the iterator may turn whatever it has laid itself. -/
def SeqX {α : Type} (F : Fence) (n : Nat) (P : Program) (g : Nat) (lb : Array Value) (encs : α → Array Value) (bs : List Nat) (S Sp : List α → Prop) (N : Nat) (w : World) : Prop :=
  ∀ (l : Nat) (J Jx : List α → World → Prop) (W : World), Below w.heap.size w W → (∀ b ∈ bs, b < W.heap.size) → AbX W.heap.size J → AbX W.heap.size Jx →
    (∀ pre x W1, J pre W1 → pre.length < N → YieldAt F (n - 1) P l (encs x) W1 fun e W' =>
      ((e = .returned (.bool true) ∧ J (pre ++ [x]) W') ∨ (e = .returned (.bool false) ∧ Jx (pre ++ [x]) W')) ∧ Kx bs W1 W') →
    J [] W →
    CallsIn F n P g (#[.func (.yield l) #[] #[]] ++ lb) W fun e W' => (∃ v, e = .returned v) ∧ ((∃ xs, S xs ∧ J xs W') ∨ (∃ pre, Sp pre ∧ Jx pre W'))

/-- How a round's body may be left. -/
def postX {α : Type} (bs : List Nat) (I Ix : List α → World → Prop) (xs : List α) (W : World) : Exit → Act → World → Prop
  | .normal, _, W' => Kx bs W W' ∧ I xs W'
  | .ret, _, W' => Kx bs W W' ∧ Ix xs W'
  | _, _, _ => False

theorem rangeX {F : Fence} {n : Nat} {P : Program} {α : Type} {g : Operand} {ps : Array Tmp} {assign body : Code} {Q : Exit → Act → World → Prop} {a : Act} {w : World}
    (hro : F.round = none) (h1 : 1 ≤ n) {gf : Nat} {lb : Array Value} (hg : a.eval g = .func (.func gf) #[] lb) (hFg : F.fn gf) (eg : ∀ args w, (callFunc gf args).run P w = .ok (.enter gf args) w)
    {encs : α → Array Value} {bs : List Nat} {S Sp : List α → Prop} {N : Nat} {w0 : World} (hbs : ∀ b ∈ bs, b < w.heap.size) (hseq : SeqX F (n - 1) P gf lb encs ((w.heap.size + 1) :: bs) S Sp N w0) (hb0 : Below w0.heap.size w0 w) (hps : ∀ x, (encs x).size = ps.size)
    (I Ix : List α → World → Prop) (hI : AbX w.heap.size I) (hIx : AbX w.heap.size Ix) (h0 : I [] w) (a₁ : α → Act)
    (hassign : ∀ (l : Nat) (x : α) (W : World) (K : Act → World → Prop), K (a₁ x) W →
      assign.wpIn (F.inRound l) (n - 1 - 1) P (Exit.then K (fun _ _ _ => False)) { tmps := (ps.zip (encs x)).foldl (fun t (p, v) => t.setIfInBounds p v) a.tmps, defers := [] } W)
    (hbody : ∀ (l : Nat) (pre : List α) (x : α) (W : World), I pre W → pre.length < N → w.heap.size ≤ W.heap.size → body.wpIn (F.inRound l) (n - 1 - 1) P (postX bs I Ix (pre ++ [x]) W) (a₁ x) W)
    (hdone : ∀ (D : Nat) (xs : List α) (W : World), w.heap.size ≤ D → S xs → I xs W → W.heap[D]? = some (.deferred (some [])) → Q .normal { a with defers := { target := .collected D, args := #[] } :: a.defers } W)
    (hstop : ∀ (D : Nat) (pre : List α) (W : World), w.heap.size ≤ D → Sp pre → Ix pre W → W.heap[D]? = some (.deferred (some [])) → Code.ret.wpIn F n P Q { a with defers := { target := .collected D, args := #[] } :: a.defers } W) :
    (Code.rangeFunc g ps assign body).wpIn F n P Q a w := by
  refine wpIn_rangeFunc fun fn hfn => ?_
  rw [hro]
  obtain ⟨s, hs⟩ : ∃ s, w.heap.size = s := ⟨_, rfl⟩
  have hr0 := run_enterLoop_outer (P := P) (w := w) fn a.tmps ps assign body
  obtain ⟨R, hR⟩ : ∃ R : LoopState → Option Code → Loop, R = fun st pe => { state := st, pending := pe, fn, tmps := a.tmps, params := ps, assign, body, defers := s } := ⟨_, rfl⟩
  -- the two blocks of the loop's own, and that they lie
  obtain ⟨G, hG⟩ : ∃ G : LoopState → Option Code → World → Prop, G = fun st pe W => W.heap[s + 1]? = some (.loop (R st pe)) ∧ W.heap[s]? = some (.deferred (some [])) := ⟨_, rfl⟩
  have hlt : ∀ {st pe W}, G st pe W → s + 1 < W.heap.size := fun h => by rw [hG] at h; exact (Array.getElem?_eq_some_iff.1 h.1).1
  have hput : ∀ {st pe W} (st' : LoopState) (pe' : Option Code), G st pe W → G st' pe' (W.putObj (s + 1) (.loop (R st' pe'))) := fun st' pe' h => by
    have hl := hlt h
    rw [hG] at h ⊢
    exact ⟨World.putObj_heap_same hl, (World.putObj_heap_other (by omega)).trans h.2⟩
  have hkeep : ∀ {st pe W W'}, G st pe W → W'.heap[s + 1]? = W.heap[s + 1]? → W'.heap[s]? = W.heap[s]? → G st pe W' := fun h e1 e2 => by
    rw [hG] at h ⊢
    exact ⟨e1.trans h.1, e2.trans h.2⟩
  obtain ⟨W1, hW1⟩ : ∃ W1, (w.alloc (.deferred (some []))).alloc (.loop (R .ready none)) = W1 := ⟨_, rfl⟩
  have hsz : W1.heap.size = s + 1 + 1 := by rw [← hW1, World.size_alloc, World.size_alloc, hs]
  have hG1 : G .ready none W1 := by
    have e1 := World.alloc_heap_new (w.alloc (.deferred (some []))) (.loop (R .ready none))
    have e0 := World.alloc_heap_new w (.deferred (some []))
    rw [hs] at e0
    have e2 : ((w.alloc (.deferred (some []))).alloc (.loop (R .ready none))).heap[s]? = some (.deferred (some [])) := (Below.heap_alloc _ _ s (by rw [World.size_alloc]; omega)).trans e0
    rw [World.size_alloc, hs, hW1] at e1
    rw [hW1] at e2
    rw [hG]
    exact ⟨e1, e2⟩
  have hI1 : I [] W1 := by rw [← hW1]; exact hI.alloc _ (hI.alloc _ h0)
  have hb1 : Below w0.heap.size w0 W1 := by
    rw [← hW1]; exact (hb0.alloc hb0.size _).alloc (by have := hb0.size; simp; omega) _
  refine ⟨s + 1, [{ target := .collected s, args := #[] }], W1, { target := .fn (.func gf) lb, args := #[.func (.yield (s + 1)) #[] #[]] }, W1, gf, #[.func (.yield (s + 1)) #[] #[]] ++ lb, W1, ?_, ?_, ?_, ?_, fun _ => h1, ?_⟩
  · rw [← hW1, hR, ← hs]; exact hr0
  · simp only [resolve, hg]
    simp [go_sem]
  · intro f' hf'; simp [Target.leads] at hf'; subst hf'; exact hFg
  · simp [invoke, go_sem, eg]
  rw [hs] at hI hIx hseq hbs
  refine (hseq (s + 1) (fun pre W => I pre W ∧ G .ready none W) (fun pre W => Ix pre W ∧ G .done (some .ret) W) W1 hb1 ?_ ?_ ?_ ?_ ⟨hI1, hG1⟩).mono ?_
  · intro b hb
    rcases List.mem_cons.1 hb with rfl | hb
    · omega
    · have := hbs b hb; omega
  · rintro t A B row ⟨hi, hg'⟩ hgr hr
    have := hlt hg'
    exact ⟨hI t A B row hi hgr (fun r e => by have := hr r e; omega), hkeep hg' (hgr.block _ (by omega) (fun e => by have := hr _ e.symm; omega)) (hgr.block _ (by omega) (fun e => by have := hr _ e.symm; omega))⟩
  · rintro t A B row ⟨hi, hg'⟩ hgr hr
    have := hlt hg'
    exact ⟨hIx t A B row hi hgr (fun r e => by have := hr r e; omega), hkeep hg' (hgr.block _ (by omega) (fun e => by have := hr _ e.symm; omega)) (hgr.block _ (by omega) (fun e => by have := hr _ e.symm; omega))⟩
  · rintro pre x W ⟨hi, hg'⟩ hlen
    have hg2 := hg'
    rw [hG] at hg2
    have hy := run_yield (P := P) (args := encs x) hg2.1 (by rw [hR]; exact hps x)
    rw [hR] at hy
    refine ⟨fn, _, assign, body, hy, roundIn_of_wpIn hfn (hassign _ x W _ ⟨_, run_beginRound hg2.1 (by rw [hR]), ?_⟩)⟩
    have e1 : ({ R .ready none with state := .busy } : Loop) = R .busy none := by rw [hR]
    rw [e1]
    have hgb := hput .busy none hg'
    have hs2 := hlt hgb
    have hk1 : Kx ((s + 1) :: bs) W (W.putObj (s + 1) (.loop (R .busy none))) := Kx.grown (grownBy_putObj' W _ _) (fun r e => by cases e; simp)
    refine wpIn_mono (hbody _ pre x _ (hI.putObj _ hi (by omega)) hlen (by omega)) ?_
    have fin : ∀ (jump : Option Code) (W3 : World), Kx bs (W.putObj (s + 1) (.loop (R .busy none))) W3 →
        (Instr.endRound (s + 1) jump).run P W3 = .ok (.bool jump.isNone) (W3.putObj (s + 1) (.loop (R (if jump.isNone then .ready else .done) jump))) ∧
        G (if jump.isNone then .ready else .done) jump (W3.putObj (s + 1) (.loop (R (if jump.isNone then .ready else .done) jump))) ∧ Kx ((s + 1) :: bs) W (W3.putObj (s + 1) (.loop (R (if jump.isNone then .ready else .done) jump))) := fun jump W3 hk3 => by
      have hg3 : G .busy none W3 := hkeep hgb (hk3.same _ (by omega) (fun e => by have := hbs _ e; omega)) (hk3.same _ (by omega) (fun e => by have := hbs _ e; omega))
      have hg4 := hg3
      rw [hG] at hg4
      have hend := run_endRound (P := P) jump hg4.1
      have e2 : ({ R .busy none with state := (if jump.isNone then .ready else .done), pending := jump } : Loop) = R (if jump.isNone then .ready else .done) jump := by rw [hR]
      rw [e2] at hend
      exact ⟨hend, hput _ _ hg3, hk1.trans ((hk3.more (fun b hb => List.mem_cons_of_mem _ hb)).trans (Kx.grown (grownBy_putObj' _ _ _) (fun r e => by cases e; simp)))⟩
    rintro e a3 W3 hp
    cases e with
    | normal =>
      obtain ⟨hk3, hi3⟩ := hp
      obtain ⟨hr, hg4, hk4⟩ := fin none W3 hk3
      exact ⟨_, _, hr, .inl ⟨rfl, hI.putObj _ hi3 (by omega), hg4⟩, hk4⟩
    | ret =>
      obtain ⟨hk3, hi3⟩ := hp
      obtain ⟨hr, hg4, hk4⟩ := fin (some .ret) W3 hk3
      exact ⟨_, _, hr, .inr ⟨rfl, hIx.putObj _ hi3 (by omega), hg4⟩, hk4⟩
    | _ => exact hp.elim
  · rintro e W2 ⟨⟨v, rfl⟩, (⟨xs, hS, hi, hg'⟩ | ⟨pre, hSp, hi, hg'⟩)⟩
    · have hg2 := hg'
      rw [hG] at hg2
      have hend := run_endLoop (P := P) hg2.1 (by rw [hR]; simp)
      rw [hR] at hend
      refine ⟨none, _, hend, hdone s xs _ (by omega) hS (hI.putObj _ hi (by omega)) ?_⟩
      exact (World.putObj_heap_other (by omega)).trans hg2.2
    · have hg2 := hg'
      rw [hG] at hg2
      have hend := run_endLoop (P := P) hg2.1 (by rw [hR]; simp)
      rw [hR] at hend
      refine ⟨some .ret, _, hend, hstop s pre _ (by omega) hSp (hIx.putObj _ hi (by omega)) ?_⟩
      exact (World.putObj_heap_other (by omega)).trans hg2.2
end Go.Proofs.YtggflladheemoaaDoor

/- Contracts of chapter 7: the program's iterator over the marks of parts. -/
namespace Go.Proofs.YtggflladheemoaaDoor
open Go.RowKit Go.Shelf
set_option linter.unusedVariables false
set_option linter.unusedSimpArgs false
attribute [local go_sem] Oper.semAt_some

/-- A block of cells of type T. -/
def isT (T : TypeId) : Obj → Bool
  | .cells _ t _ => t == T
  | _ => false
/-- Blocks of cells of type T lie as they lay. -/
structure KeepsT (T : TypeId) (W W' : World) : Prop where
  size : W.heap.size ≤ W'.heap.size
  same : ∀ (k : Nat) (o : Obj), W.heap[k]? = some o → isT T o = true → W'.heap[k]? = W.heap[k]?
theorem KeepsT.refl (T : TypeId) (W : World) : KeepsT T W W := ⟨Nat.le_refl _, fun _ _ _ _ => rfl⟩
theorem KeepsT.trans {T : TypeId} {A B C : World} (h : KeepsT T A B) (k : KeepsT T B C) : KeepsT T A C :=
  ⟨Nat.le_trans h.size k.size, fun i o hi ho => (k.same i o ((h.same i o hi ho).trans hi) ho).trans (h.same i o hi ho)⟩
theorem KeepsT.grown {T : TypeId} {W W' : World} {row : Option Nat} (hg : W.grownBy W' row) (hrow : ∀ r, row = some r → ∃ o : Obj, W.heap[r]? = some o ∧ isT T o = false) : KeepsT T W W' :=
  ⟨hg.size, fun k o hk ho => hg.block k (Array.getElem?_eq_some_iff.1 hk).1 (fun e => by
    obtain ⟨o', h1, h2⟩ := hrow k e.symm
    rw [hk] at h1
    cases h1
    rw [ho] at h2
    cases h2)⟩
theorem KeepsT.alloc (T : TypeId) (W : World) (o : Obj) : KeepsT T W (W.alloc o) := KeepsT.grown (World.grownBy_alloc W o none) (fun r e => by cases e)
theorem KeepsT.of_gr {T : TypeId} {W W' : World} (h : Gr W W') : KeepsT T W W' := ⟨h.below.size, fun k o hk _ => h.below.block k (Array.getElem?_eq_some_iff.1 hk).1⟩
theorem KeepsT.set {T : TypeId} {W : World} {B : Nat} {t : TypeId} {v : Value} (h : Boxed W B t v) (ht : (t == T) = false) (u : Value) : KeepsT T W (W.setCell ⟨B, 0, none⟩ u) :=
  KeepsT.grown (grownBy_setCell' W B u) (fun r e => by cases e; exact ⟨_, h, ht⟩)
/-- What a round keeps: what lay below n₀, and each block of type T. -/
def KM (T : TypeId) (n₀ : Nat) (W W' : World) : Prop := Below n₀ W W' ∧ KeepsT T W W'
theorem KM.refl (T : TypeId) (n₀ : Nat) (W : World) : KM T n₀ W W := ⟨Below.refl _ _, KeepsT.refl _ _⟩
theorem KM.t {T : TypeId} {n₀ : Nat} {A B C : World} (h : KM T n₀ A B) (k : KM T n₀ B C) : KM T n₀ A C := ⟨h.1.trans k.1, h.2.trans k.2⟩
theorem KM.b {T : TypeId} {n₀ : Nat} {w : World} (hn : n₀ ≤ w.heap.size) (W : World) (l : Nat) (o o' : Obj) (hl : w.heap.size ≤ l) (h : W.heap[l]? = some o) (hc : o.isCells = false) (hw : o.isWalk = false) : KM T n₀ W (W.putObj l o') :=
  ⟨belowK_b hn W l o o' hl h hc hw, KeepsT.grown (grownBy_putObj' W l o') (fun r e => by cases e; refine ⟨o, h, ?_⟩; cases o <;> simp_all [Obj.isCells, isT])⟩
theorem KM.alloc {T : TypeId} {n₀ : Nat} {W : World} (h : n₀ ≤ W.heap.size) (o : Obj) : KM T n₀ W (W.alloc o) := ⟨(Below.refl _ _).alloc h o, KeepsT.alloc _ _ _⟩
theorem KM.gr {T : TypeId} {n₀ : Nat} {W W' : World} (h : n₀ ≤ W.heap.size) (hg : Gr W W') : KM T n₀ W W' := ⟨hg.below.mono h, KeepsT.of_gr hg⟩
/-- Parts at an address, in a block below n₀ or of their own type. -/
def Rd3 (T : TypeId) (n₀ : Nat) (W : World) (A : Option Addr) (zs : List P3) : Prop :=
  ∀ k (h : k < (cells3 zs).length), ∃ g o : Nat, A = some ⟨g, o, none⟩ ∧ W.cell? ⟨g, o + k, none⟩ = some (cells3 zs)[k] ∧ (g < n₀ ∨ ∃ ob, W.heap[g]? = some ob ∧ isT T ob = true)
theorem Rd3.of_reads {T : TypeId} {n₀ : Nat} {W : World} {A : Option Addr} {zs : List P3} (h : Reads W n₀ A (cells3 zs)) : Rd3 T n₀ W A zs := fun k hk => by
  obtain ⟨g, o, e, hg, hc⟩ := h k hk
  exact ⟨g, o, e, hc, .inl hg⟩
theorem Rd3.of_row {T : TypeId} {n₀ : Nat} {W : World} {b : Nat} {zs : List P3} (h : Row W b T (cells3 zs)) : Rd3 T n₀ W (some ⟨b, 0, none⟩) zs := fun k hk =>
  ⟨b, 0, rfl, by rw [Nat.zero_add, h.cell, List.getElem?_eq_getElem hk], .inr ⟨_, h, by simp [isT]⟩⟩
theorem Rd3.keep {T : TypeId} {n₀ : Nat} {W W' : World} {A : Option Addr} {zs : List P3} (h : Rd3 T n₀ W A zs) (hk : KM T n₀ W W') : Rd3 T n₀ W' A zs := fun k hk' => by
  obtain ⟨g, o, e, hc, hg⟩ := h k hk'
  have hb : W'.heap[g]? = W.heap[g]? := by
    rcases hg with hg | ⟨ob, h1, h2⟩
    · exact hk.1.block g hg
    · exact hk.2.same g ob h1 h2
  refine ⟨g, o, e, (World.cell?_of_block hb).trans hc, ?_⟩
  rcases hg with hg | ⟨ob, h1, h2⟩
  · exact .inl hg
  · exact .inr ⟨ob, hb.trans h1, h2⟩
theorem Rd3.at3 {T : TypeId} {n₀ : Nat} {W : World} {A : Option Addr} {zs : List P3} (h : Rd3 T n₀ W A zs) {i : Nat} {p : P3} (hp : zs[i]? = some p) :
    ∃ g o : Nat, A = some ⟨g, o, none⟩ ∧ W.cell? ⟨g, o + i * 3, none⟩ = some (vi p.1) ∧ W.cell? ⟨g, o + i * 3 + 1, none⟩ = some (vi p.2.1) ∧ W.cell? ⟨g, o + i * 3 + 2, none⟩ = some (vi p.2.2) := by
  have hr : Reads W W.heap.size A (cells3 zs) := fun k hk => by
    obtain ⟨g, o, e, hc, -⟩ := h k hk
    exact ⟨g, o, e, World.block_lt_of_cell? W _ hc, hc⟩
  obtain ⟨g, o, e, -, x⟩ := hr.at3 hp
  exact ⟨g, o, e, x⟩

theorem frs_mono (p : P3) (j : Nat) : ∀ d : Nat, frs p j <+: frs p (j + d)
  | 0 => List.prefix_refl _
  | d + 1 => by
    rw [show j + (d + 1) = (j + d) + 1 from rfl, frs_succ]
    exact List.IsPrefix.trans (frs_mono p j d) (List.prefix_append _ _)
/-- One mark more: it is among all marks. -/
theorem frs_lt {zs : List P3} {k : Nat} {p : P3} (h : zs[k]? = some p) {j : Nat} (hj : j ≤ prN p) :
    (mks (zs.take k) ++ frs p j) <+: mks zs ∧ (j < prN p → (mks (zs.take k) ++ frs p j).length < (mks zs).length) := by
  obtain ⟨hk, e⟩ := List.getElem?_eq_some_iff.1 h
  have e4 : mks zs = (mks (zs.take k) ++ prM p) ++ mks (zs.drop (k + 1)) := by
    have e4 : zs = zs.take k ++ (p :: zs.drop (k + 1)) := by rw [← e, ← List.drop_eq_getElem_cons hk, List.take_append_drop]
    unfold mks
    conv => lhs; rw [e4]
    rw [List.flatMap_append, List.flatMap_cons, List.append_assoc]
  have e5 : frs p j <+: prM p := by
    obtain ⟨d, hd⟩ := Nat.exists_eq_add_of_le hj
    have h1 : prM p = frs p (j + d) := by rw [← hd]; rfl
    rw [h1]
    exact frs_mono p j d
  refine ⟨?_, fun hlt => ?_⟩
  · rw [e4]
    obtain ⟨t, ht⟩ := e5
    exact ⟨t ++ mks (zs.drop (k + 1)), by rw [← ht]; simp [List.append_assoc]⟩
  · rw [e4, List.length_append, List.length_append, List.length_append, frs_len, prM_len]
    omega

set_option maxRecDepth 100000 in
set_option maxHeartbeats 4000000 in
/-- The iterator: for every loop body that keeps where the parts are read, and the block of a part. -/
theorem marks1_in (n : Nat) (hn : 1 ≤ n) (n₀ : Nat) (Kp : World → World → Prop) (R : World → Prop) (A : Option Addr) (len c : Nat) (zs : List P3) (hl : zs.length = len) (hlN : len ≤ 16777216) (hok : ∀ p ∈ zs, ∃ a, ptOk a p = true ∧ 0 ≤ a) (l bp : Nat) (J Jx : List Int → World → Prop)
    (hJ : ∀ s W o, J s W → J s (W.alloc o)) (hRK : ∀ X Y, R X → Kp X Y → R Y) (hRA : ∀ X o, R X → R (X.alloc o))
    (hRR : ∀ X, R X → ∀ i p, zs[i]? = some p → ∃ g o : Nat, A = some ⟨g, o, none⟩ ∧ X.cell? ⟨g, o + i * 3, none⟩ = some (vi p.1) ∧ X.cell? ⟨g, o + i * 3 + 1, none⟩ = some (vi p.2.1) ∧ X.cell? ⟨g, o + i * 3 + 2, none⟩ = some (vi p.2.2))
    (hKB : ∀ X Y b vs, n₀ ≤ b → Kp X Y → X.heap[b]? = some (.cells vs 39 (0, 0)) → Y.heap[b]? = X.heap[b]?) (hKS : ∀ X Y, Kp X Y → X.heap.size ≤ Y.heap.size)
    (hY : ∀ pre y W, J pre W → pre ++ [y] <+: mks zs → YieldAt Fence.wide (n - 1) Tryd.prog l #[.int .i64 y] W fun e W' =>
      (e = .returned (.bool true) ∧ J (pre ++ [y]) W' ∧ Kp W W') ∨ (e = .returned (.bool false) ∧ Jx (pre ++ [y]) W'))
    (W : World) (hb : W.cell? ⟨bp, 0, none⟩ = some (.slice A len c)) (hn₀ : n₀ ≤ W.heap.size) (hR : R W) (h0 : J [] W) :
    CallsIn Fence.wide n Tryd.prog 143 #[.func (.yield l) #[] #[], .pointer (some ⟨bp, 0, none⟩)] W fun e W' => (∃ v, e = .returned v) ∧
      ((∃ ys, ys = mks zs ∧ J ys W') ∨ (∃ pre, pre <+: mks zs ∧ Jx pre W')) := by
  have HL := Lib.hid hl
  have HOK := Lib.hid (fun (k : Nat) (p : P3) (hp : zs[k]? = some p) => hok p (List.mem_of_getElem? hp))
  have HFR := Lib.hid (fun (k : Nat) (p : P3) (hp : zs[k]? = some p) (j : Nat) (hj : j ≤ prN p) => frs_lt hp hj)
  have HZ0 := Lib.hid (show mks (zs.take 0) = [] by simp [mks])
  clear hl hok
  refine callsIn_of_wp Tryd.func143 rfl trivial ?_ rfl
  simp only [Tryd.ntmps143, List.size_toArray, List.length_cons, List.length_nil, Nat.reduceAdd, Nat.reduceSub, Array.replicate_succ, Array.replicate_zero, List.push_toArray, List.append_toArray, List.nil_append, List.cons_append]
  gi_wp2
  gi_loopw [8] (fun i wr => ∃ k : Nat, k ≤ len ∧ i = .int .i64 k ∧ Hid (J (mks (zs.take k)) wr) ∧ Hid (R wr) ∧ n₀ ≤ wr.heap.size)
    (fun i wr => len - (intOf i).toNat)
  case atStart => exact ⟨0, by omega, rfl, by rw [HZ0.out]; exact Lib.hid h0, Lib.hid hR, hn₀⟩
  case round =>
    obtain ⟨k, hk, rfl, HJ, HR, hsz⟩ := hrel
    by_cases hlt : k < len
    · obtain ⟨z, hz⟩ := some_at (l := zs) (k := k) (by rw [HL.out]; exact hlt)
      obtain ⟨a, ho, ha⟩ := HOK.out k z hz
      obtain ⟨e1, e2⟩ := prN_is ho
      obtain ⟨p1, p2, p3, p4, -⟩ := (ptOk_iff _ _).1 ho
      have HT := Lib.hid (mks_take hz)
      have HFZ := Lib.hid (HFR.out k z hz)
      obtain ⟨g, o, rfl, x0, x1, x2⟩ := hRR _ HR.out _ _ hz
      obtain ⟨za, zb, zc⟩ := z
      simp only at *
      subst p1
      clear hz ho
      have hNl : (prN (za, zb, zc) : Int) ≤ 10000 := by
        have hm := Int.mul_le_mul_of_nonneg_right (show (1 : Int) ≤ zc by omega) (show (0 : Int) ≤ (prN (za, zb, zc) : Int) by omega)
        omega
      have HE1 := Lib.hid e1
      have HTF := Lib.hid (frs_all (za, zb, zc))
      clear e1
      generalize prN (za, zb, zc) = N at *
      gi_wp2
      clear x0 x1 x2
      have hnew := World.alloc_heap_new wr (.cells #[.int .i64 za, .int .i64 zb, .int .i64 zc] 39)
      have HSTART := Lib.hid (hJ _ _ (.cells #[.int .i64 za, .int .i64 zb, .int .i64 zc] 39) HJ.out)
      have HRS := Lib.hid (hRA _ (.cells #[.int .i64 za, .int .i64 zb, .int .i64 zc] 39) HR.out)
      have hbs0 := hsz
      have hszS : n₀ ≤ (wr.alloc (.cells #[.int .i64 za, .int .i64 zb, .int .i64 zc] 39)).heap.size := by simp; omega
      clear HJ HR
      generalize wr.alloc (.cells #[.int .i64 za, .int .i64 zb, .int .i64 zc] 39) = W0 at *
      generalize wr.heap.size = bs at *
      gi_loopw [5] (fun m wr2 => ∃ j : Nat, j ≤ N ∧ m = .int .i64 (za + zc * (j : Int)) ∧ Hid (J (mks (zs.take k) ++ frs (za, zb, zc) j) wr2) ∧ Hid (R wr2) ∧ n₀ ≤ wr2.heap.size ∧ wr2.heap[bs]? = some (.cells #[.int .i64 za, .int .i64 zb, .int .i64 zc] 39 (0, 0)))
        (fun m _ => (zb - intOf m).toNat)
      case atStart => exact ⟨0, by omega, by simp, Lib.hid (by simpa [frs] using HSTART.out), HRS, hszS, hnew⟩
      case round =>
        obtain ⟨j, hj, rfl, HJ2, HR2, hsz2, hbl⟩ := hrel
        have y0 : _ := cell_of_row wr bs 0 _ _ _ hbl
        have y1 : _ := cell_of_row wr bs 1 _ _ _ hbl
        have y2 : _ := cell_of_row wr bs 2 _ _ _ hbl
        simp at y0 y1 y2
        by_cases hltj : j < N
        · have hm := Int.mul_le_mul_of_nonneg_left (show ((j : Int) + 1) ≤ (N : Int) by omega) (show 0 ≤ zc by omega)
          rw [Int.mul_add, Int.mul_one] at hm
          have h0' : 0 ≤ zc * (j : Int) := Int.mul_nonneg (by omega) (by omega)
          have hq : za + zc * (j : Int) + zc ≤ zb := by have := HE1.out; omega
          have HS := Lib.hid (frs_succ (za, zb, zc) j)
          have HJJ := Lib.hid (show za + zc * ((j + 1 : Nat) : Int) = za + zc * (j : Int) + zc by rw [Int.natCast_add, Int.mul_add]; simp; omega)
          simp only at HS
          obtain ⟨fn, tmps, assign, body, hy, hR⟩ := hY (mks (zs.take k) ++ frs (za, zb, zc) j) (za + zc * (j : Int)) wr HJ2.out (by rw [List.append_assoc, ← HS.out]; exact (HFZ.out (j + 1) hltj).1)
          have HY := Lib.hid hR
          have HPX := Lib.hid (HFZ.out (j + 1) hltj).1
          clear hR hm
          generalize zc * (j : Int) = q at *
          gi_wp2
          refine HY.out.mono ?_
          rintro e W3 (⟨rfl, hJ3, hk3⟩ | ⟨rfl, hJx3⟩)
          · have hbl3 := (hKB _ _ _ _ hbs0 hk3 hbl).trans hbl
            have HR3 := Lib.hid (hRK _ _ HR2.out hk3)
            have hsz3 : n₀ ≤ W3.heap.size := Nat.le_trans hsz2 (hKS _ _ hk3)
            have HJ3 := Lib.hid hJ3
            have z2 : _ := cell_of_row W3 bs 2 _ _ _ hbl3
            simp at z2
            clear hJ3 hk3
            gi_wp2
            go_roundw
            case rel => exact ⟨j + 1, by omega, by rw [HJJ.out], by rw [HS.out, ← List.append_assoc]; exact HJ3, HR3, hsz3, hbl3⟩
            case measure => simp [intOf]; omega
          · gi_wp2
            refine bodyPost_ret (results_none rfl _ _ _) rfl ?_
            exact ⟨⟨_, rfl⟩, .inr ⟨_, by rw [List.append_assoc, ← HS.out]; exact HPX.out, hJx3⟩⟩
        · obtain rfl : j = N := by omega
          have hq : ¬ za + zc * (j : Int) < zb := by have := HE1.out; omega
          gi_wp2
          go_roundw
          case rel => exact ⟨k + 1, by omega, by go_num, by rw [HT.out, ← HTF.out]; exact HJ2, HR2, hsz2⟩
          case measure => simp [intOf]; omega
    · obtain rfl : k = len := by omega
      have HF := Lib.hid (show zs.take k = zs from List.take_of_length_le (by rw [HL.out]; omega))
      gi_wp2
      go_end0
      exact ⟨⟨_, rfl⟩, .inl ⟨_, rfl, by rw [← HF.out]; exact HJ.out⟩⟩

/-- A mark of these parts. -/
abbrev Mk (zs : List P3) := { x : Int // x ∈ mks zs }
def unM {zs : List P3} (l : List (Mk zs)) : List Int := l.map (·.1)
theorem unM_snoc {zs : List P3} (l : List (Mk zs)) (x : Mk zs) : unM (l ++ [x]) = unM l ++ [x.1] := by simp [unM]
theorem unM_len {zs : List P3} (l : List (Mk zs)) : (unM l).length = l.length := by simp [unM]
theorem marks_stops (n : Nat) (hn : 1 ≤ n) (n₀ : Nat) (A : Option Addr) (len c : Nat) (zs : List P3) (hl : zs.length = len) (hlN : len ≤ 16777216) (hok : ∀ p ∈ zs, ∃ a, ptOk a p = true ∧ 0 ≤ a) (bp : Nat) (w : World) (hb : w.cell? ⟨bp, 0, none⟩ = some (.slice A len c)) (hn₀ : n₀ ≤ w.heap.size) (hR : Rd3 39 n₀ w A zs) :
    SeqStopsK Fence.wide n Tryd.prog 143 #[.pointer (some ⟨bp, 0, none⟩)] (fun y : Mk zs => #[Value.int .i64 y.1]) (KM 39 n₀) (fun ys => unM ys = mks zs) (fun pre => unM pre <+: mks zs) (mks zs).length w := fun l J Jx W hW hJ _ hY h0 => by
  refine (marks1_in n hn n₀ (KM 39 n₀) (fun W => Rd3 39 n₀ W A zs ∧ n₀ ≤ W.heap.size) A len c zs hl hlN hok l bp (fun pre W => ∃ q : List (Mk zs), unM q = pre ∧ J q W) (fun pre W => ∃ q : List (Mk zs), unM q = pre ∧ Jx q W) ?_ (fun X Y h k => ⟨h.1.keep k, Nat.le_trans h.2 k.2.size⟩) (fun X o h => ⟨h.1.keep (KM.alloc h.2 o), by simp; omega⟩) (fun X h i p hp => h.1.at3 hp)
    (fun X Y b vs _ k hb => k.2.same _ _ hb (by simp [isT])) (fun X Y k => k.2.size) ?_ W
    ((hW.cell (p := ⟨bp, 0, none⟩) (World.block_lt_of_cell? w _ hb)).trans hb) (Nat.le_trans hn₀ hW.size) ⟨hR.keep ⟨hW.mono hn₀, hW.size, fun k o hk _ => hW.block k (Array.getElem?_eq_some_iff.1 hk).1⟩, Nat.le_trans hn₀ hW.size⟩ ⟨[], rfl, h0⟩).mono ?_
  · rintro s W o ⟨q, hq, hs⟩
    exact ⟨q, hq, hJ q W _ none hs (World.grownBy_alloc W o none) (fun r e => by cases e)⟩
  · rintro pre y W1 ⟨q, rfl, hq⟩ hp
    have hy : y ∈ mks zs := hp.subset (by simp)
    have hlen : q.length < (mks zs).length := by have := hp.length_le; rw [List.length_append, unM_len] at this; simp at this; omega
    obtain ⟨fn, tmps, assign, body, h1, h2⟩ := hY q ⟨y, hy⟩ W1 hq hlen
    refine ⟨fn, tmps, assign, body, h1, h2.mono ?_⟩
    rintro e W' (⟨rfl, h3, h4⟩ | ⟨rfl, h3⟩)
    · exact .inl ⟨rfl, ⟨_, unM_snoc q ⟨y, hy⟩, h3⟩, h4⟩
    · exact .inr ⟨rfl, ⟨_, unM_snoc q ⟨y, hy⟩, h3⟩⟩
  · rintro e W' ⟨hv, (⟨ys, rfl, q, h1, h2⟩ | ⟨pre, hp, q, rfl, h2⟩)⟩
    · exact ⟨hv, .inl ⟨q, h1, h2⟩⟩
    · exact ⟨hv, .inr ⟨q, hp, h2⟩⟩

/-- Parts at an address, in a block that is none of a list. -/
def RdX (bs : List Nat) (W : World) (A : Option Addr) (zs : List P3) : Prop :=
  ∀ k (h : k < (cells3 zs).length), ∃ g o : Nat, A = some ⟨g, o, none⟩ ∧ W.cell? ⟨g, o + k, none⟩ = some (cells3 zs)[k] ∧ g ∉ bs
theorem RdX.keep {bs : List Nat} {W W' : World} {A : Option Addr} {zs : List P3} (h : RdX bs W A zs) (hk : Kx bs W W') : RdX bs W' A zs := fun k hk' => by
  obtain ⟨g, o, e, hc, hg⟩ := h k hk'
  exact ⟨g, o, e, (World.cell?_of_block (hk.same g (World.block_lt_of_cell? W _ hc) hg)).trans hc, hg⟩
theorem RdX.at3 {bs : List Nat} {W : World} {A : Option Addr} {zs : List P3} (h : RdX bs W A zs) {i : Nat} {p : P3} (hp : zs[i]? = some p) :
    ∃ g o : Nat, A = some ⟨g, o, none⟩ ∧ W.cell? ⟨g, o + i * 3, none⟩ = some (vi p.1) ∧ W.cell? ⟨g, o + i * 3 + 1, none⟩ = some (vi p.2.1) ∧ W.cell? ⟨g, o + i * 3 + 2, none⟩ = some (vi p.2.2) := by
  have hr : Reads W W.heap.size A (cells3 zs) := fun k hk => by
    obtain ⟨g, o, e, hc, -⟩ := h k hk
    exact ⟨g, o, e, World.block_lt_of_cell? W _ hc, hc⟩
  obtain ⟨g, o, e, -, x⟩ := hr.at3 hp
  exact ⟨g, o, e, x⟩
/-- The iterator, for loop bodies that write into blocks of a list alone. -/
theorem marksX (n : Nat) (hn : 1 ≤ n) (A : Option Addr) (len c : Nat) (zs : List P3) (hl : zs.length = len) (hlN : len ≤ 16777216) (hok : ∀ p ∈ zs, ∃ a, ptOk a p = true ∧ 0 ≤ a) (bp : Nat) (w : World) (bs : List Nat) (hb : w.cell? ⟨bp, 0, none⟩ = some (.slice A len c)) (hR : RdX bs w A zs) :
    SeqX Fence.wide n Tryd.prog 143 #[.pointer (some ⟨bp, 0, none⟩)] (fun y : Mk zs => #[Value.int .i64 y.1]) bs (fun ys => unM ys = mks zs) (fun pre => unM pre <+: mks zs) (mks zs).length w := fun l J Jx W hW hbs hJ _ hY h0 => by
  refine (marks1_in n hn W.heap.size (Kx bs) (fun W => RdX bs W A zs) A len c zs hl hlN hok l bp (fun pre W => ∃ q : List (Mk zs), unM q = pre ∧ J q W) (fun pre W => ∃ q : List (Mk zs), unM q = pre ∧ Jx q W) ?_ (fun X Y h k => h.keep k) (fun X o h => h.keep (Kx.grown (World.grownBy_alloc X o none) (fun r e => by cases e))) (fun X h i p hp => h.at3 hp)
    (fun X Y b vs h1 k hb => k.same b (Array.getElem?_eq_some_iff.1 hb).1 (fun e => by have := hbs b e; omega)) (fun X Y k => k.size) ?_ W
    ((hW.cell (p := ⟨bp, 0, none⟩) (World.block_lt_of_cell? w _ hb)).trans hb) (Nat.le_refl _) (hR.keep (Kx.of_below hW)) ⟨[], rfl, h0⟩).mono ?_
  · rintro s W o ⟨q, hq, hs⟩
    exact ⟨q, hq, hJ.alloc o hs⟩
  · rintro pre y W1 ⟨q, rfl, hq⟩ hp
    have hy : y ∈ mks zs := hp.subset (by simp)
    have hlen : q.length < (mks zs).length := by have := hp.length_le; rw [List.length_append, unM_len] at this; simp at this; omega
    obtain ⟨fn, tmps, assign, body, h1, h2⟩ := hY q ⟨y, hy⟩ W1 hq hlen
    refine ⟨fn, tmps, assign, body, h1, h2.mono ?_⟩
    rintro e W' ⟨(⟨rfl, h3⟩ | ⟨rfl, h3⟩), h4⟩
    · exact .inl ⟨rfl, ⟨_, unM_snoc q ⟨y, hy⟩, h3⟩, h4⟩
    · exact .inr ⟨rfl, ⟨_, unM_snoc q ⟨y, hy⟩, h3⟩⟩
  · rintro e W' ⟨hv, (⟨ys, rfl, q, h1, h2⟩ | ⟨pre, hp, q, rfl, h2⟩)⟩
    · exact ⟨hv, .inl ⟨q, h1, h2⟩⟩
    · exact ⟨hv, .inr ⟨q, hp, h2⟩⟩

theorem boxed_gr {W W' : World} {B : Nat} {t : TypeId} {v : Value} (h : Boxed W B t v) (hg : Gr W W') : Boxed W' B t v := (hg.below.block B h.lt).trans h
theorem KO_gr {W W' : World} (h : Gr W W') : KeepsOthers W W' := ⟨h.below.size, fun k o hk _ => (h.below.block k (Array.getElem?_eq_some_iff.1 hk).1).trans hk⟩
/-- A round that ends in a store into a box of the caller's. -/
theorem round_set {T : TypeId} {n₀ : Nat} {W W1 : World} {B : Nat} {t : TypeId} {v : Value} (hg : Gr W W1) (h : Boxed W B t v) (ht : (t == T) = false) (hn : n₀ ≤ W.heap.size) (hB : n₀ ≤ B) (u : Value) :
    KeepsOthers W (W1.setCell ⟨B, 0, none⟩ u) ∧ KM T n₀ W (W1.setCell ⟨B, 0, none⟩ u) ∧ Boxed (W1.setCell ⟨B, 0, none⟩ u) B t u :=
  ⟨(KO_gr hg).trans (KeepsOthers.setCell _ _ _), (KM.gr hn hg).t ⟨(Below.refl _ _).setCell (p := ⟨B, 0, none⟩) hB _, KeepsT.set (boxed_gr h hg) ht u⟩, (boxed_gr h hg).set u⟩
/-- A round that appends to a list in a box keeps the blocks of another type. -/
theorem appended_T {T : TypeId} {W w1 : World} {n₀ B : Nat} {t e : TypeId} {size : Nat} {v v' : Value} {k : Nat} {xs : List Value} {tmp : Obj}
    (hv : Boxed W B t v) (hte : t ≠ e) (hrow : W.ownsRow n₀ e size v k xs) (hgrow : (W.alloc tmp).grownBy w1 v.ownBlock) (h1 : (t == T) = false) (h2 : (e == T) = false) : KeepsT T W (w1.setCell ⟨B, 0, none⟩ v') := by
  have hv1 : Boxed w1 B t v := (hv.alloc tmp).kept hgrow (hv.not_row hte hrow)
  refine ((KeepsT.alloc T W tmp).trans (KeepsT.grown hgrow fun j ej => ?_)).trans (KeepsT.set hv1 h1 v')
  rcases (hrow.alloc tmp).2 with ⟨rfl, _⟩ | ⟨g, cap, cur, rfl, _, hgb, _⟩
  · simp [Value.ownBlock] at ej
  · obtain rfl : g = j := by simpa [Value.ownBlock] using ej
    exact ⟨_, hgb, by simp only [isT]; exact h2⟩
theorem eachMark_any (A : Option Addr) (n c : Nat) (w : World) :
    Calls Tryd.prog 89 #[.slice A n c] w fun e w' => e = .returned (.func (.func 143) #[] #[.pointer (some ⟨w.heap.size, 0, none⟩)]) ∧ w' = w.alloc (.cells #[.slice A n c] 26) := by
  go_enter Tryd.func89, Tryd.ntmps89
  go_wp2
  go_ret
  exact ⟨rfl, rfl⟩
end Go.Proofs.YtggflladheemoaaDoor

/- Contracts of chapter 7: the program's nearest mark. -/
namespace Go.Proofs.YtggflladheemoaaDoor
open Go.RowKit Go.Shelf
set_option linter.unusedVariables false
set_option linter.unusedSimpArgs false
attribute [local go_sem] Oper.semAt_some

end Go.Proofs.YtggflladheemoaaDoor

/- Contracts of chapter 7: the program's marks within bounds. -/
namespace Go.Proofs.YtggflladheemoaaDoor
open Go.RowKit Go.Shelf
set_option linter.unusedVariables false
set_option linter.unusedSimpArgs false
attribute [local go_sem] Oper.semAt_some

/-- The marks in range that have come. -/
def flM {zs : List P3} (f t : Int) (l : List (Mk zs)) : List Int := (unM l).filter (inR f t)
theorem flM_snoc {zs : List P3} (f t : Int) (l : List (Mk zs)) (y : Mk zs) : flM f t (l ++ [y]) = flM f t l ++ (if inR f t y.1 = true then [y.1] else []) := by
  unfold flM
  rw [unM_snoc, List.filter_append]
  congr 1
  cases h : inR f t y.1 <;> simp [h]
set_option maxRecDepth 100000 in
set_option maxHeartbeats 4000000 in
/-- The main case: a valid graduation, bounds in their range. -/
theorem mo_impl1 (A : Option Addr) (n c : Nat) (zs : List P3) (f t : Int) (w : World) (hn : zs.length = n) (hN : n ≤ 16777216) (hA : Reads w w.heap.size A (cells3 zs)) (hW : Wf3 zs) (hv : gd zs = true) (hd : decide (1000 ≤ f ∧ f ≤ 9999) = true) (hd2 : decide (1000 ≤ t ∧ t ≤ 9999) = true) :
    Calls Tryd.prog 102 #[.slice A n c, .int .i64 f, .int .i64 t] w fun e w' => (∃ v, e = .returned (.tuple #[v, .int .i64 (mrC zs f t)]) ∧ Lst w' w.heap.size v (moL zs f t)) ∧ Below w.heap.size w w' := by
  have HG := Lib.hid (fun W (hg : Gr w W) => gd_impl A n c zs W hn hN (hA.gr hg) hW)
  rw [hv] at HG
  have HD1 := Lib.hid (fun W => areDigits_any f W)
  have HD2 := Lib.hid (fun W => areDigits_any t W)
  rw [hd] at HD1
  rw [hd2] at HD2
  have HR := Lib.hid (fun W (hg : Gr w W) => (Rd3.of_reads (T := 39) hA).keep (KM.gr (Nat.le_refl _) hg))
  have HOK := Lib.hid (fun p hp => (gd_parts hv p hp).imp fun a (h : ptOk a p = true ∧ 1000 ≤ a) => (And.intro h.1 (show 0 ≤ a by omega)))
  have HM := Lib.hid (mks_facts hv)
  have HMR := Lib.hid (show mrC zs f t = if 200 < (mrL zs f t).length then 3 else 0 by unfold mrC; rw [if_neg (by rw [hv]; simp), if_neg (by unfold inR; rw [hd, hd2]; simp)])
  have HL := Lib.hid hn
  obtain ⟨i0, hi, hz0, hz1, hz2⟩ := info_parts info_i7
  clear hA hW hv hd hd2 hn
  refine (callsIn_wide (n := 5)).1 ?_
  refine callsIn_of_wp_marks Tryd.func102 rfl trivial ?_ rfl
  simp only [Tryd.ntmps102, List.size_toArray, List.length_cons, List.length_nil, Nat.reduceAdd, Nat.reduceSub, Array.replicate_succ, Array.replicate_zero, List.push_toArray, List.append_toArray, List.nil_append, List.cons_append]
  gi_wp2_with (first
    | (refine ⟨trivial, ?_⟩; gi_at_call 22; refine (callsIn_wide.2 (HG.out _ (by repeat (first | with_reducible exact Gr.refl _ | with_reducible refine Gr.alloc ?_ _ | with_reducible refine Gr.gr ?_ _ _ | with_reducible refine Gr.drew ?_ | with_reducible refine Gr.drewN ?_ _)))).mono ?_; rintro e w' ⟨rfl, kk, os, rfl⟩)
    | (refine ⟨trivial, ?_⟩; gi_at_call 110; with_reducible refine (callsIn_wide.2 (HD1.out _)).mono ?_; rintro e w' ⟨rfl, rfl⟩)
    | (refine ⟨trivial, ?_⟩; gi_at_call 110; with_reducible refine (callsIn_wide.2 (HD2.out _)).mono ?_; rintro e w' ⟨rfl, rfl⟩)
    | (refine ⟨trivial, ?_⟩; gi_at_call 89; refine (callsIn_wide.2 (eachMark_any _ _ _ _)).mono ?_; rintro e w' ⟨rfl, rfl⟩))
  have bF := (((Boxed.new w 2 (.int .i64 f)).alloc (.cells #[.int .i64 t] 2)).alloc (.cells #[.slice none 0 0] 52)).alloc (.cells #[.int .i64 0] 2)
  have bT := ((Boxed.new (w.alloc (.cells #[.int .i64 f] 2)) 2 (.int .i64 t)).alloc (.cells #[.slice none 0 0] 52)).alloc (.cells #[.int .i64 0] 2)
  have bA := (Boxed.new ((w.alloc (.cells #[.int .i64 f] 2)).alloc (.cells #[.int .i64 t] 2)) 52 (.slice none 0 0)).alloc (.cells #[.int .i64 0] 2)
  have bC := Boxed.new (((w.alloc (.cells #[.int .i64 f] 2)).alloc (.cells #[.int .i64 t] 2)).alloc (.cells #[.slice none 0 0] 52)) 2 (.int .i64 0)
  have G1 : Gr w ((((w.alloc (.cells #[.int .i64 f] 2)).alloc (.cells #[.int .i64 t] 2)).alloc (.cells #[.slice none 0 0] 52)).alloc (.cells #[.int .i64 0] 2)) := (by repeat (first | with_reducible exact Gr.refl _ | with_reducible refine Gr.alloc ?_ _ | with_reducible refine Gr.gr ?_ _ _ | with_reducible refine Gr.drew ?_ | with_reducible refine Gr.drewN ?_ _))
  simp only [World.size_alloc] at bT bA bC
  generalize (((w.alloc (.cells #[.int .i64 f] 2)).alloc (.cells #[.int .i64 t] 2)).alloc (.cells #[.slice none 0 0] 52)).alloc (.cells #[.int .i64 0] 2) = V1 at *
  replace bF := boxed_gr bF ⟨kk, os, rfl⟩
  replace bT := boxed_gr bT ⟨kk, os, rfl⟩
  replace bA := boxed_gr bA ⟨kk, os, rfl⟩
  replace bC := boxed_gr bC ⟨kk, os, rfl⟩
  replace G1 := G1.trans ⟨kk, os, rfl⟩
  generalize gr V1 kk os = W1 at *
  have hs1 := bC.lt
  have O1 : Lst (W1.alloc (.cells #[] 2)) W1.heap.size (.slice (some ⟨W1.heap.size, 0, none⟩) 0 0) [] := World.ownsRow_made W1 #[] 0 (Nat.le_refl _) (Nat.zero_le _) rfl
  have bL := (Boxed.new (W1.alloc (.cells #[] 2)) 52 (.slice (some ⟨W1.heap.size, 0, none⟩) 0 0)).alloc (.cells #[.slice A n c] 26)
  have bP := (Boxed.new ((W1.alloc (.cells #[] 2)).alloc (.cells #[.slice (some ⟨W1.heap.size, 0, none⟩) 0 0] 52)) 26 (.slice A n c)).cell
  have G2 := ((G1.alloc (.cells #[] 2)).alloc (.cells #[.slice (some ⟨W1.heap.size, 0, none⟩) 0 0] 52)).alloc (.cells #[.slice A n c] 26)
  have hs2 : (((W1.alloc (.cells #[] 2)).alloc (.cells #[.slice (some ⟨W1.heap.size, 0, none⟩) 0 0] 52)).alloc (.cells #[.slice A n c] 26)).heap.size = W1.heap.size + 1 + 1 + 1 := by simp
  have O2 := (O1.alloc (.cells #[.slice (some ⟨W1.heap.size, 0, none⟩) 0 0] 52)).alloc (.cells #[.slice A n c] 26)
  replace bF := ((bF.alloc (.cells #[] 2)).alloc (.cells #[.slice (some ⟨W1.heap.size, 0, none⟩) 0 0] 52)).alloc (.cells #[.slice A n c] 26)
  replace bT := ((bT.alloc (.cells #[] 2)).alloc (.cells #[.slice (some ⟨W1.heap.size, 0, none⟩) 0 0] 52)).alloc (.cells #[.slice A n c] 26)
  replace bA := ((bA.alloc (.cells #[] 2)).alloc (.cells #[.slice (some ⟨W1.heap.size, 0, none⟩) 0 0] 52)).alloc (.cells #[.slice A n c] 26)
  replace bC := ((bC.alloc (.cells #[] 2)).alloc (.cells #[.slice (some ⟨W1.heap.size, 0, none⟩) 0 0] 52)).alloc (.cells #[.slice A n c] 26)
  simp only [World.size_alloc] at bL bP
  clear O1 G1
  generalize ((W1.alloc (.cells #[] 2)).alloc (.cells #[.slice (some ⟨W1.heap.size, 0, none⟩) 0 0] 52)).alloc (.cells #[.slice A n c] 26) = W0 at *
  generalize W1.heap.size = S at *
  generalize hb1 : w.heap.size + 1 = b1 at *
  generalize hb2 : b1 + 1 = b2 at *
  generalize hb3 : b2 + 1 = b3 at *
  generalize hbl : S + 1 = bl at *
  generalize hbp : bl + 1 = bp at *
  have HCM := Lib.hid (show mrC zs f t = if 200 < (mrL zs f t).length then 3 else 0 from HMR.out)
  clear HMR
  refine wpIn_rangeFunc_ownF rfl (by omega) (gf := 143) (lb := #[.pointer (some ⟨bp, 0, none⟩)]) rfl trivial (enters_of Tryd.func143 (by kernel_rfl) rfl)
    (marks_stops (5 - 1) (by omega) w.heap.size A n c zs HL.out hN HOK.out bp W0 bP (by omega) (HR.out _ G2)) KM.t (KM.b (by omega)) (Below.refl _ _) (fun _ => rfl)
    (fun pre W => ((((Boxed W w.heap.size 2 (.int .i64 f) ∧ Boxed W b1 2 (.int .i64 t)) ∧ (Boxed W b2 52 (.slice none 0 0) ∧ Boxed W b3 2 (.int .i64 0))) ∧
      (∃ v, Boxed W bl 52 v ∧ W.ownsRow S 2 1 v (flM f t pre).length ((flM f t pre).map vi) ∧ ((flM f t pre).length ≤ 200 ∧ ∃ A1 c1, v = .slice A1 (flM f t pre).length c1))) ∧ Below S W0 W) ∧ Below w.heap.size w W)
    (fun cd pre W => ((cd = .ret ∧ 200 < (flM f t pre).length) ∧ (Boxed W b2 52 (.slice none 0 0) ∧ Boxed W b3 2 (.int .i64 3))) ∧ Below w.heap.size w W)
    (OwnFrom.and (OwnFrom.and (OwnFrom.and (OwnFrom.and (OwnFrom.and (Own.from (boxed_own _ _ (fun _ => .int .i64 f)) _) (Own.from (boxed_own _ _ (fun _ => .int .i64 t)) _)) (OwnFrom.and (Own.from (boxed_own _ _ (fun _ => .slice none 0 0)) _) (Own.from (boxed_own _ _ (fun _ => .int .i64 0)) _))) (Own.from (holdsRow_own S bl 52 2 1 (fun pre => (flM f t pre).length) (fun pre => (flM f t pre).map vi) (fun pre v => (flM f t pre).length ≤ 200 ∧ ∃ A1 c1, v = .slice A1 (flM f t pre).length c1)) _)) (ownFrom_below (by omega) (by omega))) (ownFrom_below (Nat.le_refl _) (by omega)))
    (fun cd => OwnFrom.and (OwnFrom.and (ownFrom_pure _ _) (OwnFrom.and (Own.from (boxed_own _ _ (fun _ => .slice none 0 0)) _) (Own.from (boxed_own _ _ (fun _ => .int .i64 3)) _))) (ownFrom_below (Nat.le_refl _) (by omega)))
    ⟨⟨⟨⟨⟨bF, bT⟩, bA, bC⟩, _, bL, O2, by simp [flM, unM], _, _, rfl⟩, Below.refl _ _⟩, G2.below⟩
    (fun y => { tmps := #[.slice A n c, .int .i64 f, .int .i64 t, undef, .pointer (some ⟨w.heap.size, 0, none⟩), .pointer (some ⟨b1, 0, none⟩), .pointer (some ⟨b2, 0, none⟩), .pointer (some ⟨b3, 0, none⟩), .pointer (some ⟨bl, 0, none⟩), .int .i64 y.1, .slice A n c, .bool true, .bool false, .int .i64 f, .bool true, .bool false, .bool false, .int .i64 t, .bool true, .bool false, .bool false, .slice (some ⟨S, 0, none⟩) 0 0, .slice A n c, .func (.func 143) #[] #[.pointer (some ⟨bp, 0, none⟩)], .int .i64 y.1, undef, undef, undef, undef, undef, undef, undef, undef, undef, undef, undef, undef, undef, undef, undef, undef], defers := [] }) ?assign ?body ?done ?stop
  case assign =>
    intro l y W K hK
    gi_wp2
    exact hK
  case body =>
    rintro l pre y W ⟨⟨⟨⟨⟨x1, x2⟩, x3, x4⟩, v, x5, hrow, h200, A1, c1, rfl⟩, hB0⟩, hB⟩ hlen
    have y1 := HM.out.2.1 y.1 y.2
    have HT := Lib.hid (flM_snoc f t pre y)
    have k1 := x1.cell
    have k2 := x2.cell
    have k3 := x3.cell
    have k4 := x4.cell
    have k5 := x5.cell
    have f3 := x3.frozen
    have f4 := x4.frozen
    have f5 := x5.frozen
    have hszW := hB0.size
    generalize hF : flM f t pre = F at *
    obtain ⟨y, hy⟩ := y
    simp only at *
    by_cases q1 : y < f
    · have hc : inR f t y = false := decide_eq_false (by omega)
      rw [hc, if_neg (by simp), List.append_nil] at HT
      gi_wp2
      exact ⟨KeepsOthers.refl _, KM.refl _ _ _, ⟨⟨⟨⟨x1, x2⟩, x3, x4⟩, _, x5, by rw [HT.out]; exact hrow, by rw [HT.out]; exact h200, _, _, by rw [HT.out]⟩, hB0⟩, hB⟩
    by_cases q2 : t < y
    · have hc : inR f t y = false := decide_eq_false (by omega)
      rw [hc, if_neg (by simp), List.append_nil] at HT
      gi_wp2
      exact ⟨KeepsOthers.refl _, KM.refl _ _ _, ⟨⟨⟨⟨x1, x2⟩, x3, x4⟩, _, x5, by rw [HT.out]; exact hrow, by rw [HT.out]; exact h200, _, _, by rw [HT.out]⟩, hB0⟩, hB⟩
    have hc : inR f t y = true := decide_eq_true (by omega)
    rw [hc, if_pos rfl] at HT
    clear hc hF
    by_cases q3 : F.length = 200
    · have hne : b2 ≠ b3 := by omega
      gi_wp2
      exact ⟨(KeepsOthers.setCell _ _ _).trans (KeepsOthers.setCell _ _ _), ⟨⟨rfl, by rw [HT.out, List.length_append]; simp; omega⟩, (x3.set (.slice none 0 0)).other hne _, (x4.other hne.symm (.slice none 0 0)).set _⟩, (hB.setCell (p := ⟨b2, 0, none⟩) (by simp; omega) _).setCell (p := ⟨b3, 0, none⟩) (by simp; omega) _⟩
    · have hlt : F.length < 200 := by omega
      gi_wp2_with (gi_at_builtin; refine wpListIn_append_own _ rfl _ _ 52 rfl S 2 i0 (.int .i64 0) 1 8 Tryd.underlying52 hi hz0 hz1 hz2 rfl (by decide) _ _ _ rfl (hrow.alloc _) ⟨W.heap.size, 0, none⟩ 1 1 [.int .i64 y] rfl rfl (cell_one_new _ _ _) (by simp [Value.oneCell']) (by unfold maxLen; omega) (by omega) (by simp; omega) ?_; intro v' w1 hown' hgrow _; obtain ⟨g', cap', rfl⟩ := ownsRow_succ hown'; obtain ⟨hv1, hv2, hr2, hk2, hb2⟩ := x5.appended (by decide) hrow (show S ≤ W.heap.size by omega) (show S ≤ bl by omega) hown' hgrow; have hkt := appended_T (T := 39) (v' := .slice (some ⟨g', 0, none⟩) (F.length + 1) cap') x5 (by decide) hrow hgrow (by decide) (by decide); have hc1 := hv1.cell; have hf1 := hv1.frozen)
      exact ⟨hk2, ⟨hb2.mono (by omega), hkt⟩, ⟨⟨⟨⟨(hb2.block _ (by omega)).trans x1, (hb2.block _ (by omega)).trans x2⟩, (hb2.block _ (by omega)).trans x3, (hb2.block _ (by omega)).trans x4⟩, _, hv2, by rw [HT.out]; simpa using hr2, by rw [HT.out]; simp; omega, some ⟨g', 0, none⟩, cap', by rw [HT.out]; simp⟩, hB0.trans hb2⟩, hB.trans (hb2.mono (by omega))⟩
  case done =>
    rintro D ys W hD hS ⟨⟨⟨⟨⟨x1, x2⟩, x3, x4⟩, v, x5, hrow, h200, A1, c1, rfl⟩, hB0⟩, hB⟩ hK
    have hF : flM f t ys = mrL zs f t := by unfold flM; rw [hS]; rfl
    rw [hF] at h200 hrow x5
    have HC := Lib.hid (show mrC zs f t = 0 ∧ moL zs f t = mrL zs f t by
      have e : mrC zs f t = 0 := by rw [HCM.out, if_neg (by omega)]
      exact ⟨e, by unfold moL; rw [if_pos e]⟩)
    clear hF
    generalize mrL zs f t = F at *
    have k5 := x5.cell
    have k3 := x3.cell
    have k4 := x4.cell
    have f3 := x3.frozen
    have f4 := x4.frozen
    have hne : b2 ≠ b3 := by omega
    have HO := Lib.hid hrow
    have hK2 := ((KeepsOthers.setCell W ⟨b2, 0, none⟩ (.slice A1 F.length c1)).trans (KeepsOthers.setCell _ ⟨b3, 0, none⟩ (.int .i64 0))).same D _ hK rfl
    gi_wp2
    refine ⟨by simp, .inl ⟨_, _, rfl, run_takeDeferred hK2, ?_⟩⟩
    have z3 := cell_kept ((x3.set (.slice A1 F.length c1)).other hne (.int .i64 0)).cell (grownBy_putObj' _ D (.deferred none)) (fun r e => by cases e; exact ⟨_, hK2, rfl⟩)
    have z4 := cell_kept ((x4.other hne.symm (.slice A1 F.length c1)).set (.int .i64 0)).cell (grownBy_putObj' _ D (.deferred none)) (fun r e => by cases e; exact ⟨_, hK2, rfl⟩)
    have hB2 := ((hB.setCell (p := ⟨b2, 0, none⟩) (by simp; omega) (.slice A1 F.length c1)).setCell (p := ⟨b3, 0, none⟩) (by simp; omega) (.int .i64 0))
    have hO2 := (HO.out.kept (grownBy_setCell' W b2 (.slice A1 F.length c1)) (.inr (fun e => by have := (HO.out.lt _ e).1; omega))).kept (grownBy_setCell' _ b3 (.int .i64 0)) (.inr (fun e => by have := (HO.out.lt _ e).1; omega))
    exact ⟨.tuple #[.slice A1 F.length c1, .int .i64 0], by simp [results, Tryd.results102, go_sem, z3, z4], ⟨_, by rw [HC.out.1], by rw [HC.out.2]; exact World.ownsRow.mono (ownsRow_putObj hO2 _ hK2 rfl) (by omega)⟩, hB2.trans (belowK_b (w := w) (Nat.le_refl _) _ D _ _ (by omega) hK2 rfl rfl)⟩
  case stop =>
    rintro D cd pre W hD hS ⟨⟨⟨rfl, h⟩, x3, x4⟩, hB⟩ hK
    have hlt : 200 < (mrL zs f t).length := by
      have h1 : flM f t pre <+: mrL zs f t := by
        obtain ⟨r, hr⟩ := hS
        exact ⟨r.filter (inR f t), by unfold flM mrL; rw [← hr, List.filter_append]⟩
      have := h1.length_le
      omega
    have HC := Lib.hid (show mrC zs f t = 3 ∧ moL zs f t = [] by
      have e : mrC zs f t = 3 := by rw [HCM.out, if_pos hlt]
      exact ⟨e, by unfold moL; rw [if_neg (by omega)]⟩)
    have z3 := cell_kept x3.cell (grownBy_putObj' _ D (.deferred none)) (fun r e => by cases e; exact ⟨_, hK, rfl⟩)
    have z4 := cell_kept x4.cell (grownBy_putObj' _ D (.deferred none)) (fun r e => by cases e; exact ⟨_, hK, rfl⟩)
    gi_wp2
    refine ⟨by simp, .inl ⟨_, _, rfl, run_takeDeferred hK, ?_⟩⟩
    exact ⟨.tuple #[.slice none 0 0, .int .i64 3], by simp [results, Tryd.results102, go_sem, z3, z4], ⟨_, by rw [HC.out.1], by rw [HC.out.2]; exact World.ownsRow_nil _ _ _ _⟩, hB.trans (belowK_b (w := w) (Nat.le_refl _) _ D _ _ (by omega) hK rfl rfl)⟩

set_option maxRecDepth 100000 in
set_option maxHeartbeats 2000000 in
theorem mo_impl (A : Option Addr) (n c : Nat) (zs : List P3) (f t : Int) (w : World) (hn : zs.length = n) (hN : n ≤ 16777216) (hA : Reads w w.heap.size A (cells3 zs)) (hW : Wf3 zs) :
    Calls Tryd.prog 102 #[.slice A n c, .int .i64 f, .int .i64 t] w fun e w' => (∃ v, e = .returned (.tuple #[v, .int .i64 (mrC zs f t)]) ∧ Lst w' w.heap.size v (moL zs f t)) ∧ Below w.heap.size w w' := by
  have HG := Lib.hid (fun W (hg : Gr w W) => gd_impl A n c zs W hn hN (hA.gr hg) hW)
  have HD1 := Lib.hid (fun W => areDigits_any f W)
  have HD2 := Lib.hid (fun W => areDigits_any t W)
  have HNIL := Lib.hid (fun W => World.ownsRow_nil W w.heap.size 2 1)
  rcases Bool.eq_false_or_eq_true (gd zs) with hv | hv
  rotate_left
  · have HC := Lib.hid (show mrC zs f t = 1 ∧ moL zs f t = [] by
      have e : mrC zs f t = 1 := by unfold mrC; rw [if_pos hv]
      exact ⟨e, by unfold moL; rw [if_neg (by omega)]⟩)
    rw [hv] at HG
    clear hv hA hn
    go_enter Tryd.func102, Tryd.ntmps102
    go_wp2_with (go_at_call 22; refine (HG.out _ (by repeat (first | with_reducible exact Gr.refl _ | with_reducible refine Gr.alloc ?_ _ | with_reducible refine Gr.gr ?_ _ _ | with_reducible refine Gr.drew ?_ | with_reducible refine Gr.drewN ?_ _))).mono ?_; rintro e w' ⟨rfl, kk, os, rfl⟩)
    ((try simp only [Exit.inBlock, Exit.then]); refine bodyPost_ret (v := .tuple #[.slice none 0 0, .int .i64 1]) (by simp [results, Tryd.results102, go_sem]) rfl ?_)
    exact ⟨⟨_, by rw [HC.out.1], by rw [HC.out.2]; exact HNIL.out _⟩, Gr.below (by repeat (first | with_reducible exact Gr.refl _ | with_reducible refine Gr.alloc ?_ _ | with_reducible refine Gr.gr ?_ _ _ | with_reducible refine Gr.drew ?_ | with_reducible refine Gr.drewN ?_ _))⟩
  rw [hv] at HG
  have hr : ∀ (h : inR 1000 9999 f = false ∨ inR 1000 9999 t = false), mrC zs f t = 2 ∧ moL zs f t = [] := fun h => by
    have e : mrC zs f t = 2 := by unfold mrC; rw [if_neg (by rw [hv]; simp), if_pos h]
    exact ⟨e, by unfold moL; rw [if_neg (by omega)]⟩
  rcases decb7 (1000 ≤ f ∧ f ≤ 9999) with hd | hd
  rotate_left
  · have HC := Lib.hid (hr (.inl hd))
    rw [hd] at HD1
    clear hr hv hd hA hn
    go_enter Tryd.func102, Tryd.ntmps102
    go_wp2_with (first | (go_at_call 22; refine (HG.out _ (by repeat (first | with_reducible exact Gr.refl _ | with_reducible refine Gr.alloc ?_ _ | with_reducible refine Gr.gr ?_ _ _ | with_reducible refine Gr.drew ?_ | with_reducible refine Gr.drewN ?_ _))).mono ?_; rintro e w' ⟨rfl, kk, os, rfl⟩) | (go_at_call 110; with_reducible refine (HD1.out _).mono ?_; rintro e w' ⟨rfl, rfl⟩))
    ((try simp only [Exit.inBlock, Exit.then]); refine bodyPost_ret (v := .tuple #[.slice none 0 0, .int .i64 2]) (by simp [results, Tryd.results102, go_sem]) rfl ?_)
    exact ⟨⟨_, by rw [HC.out.1], by rw [HC.out.2]; exact HNIL.out _⟩, Gr.below (by repeat (first | with_reducible exact Gr.refl _ | with_reducible refine Gr.alloc ?_ _ | with_reducible refine Gr.gr ?_ _ _ | with_reducible refine Gr.drew ?_ | with_reducible refine Gr.drewN ?_ _))⟩
  rcases decb7 (1000 ≤ t ∧ t ≤ 9999) with hd2 | hd2
  rotate_left
  · have HC := Lib.hid (hr (.inr hd2))
    rw [hd2] at HD2
    rw [hd] at HD1
    clear hr hv hd hd2 hA hn
    go_enter Tryd.func102, Tryd.ntmps102
    go_wp2_with (first | (go_at_call 22; refine (HG.out _ (by repeat (first | with_reducible exact Gr.refl _ | with_reducible refine Gr.alloc ?_ _ | with_reducible refine Gr.gr ?_ _ _ | with_reducible refine Gr.drew ?_ | with_reducible refine Gr.drewN ?_ _))).mono ?_; rintro e w' ⟨rfl, kk, os, rfl⟩) | (go_at_call 110; with_reducible refine (HD1.out _).mono ?_; rintro e w' ⟨rfl, rfl⟩) | (go_at_call 110; with_reducible refine (HD2.out _).mono ?_; rintro e w' ⟨rfl, rfl⟩))
    ((try simp only [Exit.inBlock, Exit.then]); refine bodyPost_ret (v := .tuple #[.slice none 0 0, .int .i64 2]) (by simp [results, Tryd.results102, go_sem]) rfl ?_)
    exact ⟨⟨_, by rw [HC.out.1], by rw [HC.out.2]; exact HNIL.out _⟩, Gr.below (by repeat (first | with_reducible exact Gr.refl _ | with_reducible refine Gr.alloc ?_ _ | with_reducible refine Gr.gr ?_ _ _ | with_reducible refine Gr.drew ?_ | with_reducible refine Gr.drewN ?_ _))⟩
  exact mo_impl1 A n c zs f t w hn hN hA hW hv hd hd2
end Go.Proofs.YtggflladheemoaaDoor

/- Contracts of chapter 7: the program's iterator over the distances of marks. -/
namespace Go.Proofs.YtggflladheemoaaDoor
open Go.RowKit Go.Shelf
set_option linter.unusedVariables false
set_option linter.unusedSimpArgs false
attribute [local go_sem] Oper.semAt_some

theorem middle_any (lo hi : Int) (w : World) (a1 : -1000000000 ≤ lo) (a2 : lo ≤ 1000000000) (b1 : -1000000000 ≤ hi) (b2 : hi ≤ 1000000000) :
    Calls Tryd.prog 154 #[.agg #[.int .i64 lo, .int .i64 hi]] w fun e w' => e = .returned (.int .i64 ((lo + hi).fdiv 2)) ∧ Gr w w' := by
  have HQ := Lib.hid (fun W => quotientDown_any (lo + hi) 2 W (by omega) (by omega) (by omega) (by omega) (by omega))
  go_enter Tryd.func154, Tryd.ntmps154
  go_wp2_with (go_at_call 187; refine (HQ.out _).mono ?_; rintro e w' ⟨rfl, rfl⟩)
  ((try simp only [Exit.inBlock, Exit.then]); refine bodyPost_ret (v := .int .i64 ((lo + hi).fdiv 2)) (by simp [results, Tryd.results154, go_sem]) rfl ?_)
  exact ⟨rfl, (by repeat (first | with_reducible exact Gr.refl _ | with_reducible refine Gr.alloc ?_ _ | with_reducible refine Gr.gr ?_ _ _ | with_reducible refine Gr.drew ?_ | with_reducible refine Gr.drewN ?_ _))⟩
theorem middleOf_any (y s len : Int) (w : World) (hD : Dcs w) (hfg : fg y 0 = true) (hs : sc s = true) (hln : ln len = true) :
    Calls Tryd.prog 103 #[.int .i64 y, .int .i64 s, .int .i64 len] w fun e w' => e = .returned (.int .i64 (mdl s len y)) ∧ Gr w w' := by
  obtain ⟨p1, p2, p3, p4, -⟩ := pl_bd s y 0 len hfg hln
  have HPl := Lib.hid (plR_impl s y 0 len w hD)
  rw [pl_ok s y 0 len hfg hs (fun h => h.2 rfl) hln] at HPl
  have HMd := Lib.hid (show mdl s len y = ((pl s y 0 len).1 + (pl s y 0 len).2).fdiv 2 from rfl)
  generalize pl s y 0 len = pp at *
  obtain ⟨pa, pb⟩ := pp
  simp only at HPl HMd p1 p2 p3 p4
  have HMi := Lib.hid (fun W => middle_any pa pb W (by omega) (by omega) (by omega) (by omega))
  rw [← HMd.out] at HMi
  clear hD hfg hs hln
  go_enter Tryd.func103, Tryd.ntmps103
  go_wp2_with (first | (go_at_call 153; refine (HPl.out).mono ?_; rintro e w' ⟨rfl, kk, os, rfl⟩) | (go_at_call 154; refine (HMi.out _).mono ?_; rintro e w' ⟨rfl, kk2, os2, rfl⟩))
  go_ret
  exact ⟨rfl, (by repeat (first | with_reducible exact Gr.refl _ | with_reducible refine Gr.alloc ?_ _ | with_reducible refine Gr.gr ?_ _ _ | with_reducible refine Gr.drew ?_ | with_reducible refine Gr.drewN ?_ _))⟩
theorem eachGap_any (f : Nat) (fr : Array Value) (s l : Int) (w : World) :
    Calls Tryd.prog 88 #[.func (.func f) #[] fr, .int .i64 s, .int .i64 l] w fun e w' => e = .returned (.func (.func 141) #[] #[.pointer (some ⟨w.heap.size, 0, none⟩), .pointer (some ⟨w.heap.size + 1, 0, none⟩), .pointer (some ⟨w.heap.size + 2, 0, none⟩)]) ∧
      w' = ((w.alloc (.cells #[.func (.func f) #[] fr] 97)).alloc (.cells #[.int .i64 s] 2)).alloc (.cells #[.int .i64 l] 2) := by
  go_enter Tryd.func88, Tryd.ntmps88
  go_wp2
  go_ret
  exact ⟨rfl, rfl⟩
theorem Dcs.kx {bs : List Nat} {W W' : World} (h : Dcs W) (hk : Kx bs W W') (hn : 5 ∉ bs) : Dcs W' := fun i hi =>
  (World.cell?_of_block (hk.same _ (World.block_lt_of_cell? W _ (h i hi)) hn)).trans (h i hi)
theorem abX_dcs {β : Type} {B : Nat} (hB : 5 < B) : AbX B (fun (_ : β) W => Dcs W) := fun s W W' row hs hg hr i hi =>
  (World.cell?_of_block (hg.block _ (World.block_lt_of_cell? W _ (hs i hi)) (fun e => by have := hr _ e.symm; simp at this; omega))).trans (hs i hi)
theorem lst0_mem : ∀ (L : List Int), L ≠ [] → lst0 L ∈ L
  | [], h => absurd rfl h
  | a :: r, _ => by
    have key : ∀ (r : List Int) (a : Int), lastO a r ∈ a :: r := by
      intro r
      induction r with
      | nil => intro a; simp [lastO]
      | cons b r ih => intro a; exact List.mem_cons_of_mem _ (ih b)
    exact key r a
theorem gapF_len (s l : Int) : ∀ (r : List Int) (a : Int), (gapF s l a r).length ≤ r.length
  | [], a => by simp [gapF]
  | b :: r, a => by
    have e : gapF s l a (b :: r) = gap1 s l a b ++ gapF s l b r := rfl
    rw [e, List.length_append]
    have := gapF_len s l r b
    have h1 : (gap1 s l a b).length ≤ 1 := by unfold gap1; split <;> simp
    simp; omega
theorem gapsL_len (s l : Int) (L : List Int) : (gapsL s l L).length ≤ L.length := by
  cases L with
  | nil => simp [gapsL]
  | cons a r => have := gapF_len s l r a; simp [gapsL]; omega
/-- The middle of the last mark that has come. -/
def lmM (s l : Int) (L : List Int) : Int := if L = [] then 0 else mdl s l (lst0 L)
theorem lmM_snoc (s l : Int) (L : List Int) (y : Int) : lmM s l (L ++ [y]) = mdl s l y := by unfold lmM; rw [if_neg (by simp), lst0_snoc]
theorem RoundIn_any {m m' : Nat} {P : Program} {l : Nat} {f : FuncId} {tmps : Array Value} {assign body : Code} {w : World} {R : Ending → World → Prop}
    (h : RoundIn Fence.wide m P l f tmps assign body w R) : RoundIn Fence.wide m' P l f tmps assign body w R := ⟨h.1, fun c cs _ => h.2 c cs (room_wide _)⟩
theorem RoundIn_in {m m' : Nat} {P : Program} {l l' : Nat} {f : FuncId} {tmps : Array Value} {assign body : Code} {w : World} {R : Ending → World → Prop}
    (h : RoundIn Fence.wide m P l f tmps assign body w R) : RoundIn (Fence.wide.inRound l') m' P l f tmps assign body w R := RoundIn_any h

theorem RdX.more {bs cs : List Nat} {W W' : World} {A : Option Addr} {zs : List P3} (h : RdX bs W A zs) (hk : Below W.heap.size W W') (hc : ∀ b ∈ cs, b ∈ bs ∨ W.heap.size ≤ b) : RdX cs W' A zs := fun k hk' => by
  obtain ⟨g, o, e, hcell, hg⟩ := h k hk'
  have hlt := World.block_lt_of_cell? W _ hcell
  exact ⟨g, o, e, (hk.cell hlt).trans hcell, fun hm => by rcases hc g hm with h1 | h1; exact hg h1; simp at hlt; omega⟩
theorem grown_gr {W W' : World} (h : Gr W W') : W.grownBy W' none := ⟨h.below.os, h.below.tape, h.below.output, h.below.size, fun k hk _ => h.below.block k hk⟩
theorem AbX.gr {β : Type} {B : Nat} {J : β → World → Prop} (h : AbX B J) {s : β} {W W' : World} (hs : J s W) (hg : Gr W W') : J s W' := h s W W' none hs (grown_gr hg) (fun r e => by cases e)

/-- The end of a round: the mark and its middle are stored. -/
theorem gap_end {s len : Int} {q4 q5 q6 c2 c3 l : Nat} {bs : List Nat} {J : List Int → World → Prop} {X X2 : World} {v5 v6 : Value} (y md : Int) (G : List Int) (hJ : AbX q4 J) (e5 : q4 + 1 = q5) (e6 : q5 + 1 = q6) (l2 : c2 < q4) (l3 : c3 < q4) (lD : 5 < q4)
    (hk : Kx (q5 :: q6 :: bs) X X2) (b4 : Boxed X2 q4 88 (.func (.yield l) #[] #[])) (b5 : Boxed X2 q5 2 v5) (b6 : Boxed X2 q6 2 v6) (b2 : Boxed X2 c2 2 (.int .i64 s)) (b3 : Boxed X2 c3 2 (.int .i64 len)) (hD : Dcs X2) (hj : J G X2) :
    Kx (q5 :: q6 :: bs) X ((X2.setCell ⟨q5, 0, none⟩ (.int .i64 y)).setCell ⟨q6, 0, none⟩ (.int .i64 md)) ∧
      (((Boxed ((X2.setCell ⟨q5, 0, none⟩ (.int .i64 y)).setCell ⟨q6, 0, none⟩ (.int .i64 md)) q4 88 (.func (.yield l) #[] #[]) ∧ Boxed ((X2.setCell ⟨q5, 0, none⟩ (.int .i64 y)).setCell ⟨q6, 0, none⟩ (.int .i64 md)) q5 2 (.int .i64 y)) ∧
        (Boxed ((X2.setCell ⟨q5, 0, none⟩ (.int .i64 y)).setCell ⟨q6, 0, none⟩ (.int .i64 md)) q6 2 (.int .i64 md) ∧ (Boxed ((X2.setCell ⟨q5, 0, none⟩ (.int .i64 y)).setCell ⟨q6, 0, none⟩ (.int .i64 md)) c2 2 (.int .i64 s) ∧ Boxed ((X2.setCell ⟨q5, 0, none⟩ (.int .i64 y)).setCell ⟨q6, 0, none⟩ (.int .i64 md)) c3 2 (.int .i64 len)))) ∧
        Dcs ((X2.setCell ⟨q5, 0, none⟩ (.int .i64 y)).setCell ⟨q6, 0, none⟩ (.int .i64 md))) ∧ J G ((X2.setCell ⟨q5, 0, none⟩ (.int .i64 y)).setCell ⟨q6, 0, none⟩ (.int .i64 md)) := by
  have k2 : Kx (q5 :: q6 :: bs) X2 ((X2.setCell ⟨q5, 0, none⟩ (.int .i64 y)).setCell ⟨q6, 0, none⟩ (.int .i64 md)) := (Kx.set _ _ (by simp) _).trans (Kx.set _ _ (by simp) _)
  have k3 : Kx [q5, q6] X2 ((X2.setCell ⟨q5, 0, none⟩ (.int .i64 y)).setCell ⟨q6, 0, none⟩ (.int .i64 md)) := (Kx.set _ _ (by simp) _).trans (Kx.set _ _ (by simp) _)
  refine ⟨hk.trans k2, ⟨⟨⟨(b4.other (by omega) _).other (by omega) _, (b5.set _).other (by omega) _⟩, (b6.other (by omega) _).set _, (b2.other (by omega) _).other (by omega) _, (b3.other (by omega) _).other (by omega) _⟩, hD.kx k3 (by simp; omega)⟩, ?_⟩
  exact hJ G _ _ (some q6) (hJ G _ _ (some q5) hj (grownBy_setCell' _ _ _) (fun r e => by cases e; omega)) (grownBy_setCell' _ _ _) (fun r e => by cases e; omega)

set_option maxRecDepth 100000 in
set_option maxHeartbeats 40000000 in
theorem gaps1_in (n : Nat) (hn : n = 8) (s len : Int) (hs : sc s = true) (hln : ln len = true) (A : Option Addr) (cnt c : Nat) (zs : List P3) (hl : zs.length = cnt) (hlN : cnt ≤ 16777216) (hok : ∀ p ∈ zs, ∃ a, ptOk a p = true ∧ 0 ≤ a) (hM : ∀ x ∈ mks zs, 1000 ≤ x ∧ x < 10000)
    (l c1 c2 c3 bp : Nat) (bs : List Nat) (J Jx : List Int → World → Prop) (W : World) (hbs : ∀ b ∈ bs, b < W.heap.size) (hJ : AbX W.heap.size J) (hJx : AbX W.heap.size Jx)
    (hY : ∀ pre x W1, J pre W1 → pre.length < (mks zs).length → YieldAt Fence.wide (n - 1) Tryd.prog l #[.int .i64 x] W1 fun e W' =>
      ((e = .returned (.bool true) ∧ J (pre ++ [x]) W') ∨ (e = .returned (.bool false) ∧ Jx (pre ++ [x]) W')) ∧ Kx bs W1 W')
    (h1 : Boxed W c1 97 (.func (.func 143) #[] #[.pointer (some ⟨bp, 0, none⟩)])) (h2 : Boxed W c2 2 (.int .i64 s)) (h3 : Boxed W c3 2 (.int .i64 len)) (hb : W.cell? ⟨bp, 0, none⟩ = some (.slice A cnt c)) (hR : RdX bs W A zs) (hD : Dcs W)
    (n2 : c2 ∉ bs) (n3 : c3 ∉ bs) (nD : 5 ∉ bs) (h0 : J [] W) :
    CallsIn Fence.wide n Tryd.prog 141 #[.func (.yield l) #[] #[], .pointer (some ⟨c1, 0, none⟩), .pointer (some ⟨c2, 0, none⟩), .pointer (some ⟨c3, 0, none⟩)] W fun e W' => (∃ v, e = .returned v) ∧
      ((∃ ys, ys = gapsL s len (mks zs) ∧ J ys W') ∨ (∃ pre, pre <+: gapsL s len (mks zs) ∧ Jx pre W')) := by
  subst hn
  have k1 := h1.cell
  have hlt2 := h2.lt
  have hlt3 := h3.lt
  have hltD : 5 < W.heap.size := World.block_lt_of_cell? W _ (hD 0 (by omega))
  refine callsIn_of_wp_marks Tryd.func141 rfl trivial ?_ rfl
  simp only [Tryd.ntmps141, List.size_toArray, List.length_cons, List.length_nil, Nat.reduceAdd, Nat.reduceSub, Array.replicate_succ, Array.replicate_zero, List.push_toArray, List.append_toArray, List.nil_append, List.cons_append]
  have k1a := (((h1.alloc (.cells #[.func (.yield l) #[] #[]] 88)).alloc (.cells #[.int .i64 0] 2)).alloc (.cells #[.int .i64 0] 2)).cell
  gi_wp2
  clear k1a
  have x4 := ((Boxed.new W 88 (.func (.yield l) #[] #[])).alloc (.cells #[.int .i64 0] 2)).alloc (.cells #[.int .i64 0] 2)
  have x5 := (Boxed.new (W.alloc (.cells #[.func (.yield l) #[] #[]] 88)) 2 (.int .i64 0)).alloc (.cells #[.int .i64 0] 2)
  have x6 := Boxed.new ((W.alloc (.cells #[.func (.yield l) #[] #[]] 88)).alloc (.cells #[.int .i64 0] 2)) 2 (.int .i64 0)
  have x2 := ((h2.alloc (.cells #[.func (.yield l) #[] #[]] 88)).alloc (.cells #[.int .i64 0] 2)).alloc (.cells #[.int .i64 0] 2)
  have x3 := ((h3.alloc (.cells #[.func (.yield l) #[] #[]] 88)).alloc (.cells #[.int .i64 0] 2)).alloc (.cells #[.int .i64 0] 2)
  have G0 : Gr W (((W.alloc (.cells #[.func (.yield l) #[] #[]] 88)).alloc (.cells #[.int .i64 0] 2)).alloc (.cells #[.int .i64 0] 2)) := (by repeat (first | with_reducible exact Gr.refl _ | with_reducible refine Gr.alloc ?_ _ | with_reducible refine Gr.gr ?_ _ _ | with_reducible refine Gr.drew ?_ | with_reducible refine Gr.drewN ?_ _))
  have hsz : (((W.alloc (.cells #[.func (.yield l) #[] #[]] 88)).alloc (.cells #[.int .i64 0] 2)).alloc (.cells #[.int .i64 0] 2)).heap.size = W.heap.size + 1 + 1 + 1 := by simp
  simp only [World.size_alloc] at x5 x6
  generalize ((W.alloc (.cells #[.func (.yield l) #[] #[]] 88)).alloc (.cells #[.int .i64 0] 2)).alloc (.cells #[.int .i64 0] 2) = Wa at *
  obtain ⟨q4, e4⟩ : ∃ q, W.heap.size = q := ⟨_, rfl⟩
  obtain ⟨q5, e5⟩ : ∃ q, q4 + 1 = q := ⟨_, rfl⟩
  obtain ⟨q6, e6⟩ : ∃ q, q5 + 1 = q := ⟨_, rfl⟩
  rw [e4] at x4 x5 x6 hsz hlt2 hlt3 hltD hbs hJ hJx
  rw [e5] at x5 x6 hsz
  rw [e6] at x6 hsz
  simp only [e4]
  simp only [e5]
  simp only [e6]
  have HM := Lib.hid hM
  have HY := Lib.hid hY
  clear hY hM
  refine rangeX rfl (by omega) (gf := 143) (lb := #[.pointer (some ⟨bp, 0, none⟩)]) rfl trivial (enters_of Tryd.func143 (by kernel_rfl) rfl) (bs := q5 :: q6 :: bs)
    (fun b hb => by rcases List.mem_cons.1 hb with rfl | hb; omega; rcases List.mem_cons.1 hb with rfl | hb; omega; have := hbs b hb; omega)
    (marksX (8 - 1) (by omega) A cnt c zs hl hlN hok bp Wa _ ((G0.below.cell (p := ⟨bp, 0, none⟩) (World.block_lt_of_cell? W _ hb)).trans hb) (hR.more G0.below (fun b hb => by
      rw [e4]
      rcases List.mem_cons.1 hb with rfl | hb; exact .inr (by omega)
      rcases List.mem_cons.1 hb with rfl | hb; exact .inr (by omega)
      rcases List.mem_cons.1 hb with rfl | hb; exact .inr (by omega)
      exact .inl hb))) (Below.refl _ _) ?hps
    (fun pre X => (((Boxed X q4 88 (.func (.yield l) #[] #[]) ∧ Boxed X q5 2 (.int .i64 (lst0 (unM pre)))) ∧ (Boxed X q6 2 (.int .i64 (lmM s len (unM pre))) ∧ (Boxed X c2 2 (.int .i64 s) ∧ Boxed X c3 2 (.int .i64 len)))) ∧ Dcs X) ∧ J (gapsL s len (unM pre)) X)
    (fun pre X => Jx (gapsL s len (unM pre)) X)
    (AbX.and (AbX.and (AbX.and (AbX.and (abX_boxed (by omega) _ (fun _ => .func (.yield l) #[] #[])) (abX_boxed (by omega) _ (fun pre => .int .i64 (lst0 (unM pre))))) (AbX.and (abX_boxed (by omega) _ (fun pre => .int .i64 (lmM s len (unM pre)))) (AbX.and (abX_boxed (by omega) _ (fun _ => .int .i64 s)) (abX_boxed (by omega) _ (fun _ => .int .i64 len))))) (abX_dcs (by omega))) (fun pre X X' row hs hg hr => hJ _ X X' row hs hg (fun r e => by have := hr r e; omega)))
    (fun pre X X' row hs hg hr => hJx _ X X' row hs hg (fun r e => by have := hr r e; omega))
    ⟨⟨⟨⟨x4, x5⟩, x6, x2, x3⟩, hD.gr G0⟩, hJ.gr h0 G0⟩
    (fun y => { tmps := #[.func (.yield l) #[] #[], .pointer (some ⟨c1, 0, none⟩), .pointer (some ⟨c2, 0, none⟩), .pointer (some ⟨c3, 0, none⟩), .pointer (some ⟨q4, 0, none⟩), .pointer (some ⟨q5, 0, none⟩), .pointer (some ⟨q6, 0, none⟩), .int .i64 y.1, undef, undef, .func (.func 143) #[] #[.pointer (some ⟨bp, 0, none⟩)], .int .i64 y.1, undef, undef, undef, undef, undef, undef, undef, undef, undef, undef, undef, undef, undef, undef, undef, undef, undef, undef, undef, undef, undef, undef, undef, undef, undef, undef, undef, undef, undef, undef], defers := [] }) ?assign ?body ?done ?stop
  case hps => exact fun _ => rfl
  case assign =>
    intro l' y X K hK
    gi_wp2
    exact hK
  case body =>
    rintro l' pre y X ⟨⟨⟨⟨b4, b5⟩, b6, b2, b3⟩, hDX⟩, hJX⟩ hlen hszX
    obtain ⟨y1, y2⟩ := HM.out y.1 y.2
    have hfg : fg y.1 0 = true := (fg_iff _ _).2 ⟨⟨y1, by omega⟩, by omega⟩
    obtain ⟨p1, p2, p3, p4, -⟩ := pl_bd s y.1 0 len hfg hln
    have HMO := Lib.hid (fun W hW => middleOf_any y.1 s len W hW hfg hs hln)
    have HMd := Lib.hid (show mdl s len y.1 = ((pl s y.1 0 len).1 + (pl s y.1 0 len).2).fdiv 2 from rfl)
    have HT := Lib.hid (unM_snoc pre y)
    obtain ⟨y, hy⟩ := y
    simp only at *
    generalize pl s y 0 len = pp at *
    obtain ⟨pa, pb⟩ := pp
    simp only at HMd p1 p2 p3 p4
    have k2 := b2.cell
    have k3 := b3.cell
    have k4 := b4.cell
    have k5 := b5.cell
    have k6 := b6.cell
    have hl2 := b2.lt
    have hl3 := b3.lt
    have hl4 := b4.lt
    have hl5 := b5.lt
    have hl6 := b6.lt
    have HDX := Lib.hid hDX
    clear hDX hfg
    have HI := Lib.hid (fun (X2 : World) (hg : Gr X X2) (G : List Int) (hj : J G X2) => gap_end (bs := bs) y (mdl s len y) G hJ e5 e6 hlt2 hlt3 hltD (Kx.of_below (bs := q5 :: q6 :: bs) hg.below) (boxed_gr b4 hg) (boxed_gr b5 hg) (boxed_gr b6 hg) (boxed_gr b2 hg) (boxed_gr b3 hg) (HDX.out.gr hg) hj)
    have HE := Lib.hid (fun (X2 : World) (hg : Gr X X2) => hJ.gr hJX hg)
    have HLS := Lib.hid (lst0_snoc (unM pre) y)
    have HLM := Lib.hid (lmM_snoc s len (unM pre) y)
    by_cases hp : unM pre = []
    · have HG := Lib.hid (show gapsL s len (unM pre ++ [y]) = gapsL s len (unM pre) by rw [hp]; rfl)
      have hla : lst0 (unM pre) = 0 := by rw [hp]; rfl
      rw [hla] at k5 b5
      clear hp hla HY HM
      by_cases e1 : s = 4
      · subst e1
        by_cases e3 : 3142 < y
        · gi_wp2_with (refine ⟨trivial, ?_⟩; gi_at_call 103; refine (CallsIn.inRound l' (callsIn_wide.2 (HMO.out _ HDX.out))).mono ?_; rintro e w' ⟨rfl, kk, os, rfl⟩; obtain ⟨X1, hX1⟩ : ∃ X1, gr X kk os = X1 := ⟨_, rfl⟩; rw [hX1]; have G1 : Gr X X1 := (by rw [← hX1]; exact (Gr.refl X).gr kk os); clear hX1; have z2 := (boxed_gr b2 G1).cell; have z4 := (boxed_gr b4 G1).cell; have z5 := (boxed_gr b5 G1).cell; have z6 := (boxed_gr b6 G1).cell; have f5 := (boxed_gr b5 G1).frozen; have f6 := (boxed_gr b6 G1).frozen)
          (refine wpIn_region_quietR_lit (by kernel_rfl) (by kernel_rfl) (by kernel_rfl) ?_; (repeat (refine wpQuietIn_step (fun _ _ _ _ => trivial) (fun K hK => ?_); go_simp; first | (refine hK _ ?_; clear hK K) | (apply Exists.intro; refine ⟨fun _ => ?_, hK _ ?_⟩; (fail); clear hK K))); refine wpQuietIn_nil ?_; intro _ hw'; obtain ⟨nq, hw''⟩ := hw'; subst hw'')
          gi_wp2
          obtain ⟨r1, r2, r3⟩ := HI.out (X1.drewN nq) (G1.drewN nq) _ (HE.out _ (G1.drewN nq))
          exact ⟨r1, by simp only [HT.out, HLS.out, HLM.out, HG.out]; exact ⟨r2, r3⟩⟩
        · gi_wp2_with (refine ⟨trivial, ?_⟩; gi_at_call 103; refine (CallsIn.inRound l' (callsIn_wide.2 (HMO.out _ HDX.out))).mono ?_; rintro e w' ⟨rfl, kk, os, rfl⟩; obtain ⟨X1, hX1⟩ : ∃ X1, gr X kk os = X1 := ⟨_, rfl⟩; rw [hX1]; have G1 : Gr X X1 := (by rw [← hX1]; exact (Gr.refl X).gr kk os); clear hX1; have z2 := (boxed_gr b2 G1).cell; have z4 := (boxed_gr b4 G1).cell; have z5 := (boxed_gr b5 G1).cell; have z6 := (boxed_gr b6 G1).cell; have f5 := (boxed_gr b5 G1).frozen; have f6 := (boxed_gr b6 G1).frozen)
          (refine wpIn_region_quietR_lit (by kernel_rfl) (by kernel_rfl) (by kernel_rfl) ?_; (repeat (refine wpQuietIn_step (fun _ _ _ _ => trivial) (fun K hK => ?_); go_simp; first | (refine hK _ ?_; clear hK K) | (apply Exists.intro; refine ⟨fun _ => ?_, hK _ ?_⟩; (fail); clear hK K))); refine wpQuietIn_nil ?_; intro _ hw'; obtain ⟨nq, hw''⟩ := hw'; subst hw'')
          gi_wp2
          obtain ⟨r1, r2, r3⟩ := HI.out (X1.drewN nq) (G1.drewN nq) _ (HE.out _ (G1.drewN nq))
          exact ⟨r1, by simp only [HT.out, HLS.out, HLM.out, HG.out]; exact ⟨r2, r3⟩⟩
      · gi_wp2_with (refine ⟨trivial, ?_⟩; gi_at_call 103; refine (CallsIn.inRound l' (callsIn_wide.2 (HMO.out _ HDX.out))).mono ?_; rintro e w' ⟨rfl, kk, os, rfl⟩; obtain ⟨X1, hX1⟩ : ∃ X1, gr X kk os = X1 := ⟨_, rfl⟩; rw [hX1]; have G1 : Gr X X1 := (by rw [← hX1]; exact (Gr.refl X).gr kk os); clear hX1; have z2 := (boxed_gr b2 G1).cell; have z4 := (boxed_gr b4 G1).cell; have z5 := (boxed_gr b5 G1).cell; have z6 := (boxed_gr b6 G1).cell; have f5 := (boxed_gr b5 G1).frozen; have f6 := (boxed_gr b6 G1).frozen)
        (refine wpIn_region_quietR_lit (by kernel_rfl) (by kernel_rfl) (by kernel_rfl) ?_; (repeat (refine wpQuietIn_step (fun _ _ _ _ => trivial) (fun K hK => ?_); go_simp; first | (refine hK _ ?_; clear hK K) | (apply Exists.intro; refine ⟨fun _ => ?_, hK _ ?_⟩; (fail); clear hK K))); refine wpQuietIn_nil ?_; intro _ hw'; obtain ⟨nq, hw''⟩ := hw'; subst hw'')
        gi_wp2
        obtain ⟨r1, r2, r3⟩ := HI.out (X1.drewN nq) (G1.drewN nq) _ (HE.out _ (G1.drewN nq))
        exact ⟨r1, by simp only [HT.out, HLS.out, HLM.out, HG.out]; exact ⟨r2, r3⟩⟩
    · have hmem := lst0_mem _ hp
      obtain ⟨qm, -, hqm⟩ := List.mem_map.1 hmem
      obtain ⟨m1, m2⟩ := HM.out qm.1 qm.2
      rw [hqm] at m1 m2
      have hlm : lmM s len (unM pre) = mdl s len (lst0 (unM pre)) := by unfold lmM; rw [if_neg hp]
      rw [hlm] at k6 b6
      obtain ⟨w1, w2, w3, w4, -⟩ := pl_bd s (lst0 (unM pre)) 0 len ((fg_iff _ _).2 ⟨⟨m1, by omega⟩, by omega⟩) hln
      have hmb : -400000 ≤ mdl s len (lst0 (unM pre)) ∧ mdl s len (lst0 (unM pre)) ≤ 620000 := by
        unfold mdl
        rw [Int.fdiv_eq_ediv_of_nonneg _ (by omega)]
        omega
      have hmb2 : -400000 ≤ mdl s len y ∧ mdl s len y ≤ 620000 := by
        rw [HMd.out, Int.fdiv_eq_ediv_of_nonneg _ (by omega)]
        omega
      have HGS := Lib.hid (gapsL_snoc s len hp y)
      have HGL : (gapsL s len (unM pre)).length < (mks zs).length := by have := gapsL_len s len (unM pre); rw [unM_len] at this; omega
      have HDs := Lib.hid (fun W => distance_any (mdl s len y) (mdl s len (lst0 (unM pre))) W (by omega) (by omega) (by omega) (by omega))
      have HYX := Lib.hid (fun (X2 : World) (hg : Gr X X2) => HY.out (gapsL s len (unM pre)) ((mdl s len y - mdl s len (lst0 (unM pre))).natAbs : Int) X2 (HE.out X2 hg) HGL)
      have HG1 := Lib.hid (show gap1 s len (lst0 (unM pre)) y = if cnts s (lst0 (unM pre)) y = true then [((mdl s len y - mdl s len (lst0 (unM pre))).natAbs : Int)] else [] from rfl)
      clear hp hmem hqm hlm w1 w2 w3 w4 HGL HY HM hmb hmb2
      generalize lst0 (unM pre) = la at *
      generalize mdl s len la = ml at *
      generalize ((mdl s len y - ml).natAbs : Int) = dd at *
      have hpos : 0 < la := by omega
      by_cases e1 : s = 4
      · subst e1
        by_cases e2 : la ≤ 3142
        · by_cases e3 : 3142 < y
          · have HG := Lib.hid (show gapsL 4 len (unM pre ++ [y]) = gapsL 4 len (unM pre) by rw [HGS.out, HG1.out, if_neg (by unfold cnts; simp; omega), List.append_nil])
            gi_wp2_with (refine ⟨trivial, ?_⟩; gi_at_call 103; refine (CallsIn.inRound l' (callsIn_wide.2 (HMO.out _ HDX.out))).mono ?_; rintro e w' ⟨rfl, kk, os, rfl⟩; obtain ⟨X1, hX1⟩ : ∃ X1, gr X kk os = X1 := ⟨_, rfl⟩; rw [hX1]; have G1 : Gr X X1 := (by rw [← hX1]; exact (Gr.refl X).gr kk os); clear hX1; have z2 := (boxed_gr b2 G1).cell; have z4 := (boxed_gr b4 G1).cell; have z5 := (boxed_gr b5 G1).cell; have z6 := (boxed_gr b6 G1).cell; have f5 := (boxed_gr b5 G1).frozen; have f6 := (boxed_gr b6 G1).frozen)
            (refine wpIn_region_quietR_lit (by kernel_rfl) (by kernel_rfl) (by kernel_rfl) ?_; (repeat (refine wpQuietIn_step (fun _ _ _ _ => trivial) (fun K hK => ?_); go_simp; first | (refine hK _ ?_; clear hK K) | (apply Exists.intro; refine ⟨fun _ => ?_, hK _ ?_⟩; (fail); clear hK K))); refine wpQuietIn_nil ?_; intro _ hw'; obtain ⟨nq, hw''⟩ := hw'; subst hw'')
            gi_wp2
            obtain ⟨r1, r2, r3⟩ := HI.out (X1.drewN nq) (G1.drewN nq) _ (HE.out _ (G1.drewN nq))
            exact ⟨r1, by simp only [HT.out, HLS.out, HLM.out, HG.out]; exact ⟨r2, r3⟩⟩
          · have g3 : decide (3142 < y) = false := decide_eq_false e3
            have HG := Lib.hid (show gapsL 4 len (unM pre ++ [y]) = gapsL 4 len (unM pre) ++ [dd] by rw [HGS.out, HG1.out, if_pos (by unfold cnts; simp; omega)])
            gi_wp2_with (refine ⟨trivial, ?_⟩; gi_at_call 103; refine (CallsIn.inRound l' (callsIn_wide.2 (HMO.out _ HDX.out))).mono ?_; rintro e w' ⟨rfl, kk, os, rfl⟩; obtain ⟨X1, hX1⟩ : ∃ X1, gr X kk os = X1 := ⟨_, rfl⟩; rw [hX1]; have G1 : Gr X X1 := (by rw [← hX1]; exact (Gr.refl X).gr kk os); clear hX1; have z2 := (boxed_gr b2 G1).cell; have z4 := (boxed_gr b4 G1).cell; have z5 := (boxed_gr b5 G1).cell; have z6 := (boxed_gr b6 G1).cell; have f5 := (boxed_gr b5 G1).frozen; have f6 := (boxed_gr b6 G1).frozen)
            apply wpIn_region_prefixA #[true, true, true, true, true, true, true, true, true, true, true, false, false, false] (fuel := 11) (r := 3) (hm := by kernel_rfl) (hd := by kernel_rfl) (hsz := by rfl)
            case hq =>
              refine anyQ_ready (rs := [0]) (by kernel_rfl) (by simp) ?_
              refine allQ_cons (qOp_step rfl (fun _ _ _ _ => trivial) (fun K hK => ?_)) allQ_nil
              go_simp
              refine hK _ ?_
              clear hK K
              refine anyQ_ready (rs := [1]) (by kernel_rfl) (by simp) ?_
              refine allQ_cons (qOp_step rfl (fun _ _ _ _ => trivial) (fun K hK => ?_)) allQ_nil
              go_simp
              refine hK _ ?_
              clear hK K
              refine anyQ_ready (rs := [2]) (by kernel_rfl) (by simp) ?_
              refine allQ_cons (qOp_step rfl (fun _ _ _ _ => trivial) (fun K hK => ?_)) allQ_nil
              go_simp
              refine hK _ ?_
              clear hK K
              refine anyQ_ready (rs := [3]) (by kernel_rfl) (by simp) ?_
              refine allQ_cons (qOp_step rfl (fun _ _ _ _ => trivial) (fun K hK => ?_)) allQ_nil
              go_simp
              refine hK _ ?_
              clear hK K
              refine anyQ_ready (rs := [4]) (by kernel_rfl) (by simp) ?_
              refine allQ_cons (qOp_step rfl (fun _ _ _ _ => trivial) (fun K hK => ?_)) allQ_nil
              go_simp
              refine hK _ ?_
              clear hK K
              refine anyQ_ready (rs := [5]) (by kernel_rfl) (by simp) ?_
              refine allQ_cons (qOp_step rfl (fun _ _ _ _ => trivial) (fun K hK => ?_)) allQ_nil
              go_simp
              refine hK _ ?_
              clear hK K
              refine anyQ_ready (rs := [6]) (by kernel_rfl) (by simp) ?_
              refine allQ_cons (qOp_step rfl (fun _ _ _ _ => trivial) (fun K hK => ?_)) allQ_nil
              go_simp
              refine hK _ ?_
              clear hK K
              refine anyQ_ready (rs := [7, 8, 9]) (by kernel_rfl) (by simp) ?_
              refine allQ_cons (qOp_step rfl (fun _ _ _ _ => trivial) (fun K hK => ?_)) (allQ_cons (qOp_step rfl (fun _ _ _ _ => trivial) (fun K hK => ?_)) (allQ_cons (qOp_step rfl (fun _ _ _ _ => trivial) (fun K hK => ?_)) allQ_nil))
              · go_simp
                refine hK _ ?_
                clear hK K
                refine anyQ_ready (rs := [8, 9]) (by kernel_rfl) (by simp) ?_
                refine allQ_cons (qOp_step rfl (fun _ _ _ _ => trivial) (fun K hK => ?_)) (allQ_cons (qOp_step rfl (fun _ _ _ _ => trivial) (fun K hK => ?_)) allQ_nil)
                · go_simp
                  refine hK _ ?_
                  clear hK K
                  refine anyQ_ready (rs := [9]) (by kernel_rfl) (by simp) ?_
                  refine allQ_cons (qOp_step rfl (fun _ _ _ _ => trivial) (fun K hK => ?_)) allQ_nil
                  go_simp
                  refine hK _ ?_
                  clear hK K
                  refine anyQ_ready (rs := [10]) (by kernel_rfl) (by simp) ?_
                  refine allQ_cons (qOp_step rfl (fun _ _ _ _ => trivial) (fun K hK => ?_)) allQ_nil
                  go_simp
                  apply Exists.intro
                  refine ⟨fun _ => ?_, hK _ ?_⟩
                  · gi_at_call 142
                    with_reducible exact CallsIn.quiet_of_same (CallsIn.inRound l' (callsIn_wide.2 ((HDs.out _).mono fun _ _ h => ⟨h.1, h.2.symm⟩)))
                  clear hK K
                  exact ⟨by decide, rfl⟩
                · go_simp
                  refine hK _ ?_
                  clear hK K
                  refine anyQ_ready (rs := [8]) (by kernel_rfl) (by simp) ?_
                  refine allQ_cons (qOp_step rfl (fun _ _ _ _ => trivial) (fun K hK => ?_)) allQ_nil
                  go_simp
                  refine hK _ ?_
                  clear hK K
                  refine anyQ_ready (rs := [10]) (by kernel_rfl) (by simp) ?_
                  refine allQ_cons (qOp_step rfl (fun _ _ _ _ => trivial) (fun K hK => ?_)) allQ_nil
                  go_simp
                  apply Exists.intro
                  refine ⟨fun _ => ?_, hK _ ?_⟩
                  · gi_at_call 142
                    with_reducible exact CallsIn.quiet_of_same (CallsIn.inRound l' (callsIn_wide.2 ((HDs.out _).mono fun _ _ h => ⟨h.1, h.2.symm⟩)))
                  clear hK K
                  exact ⟨by decide, rfl⟩
              · go_simp
                refine hK _ ?_
                clear hK K
                refine anyQ_ready (rs := [7, 9]) (by kernel_rfl) (by simp) ?_
                refine allQ_cons (qOp_step rfl (fun _ _ _ _ => trivial) (fun K hK => ?_)) (allQ_cons (qOp_step rfl (fun _ _ _ _ => trivial) (fun K hK => ?_)) allQ_nil)
                · go_simp
                  refine hK _ ?_
                  clear hK K
                  refine anyQ_ready (rs := [9]) (by kernel_rfl) (by simp) ?_
                  refine allQ_cons (qOp_step rfl (fun _ _ _ _ => trivial) (fun K hK => ?_)) allQ_nil
                  go_simp
                  refine hK _ ?_
                  clear hK K
                  refine anyQ_ready (rs := [10]) (by kernel_rfl) (by simp) ?_
                  refine allQ_cons (qOp_step rfl (fun _ _ _ _ => trivial) (fun K hK => ?_)) allQ_nil
                  go_simp
                  apply Exists.intro
                  refine ⟨fun _ => ?_, hK _ ?_⟩
                  · gi_at_call 142
                    with_reducible exact CallsIn.quiet_of_same (CallsIn.inRound l' (callsIn_wide.2 ((HDs.out _).mono fun _ _ h => ⟨h.1, h.2.symm⟩)))
                  clear hK K
                  exact ⟨by decide, rfl⟩
                · go_simp
                  refine hK _ ?_
                  clear hK K
                  refine anyQ_ready (rs := [7, 10]) (by kernel_rfl) (by simp) ?_
                  refine allQ_cons (qOp_step rfl (fun _ _ _ _ => trivial) (fun K hK => ?_)) (allQ_cons (qOp_step rfl (fun _ _ _ _ => trivial) (fun K hK => ?_)) allQ_nil)
                  · go_simp
                    refine hK _ ?_
                    clear hK K
                    refine anyQ_ready (rs := [10]) (by kernel_rfl) (by simp) ?_
                    refine allQ_cons (qOp_step rfl (fun _ _ _ _ => trivial) (fun K hK => ?_)) allQ_nil
                    go_simp
                    apply Exists.intro
                    refine ⟨fun _ => ?_, hK _ ?_⟩
                    · gi_at_call 142
                      with_reducible exact CallsIn.quiet_of_same (CallsIn.inRound l' (callsIn_wide.2 ((HDs.out _).mono fun _ _ h => ⟨h.1, h.2.symm⟩)))
                    clear hK K
                    exact ⟨by decide, rfl⟩
                  · go_simp
                    apply Exists.intro
                    refine ⟨fun _ => ?_, hK _ ?_⟩
                    · gi_at_call 142
                      with_reducible exact CallsIn.quiet_of_same (CallsIn.inRound l' (callsIn_wide.2 ((HDs.out _).mono fun _ _ h => ⟨h.1, h.2.symm⟩)))
                    clear hK K
                    refine anyQ_ready (rs := [7]) (by kernel_rfl) (by simp) ?_
                    refine allQ_cons (qOp_step rfl (fun _ _ _ _ => trivial) (fun K hK => ?_)) allQ_nil
                    go_simp
                    refine hK _ ?_
                    clear hK K
                    exact ⟨by decide, rfl⟩
              · go_simp
                refine hK _ ?_
                clear hK K
                refine anyQ_ready (rs := [7, 8]) (by kernel_rfl) (by simp) ?_
                refine allQ_cons (qOp_step rfl (fun _ _ _ _ => trivial) (fun K hK => ?_)) (allQ_cons (qOp_step rfl (fun _ _ _ _ => trivial) (fun K hK => ?_)) allQ_nil)
                · go_simp
                  refine hK _ ?_
                  clear hK K
                  refine anyQ_ready (rs := [8]) (by kernel_rfl) (by simp) ?_
                  refine allQ_cons (qOp_step rfl (fun _ _ _ _ => trivial) (fun K hK => ?_)) allQ_nil
                  go_simp
                  refine hK _ ?_
                  clear hK K
                  refine anyQ_ready (rs := [10]) (by kernel_rfl) (by simp) ?_
                  refine allQ_cons (qOp_step rfl (fun _ _ _ _ => trivial) (fun K hK => ?_)) allQ_nil
                  go_simp
                  apply Exists.intro
                  refine ⟨fun _ => ?_, hK _ ?_⟩
                  · gi_at_call 142
                    with_reducible exact CallsIn.quiet_of_same (CallsIn.inRound l' (callsIn_wide.2 ((HDs.out _).mono fun _ _ h => ⟨h.1, h.2.symm⟩)))
                  clear hK K
                  exact ⟨by decide, rfl⟩
                · go_simp
                  refine hK _ ?_
                  clear hK K
                  refine anyQ_ready (rs := [7, 10]) (by kernel_rfl) (by simp) ?_
                  refine allQ_cons (qOp_step rfl (fun _ _ _ _ => trivial) (fun K hK => ?_)) (allQ_cons (qOp_step rfl (fun _ _ _ _ => trivial) (fun K hK => ?_)) allQ_nil)
                  · go_simp
                    refine hK _ ?_
                    clear hK K
                    refine anyQ_ready (rs := [10]) (by kernel_rfl) (by simp) ?_
                    refine allQ_cons (qOp_step rfl (fun _ _ _ _ => trivial) (fun K hK => ?_)) allQ_nil
                    go_simp
                    apply Exists.intro
                    refine ⟨fun _ => ?_, hK _ ?_⟩
                    · gi_at_call 142
                      with_reducible exact CallsIn.quiet_of_same (CallsIn.inRound l' (callsIn_wide.2 ((HDs.out _).mono fun _ _ h => ⟨h.1, h.2.symm⟩)))
                    clear hK K
                    exact ⟨by decide, rfl⟩
                  · go_simp
                    apply Exists.intro
                    refine ⟨fun _ => ?_, hK _ ?_⟩
                    · gi_at_call 142
                      with_reducible exact CallsIn.quiet_of_same (CallsIn.inRound l' (callsIn_wide.2 ((HDs.out _).mono fun _ _ h => ⟨h.1, h.2.symm⟩)))
                    clear hK K
                    refine anyQ_ready (rs := [7]) (by kernel_rfl) (by simp) ?_
                    refine allQ_cons (qOp_step rfl (fun _ _ _ _ => trivial) (fun K hK => ?_)) allQ_nil
                    go_simp
                    refine hK _ ?_
                    clear hK K
                    exact ⟨by decide, rfl⟩
            case hQ =>
              intro nq
              obtain ⟨fn, tmps, assign, body, hy, hR⟩ := HYX.out (X1.drewN nq) (G1.drewN nq)
              refine wpAnyIn_ready (rs := [11]) (by kernel_rfl) (by simp) ?_
              refine AllReadyIn.cons rfl (fun K hK => ?_) AllReadyIn.nil
              go_simp
              have hkx : Kx (q5 :: q6 :: bs) X (X1.drewN nq) := Kx.of_below (G1.drewN nq).below
              refine (RoundIn_in (l' := l') hR).mono ?_
              rintro e W3 ⟨(⟨rfl, hJ3⟩ | ⟨rfl, hJx3⟩), hk3⟩
              · have hkx3 := hkx.trans (hk3.more (cs := q5 :: q6 :: bs) (fun b hb => by simp [hb]))
                have d4 := hk3.boxed (boxed_gr b4 (G1.drewN nq)) (fun e => by have := hbs _ e; omega)
                have d5 := hk3.boxed (boxed_gr b5 (G1.drewN nq)) (fun e => by have := hbs _ e; omega)
                have d6 := hk3.boxed (boxed_gr b6 (G1.drewN nq)) (fun e => by have := hbs _ e; omega)
                have d2 := hk3.boxed (boxed_gr b2 (G1.drewN nq)) n2
                have d3 := hk3.boxed (boxed_gr b3 (G1.drewN nq)) n3
                have HD3 := Lib.hid ((HDX.out.gr (G1.drewN nq)).kx hk3 nD)
                have u5 := d5.cell
                have u6 := d6.cell
                have v5 := d5.frozen
                have v6 := d6.frozen
                refine hK _ _ ?_
                clear hK K
                refine wpAnyIn_ready (rs := [12]) (by kernel_rfl) (by simp) ?_
                refine AllReadyIn.cons rfl (fun K hK => ?_) AllReadyIn.nil
                go_simp
                refine hK _ _ ?_
                clear hK K
                refine wpAnyIn_ready (rs := [13]) (by kernel_rfl) (by simp) ?_
                refine AllReadyIn.cons rfl (fun K hK => ?_) AllReadyIn.nil
                go_simp
                refine hK _ _ ?_
                clear hK K
                refine wpAnyIn_done (by kernel_rfl) ?_ _
                gi_wp2
                obtain ⟨r1, r2, r3⟩ := gap_end (bs := bs) (X := X) y (mdl 4 len y) _ hJ e5 e6 hlt2 hlt3 hltD hkx3 d4 d5 d6 d2 d3 HD3.out hJ3
                exact ⟨r1, by simp only [HT.out, HLS.out, HLM.out, HG.out]; exact ⟨r2, r3⟩⟩
              · have hkx3 := hkx.trans (hk3.more (cs := q5 :: q6 :: bs) (fun b hb => by simp [hb]))
                refine hK _ _ ?_
                clear hK K
                refine wpAnyIn_ready (rs := [12]) (by kernel_rfl) (by simp) ?_
                refine AllReadyIn.cons rfl (fun K hK => ?_) AllReadyIn.nil
                go_simp
                refine hK _ _ ?_
                clear hK K
                refine wpAnyIn_ready (rs := [13]) (by kernel_rfl) (by simp) ?_
                refine AllReadyIn.cons rfl (fun K hK => ?_) AllReadyIn.nil
                go_simp
                refine hK _ _ ?_
                clear hK K
                refine wpAnyIn_done (by kernel_rfl) ?_ _
                gi_wp2
                exact ⟨hkx3, by simp only [HT.out, HG.out]; exact hJx3⟩
        · have g2 : decide (la ≤ 3142) = false := decide_eq_false e2
          have HG := Lib.hid (show gapsL 4 len (unM pre ++ [y]) = gapsL 4 len (unM pre) ++ [dd] by rw [HGS.out, HG1.out, if_pos (by unfold cnts; simp; omega)])
          gi_wp2_with (refine ⟨trivial, ?_⟩; gi_at_call 103; refine (CallsIn.inRound l' (callsIn_wide.2 (HMO.out _ HDX.out))).mono ?_; rintro e w' ⟨rfl, kk, os, rfl⟩; obtain ⟨X1, hX1⟩ : ∃ X1, gr X kk os = X1 := ⟨_, rfl⟩; rw [hX1]; have G1 : Gr X X1 := (by rw [← hX1]; exact (Gr.refl X).gr kk os); clear hX1; have z2 := (boxed_gr b2 G1).cell; have z4 := (boxed_gr b4 G1).cell; have z5 := (boxed_gr b5 G1).cell; have z6 := (boxed_gr b6 G1).cell; have f5 := (boxed_gr b5 G1).frozen; have f6 := (boxed_gr b6 G1).frozen)
          apply wpIn_region_prefixA #[true, true, true, true, true, true, true, true, true, true, true, false, false, false] (fuel := 11) (r := 3) (hm := by kernel_rfl) (hd := by kernel_rfl) (hsz := by rfl)
          case hq =>
            refine anyQ_ready (rs := [0]) (by kernel_rfl) (by simp) ?_
            refine allQ_cons (qOp_step rfl (fun _ _ _ _ => trivial) (fun K hK => ?_)) allQ_nil
            go_simp
            refine hK _ ?_
            clear hK K
            refine anyQ_ready (rs := [1]) (by kernel_rfl) (by simp) ?_
            refine allQ_cons (qOp_step rfl (fun _ _ _ _ => trivial) (fun K hK => ?_)) allQ_nil
            go_simp
            refine hK _ ?_
            clear hK K
            refine anyQ_ready (rs := [2]) (by kernel_rfl) (by simp) ?_
            refine allQ_cons (qOp_step rfl (fun _ _ _ _ => trivial) (fun K hK => ?_)) allQ_nil
            go_simp
            refine hK _ ?_
            clear hK K
            refine anyQ_ready (rs := [3]) (by kernel_rfl) (by simp) ?_
            refine allQ_cons (qOp_step rfl (fun _ _ _ _ => trivial) (fun K hK => ?_)) allQ_nil
            go_simp
            refine hK _ ?_
            clear hK K
            refine anyQ_ready (rs := [4]) (by kernel_rfl) (by simp) ?_
            refine allQ_cons (qOp_step rfl (fun _ _ _ _ => trivial) (fun K hK => ?_)) allQ_nil
            go_simp
            refine hK _ ?_
            clear hK K
            refine anyQ_ready (rs := [5]) (by kernel_rfl) (by simp) ?_
            refine allQ_cons (qOp_step rfl (fun _ _ _ _ => trivial) (fun K hK => ?_)) allQ_nil
            go_simp
            refine hK _ ?_
            clear hK K
            refine anyQ_ready (rs := [6]) (by kernel_rfl) (by simp) ?_
            refine allQ_cons (qOp_step rfl (fun _ _ _ _ => trivial) (fun K hK => ?_)) allQ_nil
            go_simp
            refine hK _ ?_
            clear hK K
            refine anyQ_ready (rs := [7, 8, 9]) (by kernel_rfl) (by simp) ?_
            refine allQ_cons (qOp_step rfl (fun _ _ _ _ => trivial) (fun K hK => ?_)) (allQ_cons (qOp_step rfl (fun _ _ _ _ => trivial) (fun K hK => ?_)) (allQ_cons (qOp_step rfl (fun _ _ _ _ => trivial) (fun K hK => ?_)) allQ_nil))
            · go_simp
              refine hK _ ?_
              clear hK K
              refine anyQ_ready (rs := [8, 9]) (by kernel_rfl) (by simp) ?_
              refine allQ_cons (qOp_step rfl (fun _ _ _ _ => trivial) (fun K hK => ?_)) (allQ_cons (qOp_step rfl (fun _ _ _ _ => trivial) (fun K hK => ?_)) allQ_nil)
              · go_simp
                refine hK _ ?_
                clear hK K
                refine anyQ_ready (rs := [9]) (by kernel_rfl) (by simp) ?_
                refine allQ_cons (qOp_step rfl (fun _ _ _ _ => trivial) (fun K hK => ?_)) allQ_nil
                go_simp
                refine hK _ ?_
                clear hK K
                refine anyQ_ready (rs := [10]) (by kernel_rfl) (by simp) ?_
                refine allQ_cons (qOp_step rfl (fun _ _ _ _ => trivial) (fun K hK => ?_)) allQ_nil
                go_simp
                apply Exists.intro
                refine ⟨fun _ => ?_, hK _ ?_⟩
                · gi_at_call 142
                  with_reducible exact CallsIn.quiet_of_same (CallsIn.inRound l' (callsIn_wide.2 ((HDs.out _).mono fun _ _ h => ⟨h.1, h.2.symm⟩)))
                clear hK K
                exact ⟨by decide, rfl⟩
              · go_simp
                refine hK _ ?_
                clear hK K
                refine anyQ_ready (rs := [8]) (by kernel_rfl) (by simp) ?_
                refine allQ_cons (qOp_step rfl (fun _ _ _ _ => trivial) (fun K hK => ?_)) allQ_nil
                go_simp
                refine hK _ ?_
                clear hK K
                refine anyQ_ready (rs := [10]) (by kernel_rfl) (by simp) ?_
                refine allQ_cons (qOp_step rfl (fun _ _ _ _ => trivial) (fun K hK => ?_)) allQ_nil
                go_simp
                apply Exists.intro
                refine ⟨fun _ => ?_, hK _ ?_⟩
                · gi_at_call 142
                  with_reducible exact CallsIn.quiet_of_same (CallsIn.inRound l' (callsIn_wide.2 ((HDs.out _).mono fun _ _ h => ⟨h.1, h.2.symm⟩)))
                clear hK K
                exact ⟨by decide, rfl⟩
            · go_simp
              refine hK _ ?_
              clear hK K
              refine anyQ_ready (rs := [7, 9]) (by kernel_rfl) (by simp) ?_
              refine allQ_cons (qOp_step rfl (fun _ _ _ _ => trivial) (fun K hK => ?_)) (allQ_cons (qOp_step rfl (fun _ _ _ _ => trivial) (fun K hK => ?_)) allQ_nil)
              · go_simp
                refine hK _ ?_
                clear hK K
                refine anyQ_ready (rs := [9]) (by kernel_rfl) (by simp) ?_
                refine allQ_cons (qOp_step rfl (fun _ _ _ _ => trivial) (fun K hK => ?_)) allQ_nil
                go_simp
                refine hK _ ?_
                clear hK K
                refine anyQ_ready (rs := [10]) (by kernel_rfl) (by simp) ?_
                refine allQ_cons (qOp_step rfl (fun _ _ _ _ => trivial) (fun K hK => ?_)) allQ_nil
                go_simp
                apply Exists.intro
                refine ⟨fun _ => ?_, hK _ ?_⟩
                · gi_at_call 142
                  with_reducible exact CallsIn.quiet_of_same (CallsIn.inRound l' (callsIn_wide.2 ((HDs.out _).mono fun _ _ h => ⟨h.1, h.2.symm⟩)))
                clear hK K
                exact ⟨by decide, rfl⟩
              · go_simp
                refine hK _ ?_
                clear hK K
                refine anyQ_ready (rs := [7, 10]) (by kernel_rfl) (by simp) ?_
                refine allQ_cons (qOp_step rfl (fun _ _ _ _ => trivial) (fun K hK => ?_)) (allQ_cons (qOp_step rfl (fun _ _ _ _ => trivial) (fun K hK => ?_)) allQ_nil)
                · go_simp
                  refine hK _ ?_
                  clear hK K
                  refine anyQ_ready (rs := [10]) (by kernel_rfl) (by simp) ?_
                  refine allQ_cons (qOp_step rfl (fun _ _ _ _ => trivial) (fun K hK => ?_)) allQ_nil
                  go_simp
                  apply Exists.intro
                  refine ⟨fun _ => ?_, hK _ ?_⟩
                  · gi_at_call 142
                    with_reducible exact CallsIn.quiet_of_same (CallsIn.inRound l' (callsIn_wide.2 ((HDs.out _).mono fun _ _ h => ⟨h.1, h.2.symm⟩)))
                  clear hK K
                  exact ⟨by decide, rfl⟩
                · go_simp
                  apply Exists.intro
                  refine ⟨fun _ => ?_, hK _ ?_⟩
                  · gi_at_call 142
                    with_reducible exact CallsIn.quiet_of_same (CallsIn.inRound l' (callsIn_wide.2 ((HDs.out _).mono fun _ _ h => ⟨h.1, h.2.symm⟩)))
                  clear hK K
                  refine anyQ_ready (rs := [7]) (by kernel_rfl) (by simp) ?_
                  refine allQ_cons (qOp_step rfl (fun _ _ _ _ => trivial) (fun K hK => ?_)) allQ_nil
                  go_simp
                  refine hK _ ?_
                  clear hK K
                  exact ⟨by decide, rfl⟩
            · go_simp
              refine hK _ ?_
              clear hK K
              refine anyQ_ready (rs := [7, 8]) (by kernel_rfl) (by simp) ?_
              refine allQ_cons (qOp_step rfl (fun _ _ _ _ => trivial) (fun K hK => ?_)) (allQ_cons (qOp_step rfl (fun _ _ _ _ => trivial) (fun K hK => ?_)) allQ_nil)
              · go_simp
                refine hK _ ?_
                clear hK K
                refine anyQ_ready (rs := [8]) (by kernel_rfl) (by simp) ?_
                refine allQ_cons (qOp_step rfl (fun _ _ _ _ => trivial) (fun K hK => ?_)) allQ_nil
                go_simp
                refine hK _ ?_
                clear hK K
                refine anyQ_ready (rs := [10]) (by kernel_rfl) (by simp) ?_
                refine allQ_cons (qOp_step rfl (fun _ _ _ _ => trivial) (fun K hK => ?_)) allQ_nil
                go_simp
                apply Exists.intro
                refine ⟨fun _ => ?_, hK _ ?_⟩
                · gi_at_call 142
                  with_reducible exact CallsIn.quiet_of_same (CallsIn.inRound l' (callsIn_wide.2 ((HDs.out _).mono fun _ _ h => ⟨h.1, h.2.symm⟩)))
                clear hK K
                exact ⟨by decide, rfl⟩
              · go_simp
                refine hK _ ?_
                clear hK K
                refine anyQ_ready (rs := [7, 10]) (by kernel_rfl) (by simp) ?_
                refine allQ_cons (qOp_step rfl (fun _ _ _ _ => trivial) (fun K hK => ?_)) (allQ_cons (qOp_step rfl (fun _ _ _ _ => trivial) (fun K hK => ?_)) allQ_nil)
                · go_simp
                  refine hK _ ?_
                  clear hK K
                  refine anyQ_ready (rs := [10]) (by kernel_rfl) (by simp) ?_
                  refine allQ_cons (qOp_step rfl (fun _ _ _ _ => trivial) (fun K hK => ?_)) allQ_nil
                  go_simp
                  apply Exists.intro
                  refine ⟨fun _ => ?_, hK _ ?_⟩
                  · gi_at_call 142
                    with_reducible exact CallsIn.quiet_of_same (CallsIn.inRound l' (callsIn_wide.2 ((HDs.out _).mono fun _ _ h => ⟨h.1, h.2.symm⟩)))
                  clear hK K
                  exact ⟨by decide, rfl⟩
                · go_simp
                  apply Exists.intro
                  refine ⟨fun _ => ?_, hK _ ?_⟩
                  · gi_at_call 142
                    with_reducible exact CallsIn.quiet_of_same (CallsIn.inRound l' (callsIn_wide.2 ((HDs.out _).mono fun _ _ h => ⟨h.1, h.2.symm⟩)))
                  clear hK K
                  refine anyQ_ready (rs := [7]) (by kernel_rfl) (by simp) ?_
                  refine allQ_cons (qOp_step rfl (fun _ _ _ _ => trivial) (fun K hK => ?_)) allQ_nil
                  go_simp
                  refine hK _ ?_
                  clear hK K
                  exact ⟨by decide, rfl⟩
          case hQ =>
            intro nq
            obtain ⟨fn, tmps, assign, body, hy, hR⟩ := HYX.out (X1.drewN nq) (G1.drewN nq)
            refine wpAnyIn_ready (rs := [11]) (by kernel_rfl) (by simp) ?_
            refine AllReadyIn.cons rfl (fun K hK => ?_) AllReadyIn.nil
            go_simp
            have hkx : Kx (q5 :: q6 :: bs) X (X1.drewN nq) := Kx.of_below (G1.drewN nq).below
            refine (RoundIn_in (l' := l') hR).mono ?_
            rintro e W3 ⟨(⟨rfl, hJ3⟩ | ⟨rfl, hJx3⟩), hk3⟩
            · have hkx3 := hkx.trans (hk3.more (cs := q5 :: q6 :: bs) (fun b hb => by simp [hb]))
              have d4 := hk3.boxed (boxed_gr b4 (G1.drewN nq)) (fun e => by have := hbs _ e; omega)
              have d5 := hk3.boxed (boxed_gr b5 (G1.drewN nq)) (fun e => by have := hbs _ e; omega)
              have d6 := hk3.boxed (boxed_gr b6 (G1.drewN nq)) (fun e => by have := hbs _ e; omega)
              have d2 := hk3.boxed (boxed_gr b2 (G1.drewN nq)) n2
              have d3 := hk3.boxed (boxed_gr b3 (G1.drewN nq)) n3
              have HD3 := Lib.hid ((HDX.out.gr (G1.drewN nq)).kx hk3 nD)
              have u5 := d5.cell
              have u6 := d6.cell
              have v5 := d5.frozen
              have v6 := d6.frozen
              refine hK _ _ ?_
              clear hK K
              refine wpAnyIn_ready (rs := [12]) (by kernel_rfl) (by simp) ?_
              refine AllReadyIn.cons rfl (fun K hK => ?_) AllReadyIn.nil
              go_simp
              refine hK _ _ ?_
              clear hK K
              refine wpAnyIn_ready (rs := [13]) (by kernel_rfl) (by simp) ?_
              refine AllReadyIn.cons rfl (fun K hK => ?_) AllReadyIn.nil
              go_simp
              refine hK _ _ ?_
              clear hK K
              refine wpAnyIn_done (by kernel_rfl) ?_ _
              gi_wp2
              obtain ⟨r1, r2, r3⟩ := gap_end (bs := bs) (X := X) y (mdl 4 len y) _ hJ e5 e6 hlt2 hlt3 hltD hkx3 d4 d5 d6 d2 d3 HD3.out hJ3
              exact ⟨r1, by simp only [HT.out, HLS.out, HLM.out, HG.out]; exact ⟨r2, r3⟩⟩
            · have hkx3 := hkx.trans (hk3.more (cs := q5 :: q6 :: bs) (fun b hb => by simp [hb]))
              refine hK _ _ ?_
              clear hK K
              refine wpAnyIn_ready (rs := [12]) (by kernel_rfl) (by simp) ?_
              refine AllReadyIn.cons rfl (fun K hK => ?_) AllReadyIn.nil
              go_simp
              refine hK _ _ ?_
              clear hK K
              refine wpAnyIn_ready (rs := [13]) (by kernel_rfl) (by simp) ?_
              refine AllReadyIn.cons rfl (fun K hK => ?_) AllReadyIn.nil
              go_simp
              refine hK _ _ ?_
              clear hK K
              refine wpAnyIn_done (by kernel_rfl) ?_ _
              gi_wp2
              exact ⟨hkx3, by simp only [HT.out, HG.out]; exact hJx3⟩
      · have g1 : (s == 4) = false := by simpa using e1
        have HG := Lib.hid (show gapsL s len (unM pre ++ [y]) = gapsL s len (unM pre) ++ [dd] by rw [HGS.out, HG1.out, if_pos (by unfold cnts; simp; omega)])
        gi_wp2_with (refine ⟨trivial, ?_⟩; gi_at_call 103; refine (CallsIn.inRound l' (callsIn_wide.2 (HMO.out _ HDX.out))).mono ?_; rintro e w' ⟨rfl, kk, os, rfl⟩; obtain ⟨X1, hX1⟩ : ∃ X1, gr X kk os = X1 := ⟨_, rfl⟩; rw [hX1]; have G1 : Gr X X1 := (by rw [← hX1]; exact (Gr.refl X).gr kk os); clear hX1; have z2 := (boxed_gr b2 G1).cell; have z4 := (boxed_gr b4 G1).cell; have z5 := (boxed_gr b5 G1).cell; have z6 := (boxed_gr b6 G1).cell; have f5 := (boxed_gr b5 G1).frozen; have f6 := (boxed_gr b6 G1).frozen)
        apply wpIn_region_prefixA #[true, true, true, true, true, true, true, true, true, true, true, false, false, false] (fuel := 11) (r := 3) (hm := by kernel_rfl) (hd := by kernel_rfl) (hsz := by rfl)
        case hq =>
          refine anyQ_ready (rs := [0]) (by kernel_rfl) (by simp) ?_
          refine allQ_cons (qOp_step rfl (fun _ _ _ _ => trivial) (fun K hK => ?_)) allQ_nil
          go_simp
          refine hK _ ?_
          clear hK K
          refine anyQ_ready (rs := [1]) (by kernel_rfl) (by simp) ?_
          refine allQ_cons (qOp_step rfl (fun _ _ _ _ => trivial) (fun K hK => ?_)) allQ_nil
          go_simp
          refine hK _ ?_
          clear hK K
          refine anyQ_ready (rs := [2]) (by kernel_rfl) (by simp) ?_
          refine allQ_cons (qOp_step rfl (fun _ _ _ _ => trivial) (fun K hK => ?_)) allQ_nil
          go_simp
          refine hK _ ?_
          clear hK K
          refine anyQ_ready (rs := [3]) (by kernel_rfl) (by simp) ?_
          refine allQ_cons (qOp_step rfl (fun _ _ _ _ => trivial) (fun K hK => ?_)) allQ_nil
          go_simp
          refine hK _ ?_
          clear hK K
          refine anyQ_ready (rs := [4]) (by kernel_rfl) (by simp) ?_
          refine allQ_cons (qOp_step rfl (fun _ _ _ _ => trivial) (fun K hK => ?_)) allQ_nil
          go_simp
          refine hK _ ?_
          clear hK K
          refine anyQ_ready (rs := [5]) (by kernel_rfl) (by simp) ?_
          refine allQ_cons (qOp_step rfl (fun _ _ _ _ => trivial) (fun K hK => ?_)) allQ_nil
          go_simp
          refine hK _ ?_
          clear hK K
          refine anyQ_ready (rs := [6]) (by kernel_rfl) (by simp) ?_
          refine allQ_cons (qOp_step rfl (fun _ _ _ _ => trivial) (fun K hK => ?_)) allQ_nil
          go_simp
          refine hK _ ?_
          clear hK K
          refine anyQ_ready (rs := [7, 8, 9]) (by kernel_rfl) (by simp) ?_
          refine allQ_cons (qOp_step rfl (fun _ _ _ _ => trivial) (fun K hK => ?_)) (allQ_cons (qOp_step rfl (fun _ _ _ _ => trivial) (fun K hK => ?_)) (allQ_cons (qOp_step rfl (fun _ _ _ _ => trivial) (fun K hK => ?_)) allQ_nil))
          · go_simp
            refine hK _ ?_
            clear hK K
            refine anyQ_ready (rs := [8, 9]) (by kernel_rfl) (by simp) ?_
            refine allQ_cons (qOp_step rfl (fun _ _ _ _ => trivial) (fun K hK => ?_)) (allQ_cons (qOp_step rfl (fun _ _ _ _ => trivial) (fun K hK => ?_)) allQ_nil)
            · go_simp
              refine hK _ ?_
              clear hK K
              refine anyQ_ready (rs := [9]) (by kernel_rfl) (by simp) ?_
              refine allQ_cons (qOp_step rfl (fun _ _ _ _ => trivial) (fun K hK => ?_)) allQ_nil
              go_simp
              refine hK _ ?_
              clear hK K
              refine anyQ_ready (rs := [10]) (by kernel_rfl) (by simp) ?_
              refine allQ_cons (qOp_step rfl (fun _ _ _ _ => trivial) (fun K hK => ?_)) allQ_nil
              go_simp
              apply Exists.intro
              refine ⟨fun _ => ?_, hK _ ?_⟩
              · gi_at_call 142
                with_reducible exact CallsIn.quiet_of_same (CallsIn.inRound l' (callsIn_wide.2 ((HDs.out _).mono fun _ _ h => ⟨h.1, h.2.symm⟩)))
              clear hK K
              exact ⟨by decide, rfl⟩
            · go_simp
              refine hK _ ?_
              clear hK K
              refine anyQ_ready (rs := [8]) (by kernel_rfl) (by simp) ?_
              refine allQ_cons (qOp_step rfl (fun _ _ _ _ => trivial) (fun K hK => ?_)) allQ_nil
              go_simp
              refine hK _ ?_
              clear hK K
              refine anyQ_ready (rs := [10]) (by kernel_rfl) (by simp) ?_
              refine allQ_cons (qOp_step rfl (fun _ _ _ _ => trivial) (fun K hK => ?_)) allQ_nil
              go_simp
              apply Exists.intro
              refine ⟨fun _ => ?_, hK _ ?_⟩
              · gi_at_call 142
                with_reducible exact CallsIn.quiet_of_same (CallsIn.inRound l' (callsIn_wide.2 ((HDs.out _).mono fun _ _ h => ⟨h.1, h.2.symm⟩)))
              clear hK K
              exact ⟨by decide, rfl⟩
          · go_simp
            refine hK _ ?_
            clear hK K
            refine anyQ_ready (rs := [7, 9]) (by kernel_rfl) (by simp) ?_
            refine allQ_cons (qOp_step rfl (fun _ _ _ _ => trivial) (fun K hK => ?_)) (allQ_cons (qOp_step rfl (fun _ _ _ _ => trivial) (fun K hK => ?_)) allQ_nil)
            · go_simp
              refine hK _ ?_
              clear hK K
              refine anyQ_ready (rs := [9]) (by kernel_rfl) (by simp) ?_
              refine allQ_cons (qOp_step rfl (fun _ _ _ _ => trivial) (fun K hK => ?_)) allQ_nil
              go_simp
              refine hK _ ?_
              clear hK K
              refine anyQ_ready (rs := [10]) (by kernel_rfl) (by simp) ?_
              refine allQ_cons (qOp_step rfl (fun _ _ _ _ => trivial) (fun K hK => ?_)) allQ_nil
              go_simp
              apply Exists.intro
              refine ⟨fun _ => ?_, hK _ ?_⟩
              · gi_at_call 142
                with_reducible exact CallsIn.quiet_of_same (CallsIn.inRound l' (callsIn_wide.2 ((HDs.out _).mono fun _ _ h => ⟨h.1, h.2.symm⟩)))
              clear hK K
              exact ⟨by decide, rfl⟩
            · go_simp
              refine hK _ ?_
              clear hK K
              refine anyQ_ready (rs := [7, 10]) (by kernel_rfl) (by simp) ?_
              refine allQ_cons (qOp_step rfl (fun _ _ _ _ => trivial) (fun K hK => ?_)) (allQ_cons (qOp_step rfl (fun _ _ _ _ => trivial) (fun K hK => ?_)) allQ_nil)
              · go_simp
                refine hK _ ?_
                clear hK K
                refine anyQ_ready (rs := [10]) (by kernel_rfl) (by simp) ?_
                refine allQ_cons (qOp_step rfl (fun _ _ _ _ => trivial) (fun K hK => ?_)) allQ_nil
                go_simp
                apply Exists.intro
                refine ⟨fun _ => ?_, hK _ ?_⟩
                · gi_at_call 142
                  with_reducible exact CallsIn.quiet_of_same (CallsIn.inRound l' (callsIn_wide.2 ((HDs.out _).mono fun _ _ h => ⟨h.1, h.2.symm⟩)))
                clear hK K
                exact ⟨by decide, rfl⟩
              · go_simp
                apply Exists.intro
                refine ⟨fun _ => ?_, hK _ ?_⟩
                · gi_at_call 142
                  with_reducible exact CallsIn.quiet_of_same (CallsIn.inRound l' (callsIn_wide.2 ((HDs.out _).mono fun _ _ h => ⟨h.1, h.2.symm⟩)))
                clear hK K
                refine anyQ_ready (rs := [7]) (by kernel_rfl) (by simp) ?_
                refine allQ_cons (qOp_step rfl (fun _ _ _ _ => trivial) (fun K hK => ?_)) allQ_nil
                go_simp
                refine hK _ ?_
                clear hK K
                exact ⟨by decide, rfl⟩
          · go_simp
            refine hK _ ?_
            clear hK K
            refine anyQ_ready (rs := [7, 8]) (by kernel_rfl) (by simp) ?_
            refine allQ_cons (qOp_step rfl (fun _ _ _ _ => trivial) (fun K hK => ?_)) (allQ_cons (qOp_step rfl (fun _ _ _ _ => trivial) (fun K hK => ?_)) allQ_nil)
            · go_simp
              refine hK _ ?_
              clear hK K
              refine anyQ_ready (rs := [8]) (by kernel_rfl) (by simp) ?_
              refine allQ_cons (qOp_step rfl (fun _ _ _ _ => trivial) (fun K hK => ?_)) allQ_nil
              go_simp
              refine hK _ ?_
              clear hK K
              refine anyQ_ready (rs := [10]) (by kernel_rfl) (by simp) ?_
              refine allQ_cons (qOp_step rfl (fun _ _ _ _ => trivial) (fun K hK => ?_)) allQ_nil
              go_simp
              apply Exists.intro
              refine ⟨fun _ => ?_, hK _ ?_⟩
              · gi_at_call 142
                with_reducible exact CallsIn.quiet_of_same (CallsIn.inRound l' (callsIn_wide.2 ((HDs.out _).mono fun _ _ h => ⟨h.1, h.2.symm⟩)))
              clear hK K
              exact ⟨by decide, rfl⟩
            · go_simp
              refine hK _ ?_
              clear hK K
              refine anyQ_ready (rs := [7, 10]) (by kernel_rfl) (by simp) ?_
              refine allQ_cons (qOp_step rfl (fun _ _ _ _ => trivial) (fun K hK => ?_)) (allQ_cons (qOp_step rfl (fun _ _ _ _ => trivial) (fun K hK => ?_)) allQ_nil)
              · go_simp
                refine hK _ ?_
                clear hK K
                refine anyQ_ready (rs := [10]) (by kernel_rfl) (by simp) ?_
                refine allQ_cons (qOp_step rfl (fun _ _ _ _ => trivial) (fun K hK => ?_)) allQ_nil
                go_simp
                apply Exists.intro
                refine ⟨fun _ => ?_, hK _ ?_⟩
                · gi_at_call 142
                  with_reducible exact CallsIn.quiet_of_same (CallsIn.inRound l' (callsIn_wide.2 ((HDs.out _).mono fun _ _ h => ⟨h.1, h.2.symm⟩)))
                clear hK K
                exact ⟨by decide, rfl⟩
              · go_simp
                apply Exists.intro
                refine ⟨fun _ => ?_, hK _ ?_⟩
                · gi_at_call 142
                  with_reducible exact CallsIn.quiet_of_same (CallsIn.inRound l' (callsIn_wide.2 ((HDs.out _).mono fun _ _ h => ⟨h.1, h.2.symm⟩)))
                clear hK K
                refine anyQ_ready (rs := [7]) (by kernel_rfl) (by simp) ?_
                refine allQ_cons (qOp_step rfl (fun _ _ _ _ => trivial) (fun K hK => ?_)) allQ_nil
                go_simp
                refine hK _ ?_
                clear hK K
                exact ⟨by decide, rfl⟩
        case hQ =>
          intro nq
          obtain ⟨fn, tmps, assign, body, hy, hR⟩ := HYX.out (X1.drewN nq) (G1.drewN nq)
          refine wpAnyIn_ready (rs := [11]) (by kernel_rfl) (by simp) ?_
          refine AllReadyIn.cons rfl (fun K hK => ?_) AllReadyIn.nil
          go_simp
          have hkx : Kx (q5 :: q6 :: bs) X (X1.drewN nq) := Kx.of_below (G1.drewN nq).below
          refine (RoundIn_in (l' := l') hR).mono ?_
          rintro e W3 ⟨(⟨rfl, hJ3⟩ | ⟨rfl, hJx3⟩), hk3⟩
          · have hkx3 := hkx.trans (hk3.more (cs := q5 :: q6 :: bs) (fun b hb => by simp [hb]))
            have d4 := hk3.boxed (boxed_gr b4 (G1.drewN nq)) (fun e => by have := hbs _ e; omega)
            have d5 := hk3.boxed (boxed_gr b5 (G1.drewN nq)) (fun e => by have := hbs _ e; omega)
            have d6 := hk3.boxed (boxed_gr b6 (G1.drewN nq)) (fun e => by have := hbs _ e; omega)
            have d2 := hk3.boxed (boxed_gr b2 (G1.drewN nq)) n2
            have d3 := hk3.boxed (boxed_gr b3 (G1.drewN nq)) n3
            have HD3 := Lib.hid ((HDX.out.gr (G1.drewN nq)).kx hk3 nD)
            have u5 := d5.cell
            have u6 := d6.cell
            have v5 := d5.frozen
            have v6 := d6.frozen
            refine hK _ _ ?_
            clear hK K
            refine wpAnyIn_ready (rs := [12]) (by kernel_rfl) (by simp) ?_
            refine AllReadyIn.cons rfl (fun K hK => ?_) AllReadyIn.nil
            go_simp
            refine hK _ _ ?_
            clear hK K
            refine wpAnyIn_ready (rs := [13]) (by kernel_rfl) (by simp) ?_
            refine AllReadyIn.cons rfl (fun K hK => ?_) AllReadyIn.nil
            go_simp
            refine hK _ _ ?_
            clear hK K
            refine wpAnyIn_done (by kernel_rfl) ?_ _
            gi_wp2
            obtain ⟨r1, r2, r3⟩ := gap_end (bs := bs) (X := X) y (mdl s len y) _ hJ e5 e6 hlt2 hlt3 hltD hkx3 d4 d5 d6 d2 d3 HD3.out hJ3
            exact ⟨r1, by simp only [HT.out, HLS.out, HLM.out, HG.out]; exact ⟨r2, r3⟩⟩
          · have hkx3 := hkx.trans (hk3.more (cs := q5 :: q6 :: bs) (fun b hb => by simp [hb]))
            refine hK _ _ ?_
            clear hK K
            refine wpAnyIn_ready (rs := [12]) (by kernel_rfl) (by simp) ?_
            refine AllReadyIn.cons rfl (fun K hK => ?_) AllReadyIn.nil
            go_simp
            refine hK _ _ ?_
            clear hK K
            refine wpAnyIn_ready (rs := [13]) (by kernel_rfl) (by simp) ?_
            refine AllReadyIn.cons rfl (fun K hK => ?_) AllReadyIn.nil
            go_simp
            refine hK _ _ ?_
            clear hK K
            refine wpAnyIn_done (by kernel_rfl) ?_ _
            gi_wp2
            exact ⟨hkx3, by simp only [HT.out, HG.out]; exact hJx3⟩
  case done =>
    rintro D ys X hD' hS ⟨_, hJX⟩ hK
    gi_wp2
    refine ⟨by simp, .inl ⟨_, _, rfl, run_takeDeferred hK, ?_⟩⟩
    exact ⟨_, results_none rfl _ _ _, ⟨_, rfl⟩, .inl ⟨_, by rw [hS], hJ.putObj _ hJX (by omega)⟩⟩
  case stop =>
    rintro D pre X hD' hS hJX hK
    gi_wp2
    refine ⟨by simp, .inl ⟨_, _, rfl, run_takeDeferred hK, ?_⟩⟩
    exact ⟨_, results_none rfl _ _ _, ⟨_, rfl⟩, .inr ⟨_, gapsL_pre s len hS, hJx.putObj _ hJX (by omega)⟩⟩
end Go.Proofs.YtggflladheemoaaDoor
