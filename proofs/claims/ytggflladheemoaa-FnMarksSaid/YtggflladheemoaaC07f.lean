/- Contracts of chapter 7: the program's validity, its count of marks, its marks. -/
import Derived.Test.YtggflladheemoaaC07d
import Derived.Test.YtggflladheemoaaMC
import Derived.Test.YtggflladheemoaaD1
namespace Go.Proofs.Ytggflladheemoaa
open Go.RowKit
set_option linter.unusedVariables false
set_option linter.unusedSimpArgs false

theorem isDivided_any (a b c : Int) (w : World) (h0 : 0 ≤ a) (h1 : a < b) (h2 : b ≤ 9223372036854775807) :
    Calls Try.prog 53 #[.agg #[.int .i64 a, .int .i64 b, .int .i64 c]] w fun e w' => e = .returned (.bool (dvd7 (a, b, c))) ∧ Gr w w' := by
  have HD := Lib.hid (show dvd7 (a, b, c) = decide (1 ≤ c ∧ (b - a).tmod c = 0) from rfl)
  have hw1 : IntKind.i64.wrap (b - a) = b - a := IntWalk.i64_in _ (by omega)
  by_cases q1 : 1 ≤ c
  rotate_left
  · have g1 : decide (1 ≤ c) = false := decide_eq_false q1
    have HQ := Lib.hid (show dvd7 (a, b, c) = false by rw [HD.out]; exact decide_eq_false (fun q => q1 q.1))
    go_enter Try.func53, Try.ntmps53
    go_wp2
    ((try simp only [Exit.inBlock, Exit.then]); refine bodyPost_ret (v := .bool false) (by simp [results, Try.results53, go_sem]) rfl ?_)
    exact ⟨ret_bool HQ.out.symm, (by repeat (first | with_reducible exact Gr.refl _ | with_reducible refine Gr.alloc ?_ _ | with_reducible refine Gr.gr ?_ _ _ | with_reducible refine Gr.drew ?_ | with_reducible refine Gr.drewN ?_ _))⟩
  have g1 : decide (1 ≤ c) = true := decide_eq_true q1
  have hz0 : (c == 0) = false := by simp; omega
  have hb := Int.emod_lt_of_pos (b - a) (show 0 < c by omega)
  have hb0 := Int.emod_nonneg (b - a) (show c ≠ 0 by omega)
  have he : (b - a).tmod c = (b - a) % c := Int.tmod_eq_emod_of_nonneg (by omega)
  by_cases q3 : (b - a) % c = 0
  · have HQ := Lib.hid (show dvd7 (a, b, c) = true by rw [HD.out]; exact decide_eq_true ⟨q1, by rw [he]; exact q3⟩)
    go_enter Try.func53, Try.ntmps53
    go_wp2
    ((try simp only [Exit.inBlock, Exit.then]); refine bodyPost_ret (v := .bool true) (by simp [results, Try.results53, go_sem]) rfl ?_)
    exact ⟨ret_bool HQ.out.symm, (by repeat (first | with_reducible exact Gr.refl _ | with_reducible refine Gr.alloc ?_ _ | with_reducible refine Gr.gr ?_ _ _ | with_reducible refine Gr.drew ?_ | with_reducible refine Gr.drewN ?_ _))⟩
  · have HQ := Lib.hid (show dvd7 (a, b, c) = false by rw [HD.out]; exact decide_eq_false (fun q => q3 (by rw [← he]; exact q.2)))
    have q5 : ((b - a) % c == 0) = false := by simpa using q3
    go_enter Try.func53, Try.ntmps53
    go_wp2
    ((try simp only [Exit.inBlock, Exit.then]); refine bodyPost_ret (v := .bool false) (by simp [results, Try.results53, go_sem]) rfl ?_)
    exact ⟨ret_bool HQ.out.symm, (by repeat (first | with_reducible exact Gr.refl _ | with_reducible refine Gr.alloc ?_ _ | with_reducible refine Gr.gr ?_ _ _ | with_reducible refine Gr.drew ?_ | with_reducible refine Gr.drewN ?_ _))⟩
/-- Every number of every part is an int64. -/
abbrev Wf3 (zs : List P3) : Prop := ∀ z ∈ zs, (Lit.int .i64 z.1).wf = true ∧ (Lit.int .i64 z.2.1).wf = true ∧ (Lit.int .i64 z.2.2).wf = true

set_option maxHeartbeats 4000000 in
/-- The program's validity. -/
theorem gd_impl (A : Option Addr) (n c : Nat) (zs : List P3) (w : World) (hn : zs.length = n) (hN : n ≤ 16777216) (hA : Reads w w.heap.size A (cells3 zs)) (hW : Wf3 zs) :
    Calls Try.prog 21 #[.slice A n c] w fun e w' => e = .returned (.bool (gd zs)) ∧ Gr w w' := by
  have HL := Lib.hid hn
  have HA := Lib.hid hA
  have HWF := Lib.hid hW
  clear hA hW
  by_cases hc : n ≤ 12
  · have HGd := Lib.hid (show gd zs = decide (gdJ 1000 zs = some 10000) by rw [gd_J, hn, decide_eq_true hc, Bool.true_and])
    clear hn
    go_enter Try.func21, Try.ntmps21
    go_wp2
    go_loopw [3, 11] (fun a i wr => ∃ (k : Nat) (b : Int), k ≤ n ∧ i = .int .i64 k ∧ a = .int .i64 b ∧ 1000 ≤ b ∧ b ≤ 9223372036854775807 ∧ Hid (gdJ 1000 (zs.take k) = some b) ∧ Gr w wr) (fun _ i _ => n - (intOf i).toNat)
    case atStart => exact ⟨0, 1000, by omega, rfl, rfl, by omega, by omega, Lib.hid (by simp [gdJ]), Gr.refl _⟩
    case round =>
      obtain ⟨k, b, hk, rfl, rfl, b1, b2, hE, hG⟩ := hrel
      by_cases hlt : k < n
      · obtain ⟨z, hz⟩ := some_at (l := zs) (k := k) (by rw [HL.out]; exact hlt)
        obtain ⟨g, o, rfl, hg, x0, x1, x2⟩ := (HA.out.gr hG).at3 hz
        obtain ⟨-, q0⟩ := i64_bd (HWF.out z (List.mem_of_getElem? hz)).2.1
        have HT := Lib.hid (gdJ_take hz hE.out)
        have HP := Lib.hid (ptJ_iff b z)
        obtain ⟨za, zb, zc⟩ := z
        simp only at x0 x1 x2 HT HP q0
        clear hz
        have hno : ptJ b (za, zb, zc) = false → gd zs = false := fun ho => by rw [HGd.out, HT.out.2 ho]; rfl
        have HNO := Lib.hid hno
        clear hno
        by_cases q1 : za = b
        rotate_left
        · have HQ := Lib.hid (HNO.out (by cases hp : ptJ b (za, zb, zc); rfl; exact absurd (HP.out.1 hp).1 q1))
          go_wp2
          go_ret
          exact ⟨ret_bool HQ.out.symm, hG.trans (by repeat (first | with_reducible exact Gr.refl _ | with_reducible refine Gr.alloc ?_ _ | with_reducible refine Gr.gr ?_ _ _ | with_reducible refine Gr.drew ?_ | with_reducible refine Gr.drewN ?_ _))⟩
        subst q1
        by_cases q2 : za < zb
        rotate_left
        · have HQ := Lib.hid (HNO.out (by cases hp : ptJ za (za, zb, zc); rfl; exact absurd (HP.out.1 hp).2.1 q2))
          go_wp2
          go_ret
          exact ⟨ret_bool HQ.out.symm, hG.trans (by repeat (first | with_reducible exact Gr.refl _ | with_reducible refine Gr.alloc ?_ _ | with_reducible refine Gr.gr ?_ _ _ | with_reducible refine Gr.drew ?_ | with_reducible refine Gr.drewN ?_ _))⟩
        have HDV := Lib.hid (fun W => isDivided_any za zb zc W (by omega) q2 q0)
        rcases Bool.eq_false_or_eq_true (dvd7 (za, zb, zc)) with q3 | q3
        · have HQ := Lib.hid (HT.out.1 (HP.out.2 ⟨rfl, q2, q3⟩))
          rw [q3] at HDV
          clear q3
          go_wp2_with (go_at_call 53; refine (HDV.out _).mono ?_; rintro e w' ⟨rfl, kk, os, rfl⟩)
          go_roundw
          case rel => exact ⟨k + 1, zb, by omega, by go_num, rfl, by omega, by omega, HQ, hG.trans (by repeat (first | with_reducible exact Gr.refl _ | with_reducible refine Gr.alloc ?_ _ | with_reducible refine Gr.gr ?_ _ _ | with_reducible refine Gr.drew ?_ | with_reducible refine Gr.drewN ?_ _))⟩
          case measure => simp [intOf]; omega
        · have HQ := Lib.hid (HNO.out (by cases hp : ptJ za (za, zb, zc); rfl; have := (HP.out.1 hp).2.2; rw [q3] at this; cases this))
          rw [q3] at HDV
          clear q3
          go_wp2_with (go_at_call 53; refine (HDV.out _).mono ?_; rintro e w' ⟨rfl, kk, os, rfl⟩)
          go_ret
          exact ⟨ret_bool HQ.out.symm, hG.trans (by repeat (first | with_reducible exact Gr.refl _ | with_reducible refine Gr.alloc ?_ _ | with_reducible refine Gr.gr ?_ _ _ | with_reducible refine Gr.drew ?_ | with_reducible refine Gr.drewN ?_ _))⟩
      · obtain rfl : k = n := by omega
        have HF := Lib.hid (show zs.take k = zs from List.take_of_length_le (by rw [HL.out]; omega))
        have HQ := Lib.hid (show gd zs = decide (b = 10000) by rw [HGd.out, ← HF.out, hE.out]; simp)
        go_wp2
        go_ret
        exact ⟨ret_bool (by rw [HQ.out]; by_cases h : b = 10000 <;> simp [h]), hG⟩
  · have HQ := Lib.hid (show gd zs = false by rw [gd_J, hn, decide_eq_false hc]; rfl)
    clear hn
    go_enter Try.func21, Try.ntmps21
    go_wp2
    go_ret
    exact ⟨ret_bool HQ.out.symm, (by repeat (first | with_reducible exact Gr.refl _ | with_reducible refine Gr.alloc ?_ _ | with_reducible refine Gr.gr ?_ _ _ | with_reducible refine Gr.drew ?_ | with_reducible refine Gr.drewN ?_ _))⟩

set_option maxHeartbeats 1000000 in
theorem cm_impl (A : Option Addr) (n c : Nat) (zs : List P3) (w : World) (hn : zs.length = n) (hN : n ≤ 16777216) (hA : Reads w w.heap.size A (cells3 zs)) (hW : Wf3 zs) :
    Calls Try.prog 9 #[.slice A n c] w fun e w' => e = .returned (.tuple #[.int .i64 (cmV zs), .int .i64 (cmE zs)]) ∧ Gr w w' := by
  have HL := Lib.hid hn
  have HA := Lib.hid hA
  have HG := Lib.hid (gd_impl A n c zs w hn hN hA hW)
  clear hn hA hW
  rcases Bool.eq_false_or_eq_true (gd zs) with hv | hv
  · have HV := Lib.hid (fun (k : Nat) (p : P3) (hp : zs[k]? = some p) => gd_takeC hv hp)
    have HC := Lib.hid (show cmV zs = cntM zs ∧ cmE zs = 0 by unfold cmV cmE; rw [hv]; exact ⟨rfl, rfl⟩)
    rw [hv] at HG
    clear hv
    go_enter Try.func9, Try.ntmps9
    go_wp2_with (go_at_call 21; refine (HG.out).mono ?_; rintro e w' ⟨rfl, kk, os, rfl⟩)
    go_loopw [4, 12] (fun a i wr => ∃ k : Nat, i = .int .i64 k ∧ k ≤ n ∧ a = .int .i64 (cntM (zs.take k)) ∧ Gr w wr) (fun _ i _ => n - (intOf i).toNat)
    case atStart => exact ⟨0, rfl, by omega, by simp [cntM], (by repeat (first | with_reducible exact Gr.refl _ | with_reducible refine Gr.alloc ?_ _ | with_reducible refine Gr.gr ?_ _ _ | with_reducible refine Gr.drew ?_ | with_reducible refine Gr.drewN ?_ _))⟩
    case round =>
      obtain ⟨k, rfl, hk, rfl, hG⟩ := hrel
      by_cases hlt : k < n
      · obtain ⟨z, hz⟩ := some_at (l := zs) (k := k) (by rw [HL.out]; exact hlt)
        obtain ⟨a, ho, ha, hc1, hc2, hd1, hd2, hd3⟩ := HV.out k z hz
        obtain ⟨p1, p2, p3, p4, -⟩ := (ptOk_iff _ _).1 ho
        have HT := Lib.hid (cntM_take hz)
        obtain ⟨g, o, rfl, hg, x0, x1, x2⟩ := (HA.out.gr hG).at3 hz
        obtain ⟨za, zb, zc⟩ := z
        simp only at *
        subst p1
        clear hz ho
        generalize hcN : cntM (zs.take k) = cn at *
        rw [hd1] at HT
        generalize (prN (za, zb, zc) : Int) = N at *
        have HCN := Lib.hid hcN
        clear hcN
        have HD := Lib.hid hd1
        have HQ := Lib.hid (show (zb - za) / zc = N by rw [← Int.tdiv_eq_ediv_of_nonneg (by omega)]; exact hd1)
        have hw1 : IntKind.i64.wrap (zb - za) = zb - za := IntWalk.i64_in _ (by omega)
        have hw2 : IntKind.i64.wrap N = N := IntWalk.i64_in _ (by omega)
        have hw3 : IntKind.i64.wrap (cn + N) = cn + N := IntWalk.i64_in _ (by omega)
        have hz0 : (zc == 0) = false := by simp; omega
        go_wp2
        go_roundw
        case rel => exact ⟨k + 1, by go_num, by omega, by rw [HT.out], hG.trans (by repeat (first | with_reducible exact Gr.refl _ | with_reducible refine Gr.alloc ?_ _ | with_reducible refine Gr.gr ?_ _ _ | with_reducible refine Gr.drew ?_ | with_reducible refine Gr.drewN ?_ _))⟩
        case measure => simp [intOf]; omega
      · have HF := Lib.hid (show zs.take k = zs from List.take_of_length_le (by rw [HL.out]; omega))
        go_wp2
        ((try simp only [Exit.inBlock, Exit.then]); refine bodyPost_ret (v := .tuple #[.int .i64 (cntM (zs.take k)), .int .i64 0]) (by simp [results, Try.results9, go_sem]) rfl ?_)
        exact ⟨ret_two (by rw [HC.out.1, HF.out]) HC.out.2.symm, hG⟩
  · have HC := Lib.hid (show cmV zs = 0 ∧ cmE zs = 1 by unfold cmV cmE; rw [hv]; exact ⟨rfl, rfl⟩)
    rw [hv] at HG
    clear hv
    go_enter Try.func9, Try.ntmps9
    go_wp2_with (go_at_call 21; refine (HG.out).mono ?_; rintro e w' ⟨rfl, kk, os, rfl⟩)
    ((try simp only [Exit.inBlock, Exit.then]); refine bodyPost_ret (v := .tuple #[.int .i64 0, .int .i64 1]) (by simp [results, Try.results9, go_sem]) rfl ?_)
    exact ⟨ret_two HC.out.1.symm HC.out.2.symm, (by repeat (first | with_reducible exact Gr.refl _ | with_reducible refine Gr.alloc ?_ _ | with_reducible refine Gr.gr ?_ _ _ | with_reducible refine Gr.drew ?_ | with_reducible refine Gr.drewN ?_ _))⟩
set_option maxHeartbeats 1000000 in
theorem im_impl (A : Option Addr) (n c : Nat) (zs : List P3) (m : Int) (w : World) (hn : zs.length = n) (hN : n ≤ 16777216) (hA : Reads w w.heap.size A (cells3 zs)) (hW : Wf3 zs) :
    Calls Try.prog 18 #[.slice A n c, .int .i64 m] w fun e w' => e = .returned (.tuple #[.bool (imV zs m), .int .i64 (cmE zs)]) ∧ Gr w w' := by
  have HL := Lib.hid hn
  have HA := Lib.hid hA
  have HG := Lib.hid (gd_impl A n c zs w hn hN hA hW)
  clear hn hA hW
  rcases Bool.eq_false_or_eq_true (gd zs) with hv | hv
  · have HV := Lib.hid (fun (k : Nat) (p : P3) (hp : zs[k]? = some p) => gd_takeC hv hp)
    have HIN := Lib.hid (fun (k : Nat) (p : P3) (hp : zs[k]? = some p) => isM_in hv hp m)
    have HC := Lib.hid (show imV zs m = isM zs m ∧ cmE zs = 0 by unfold imV cmE; rw [hv]; exact ⟨rfl, rfl⟩)
    rw [hv] at HG
    clear hv
    go_enter Try.func18, Try.ntmps18
    go_wp2_with (go_at_call 21; refine (HG.out).mono ?_; rintro e w' ⟨rfl, kk, os, rfl⟩)
    go_loopw [13] (fun i wr => ∃ k : Nat, i = .int .i64 k ∧ k ≤ n ∧ Hid (isM (zs.take k) m = false) ∧ Gr w wr) (fun i _ => n - (intOf i).toNat)
    case atStart => exact ⟨0, rfl, by omega, Lib.hid (by simp [isM]), (by repeat (first | with_reducible exact Gr.refl _ | with_reducible refine Gr.alloc ?_ _ | with_reducible refine Gr.gr ?_ _ _ | with_reducible refine Gr.drew ?_ | with_reducible refine Gr.drewN ?_ _))⟩
    case round =>
      obtain ⟨k, rfl, hk, hI, hG⟩ := hrel
      by_cases hlt : k < n
      · obtain ⟨z, hz⟩ := some_at (l := zs) (k := k) (by rw [HL.out]; exact hlt)
        obtain ⟨a, ho, ha, -, -, -, -, -⟩ := HV.out k z hz
        obtain ⟨p1, p2, p3, p4, -⟩ := (ptOk_iff _ _).1 ho
        have HT := Lib.hid (isM_take m hz)
        have HS := Lib.hid (HIN.out k z hz)
        obtain ⟨g, o, rfl, hg, x0, x1, x2⟩ := (HA.out.gr hG).at3 hz
        obtain ⟨za, zb, zc⟩ := z
        simp only at *
        subst p1
        clear hz ho
        have HP := Lib.hid (show prI m (za, zb, zc) = decide (za ≤ m ∧ m < zb ∧ (m - za).tmod zc = 0) from rfl)
        have hno : ¬ (za ≤ m ∧ m < zb ∧ (m - za).tmod zc = 0) → isM (zs.take (k + 1)) m = false := fun q => by rw [HT.out, hI.out, HP.out, decide_eq_false q]; rfl
        have HNO := Lib.hid hno
        clear hno
        by_cases q1 : za ≤ m
        rotate_left
        · have HQ := Lib.hid (HNO.out (fun q => q1 q.1))
          have g1 : decide (za ≤ m) = false := decide_eq_false q1
          go_wp2
          go_roundw
          case rel => exact ⟨k + 1, by go_num, by omega, HQ, hG.trans (by repeat (first | with_reducible exact Gr.refl _ | with_reducible refine Gr.alloc ?_ _ | with_reducible refine Gr.gr ?_ _ _ | with_reducible refine Gr.drew ?_ | with_reducible refine Gr.drewN ?_ _))⟩
          case measure => simp [intOf]; omega
        by_cases q2 : m < zb
        rotate_left
        · have HQ := Lib.hid (HNO.out (fun q => q2 q.2.1))
          have g2 : decide (m < zb) = false := decide_eq_false q2
          go_wp2
          go_roundw
          case rel => exact ⟨k + 1, by go_num, by omega, HQ, hG.trans (by repeat (first | with_reducible exact Gr.refl _ | with_reducible refine Gr.alloc ?_ _ | with_reducible refine Gr.gr ?_ _ _ | with_reducible refine Gr.drew ?_ | with_reducible refine Gr.drewN ?_ _))⟩
          case measure => simp [intOf]; omega
        have hw1 : IntKind.i64.wrap (m - za) = m - za := IntWalk.i64_in _ (by omega)
        have hz0 : (zc == 0) = false := by simp; omega
        have hb := Int.emod_lt_of_pos (m - za) (show 0 < zc by omega)
        have hb0 := Int.emod_nonneg (m - za) (show zc ≠ 0 by omega)
        have he : (m - za).tmod zc = (m - za) % zc := Int.tmod_eq_emod_of_nonneg (by omega)
        have HS2 := Lib.hid (HS.out q1 q2)
        have HE := Lib.hid he
        clear he
        go_wp2
        ((try simp only [Exit.inBlock, Exit.then]); refine bodyPost_ret (v := .tuple #[.bool ((m - za) % zc == 0), .int .i64 0]) (by simp [results, Try.results18, go_sem]) rfl ?_)
        exact ⟨ret_bi7 (by rw [HC.out.1, HS2.out, HE.out, Bool.eq_iff_iff]; simp) HC.out.2.symm, hG.trans (by repeat (first | with_reducible exact Gr.refl _ | with_reducible refine Gr.alloc ?_ _ | with_reducible refine Gr.gr ?_ _ _ | with_reducible refine Gr.drew ?_ | with_reducible refine Gr.drewN ?_ _))⟩
      · have HF := Lib.hid (show zs.take k = zs from List.take_of_length_le (by rw [HL.out]; omega))
        go_wp2
        ((try simp only [Exit.inBlock, Exit.then]); refine bodyPost_ret (v := .tuple #[.bool false, .int .i64 0]) (by simp [results, Try.results18, go_sem]) rfl ?_)
        exact ⟨ret_bi7 (by rw [HC.out.1, ← hI.out, HF.out]) HC.out.2.symm, hG⟩
  · have HC := Lib.hid (show imV zs m = false ∧ cmE zs = 1 by unfold imV cmE; rw [hv]; exact ⟨rfl, rfl⟩)
    rw [hv] at HG
    clear hv
    go_enter Try.func18, Try.ntmps18
    go_wp2_with (go_at_call 21; refine (HG.out).mono ?_; rintro e w' ⟨rfl, kk, os, rfl⟩)
    ((try simp only [Exit.inBlock, Exit.then]); refine bodyPost_ret (v := .tuple #[.bool false, .int .i64 1]) (by simp [results, Try.results18, go_sem]) rfl ?_)
    exact ⟨ret_bi7 HC.out.1.symm HC.out.2.symm, (by repeat (first | with_reducible exact Gr.refl _ | with_reducible refine Gr.alloc ?_ _ | with_reducible refine Gr.gr ?_ _ _ | with_reducible refine Gr.drew ?_ | with_reducible refine Gr.drewN ?_ _))⟩
end Go.Proofs.Ytggflladheemoaa
