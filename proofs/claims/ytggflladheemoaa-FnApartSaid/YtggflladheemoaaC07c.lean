/- Contracts of chapter 7: the model's count of marks, its marks, the nearest one. -/
import Derived.Test.YtggflladheemoaaC07b
import Derived.BigQuiet
namespace Go.Proofs.Ytggflladheemoaa
open Go.RowKit
set_option linter.unusedVariables false
set_option linter.unusedSimpArgs false

theorem Lst.form {w : World} {B : Nat} {v : Value} {xs : List Int} (h : Lst w B v xs) (hn : 0 < xs.length) :
    ∃ g c : Nat, v = .slice (some ⟨g, 0, none⟩) xs.length c ∧ B ≤ g ∧ g < w.heap.size ∧ ∀ k x, xs[k]? = some x → w.cell? ⟨g, k, none⟩ = some (vi x) := by
  have hc := fun g hg => World.ownsRow.cells h (g := g) hg
  have hlt := World.ownsRow.lt h
  rcases h.2 with ⟨rfl, h0⟩ | ⟨g, cap, cur, rfl, -⟩
  · omega
  · refine ⟨g, cap, rfl, (hlt g rfl).1, (hlt g rfl).2, fun k x hk => ?_⟩
    have x1 := hc g rfl k (vi x) (by rw [List.getElem?_map, hk]; rfl)
    have ha : (⟨g, 0, none⟩ : Addr).add k = ⟨g, k, none⟩ := by unfold Addr.add; split <;> simp_all
    rw [ha] at x1
    exact x1
theorem cntM_take {zs : List P3} {k : Nat} {p : P3} (h : zs[k]? = some p) : cntM (zs.take (k + 1)) = cntM (zs.take k) + (p.2.1 - p.1).tdiv p.2.2 := by
  obtain ⟨hk, e⟩ := List.getElem?_eq_some_iff.1 h
  unfold cntM
  rw [List.take_succ_eq_append_getElem hk, e, List.map_append, List.sum_append]
  simp
theorem gd_takeC {zs : List P3} (h : gd zs = true) {k : Nat} {p : P3} (hp : zs[k]? = some p) :
    ∃ a, ptOk a p = true ∧ 1000 ≤ a ∧ 0 ≤ cntM (zs.take k) ∧ cntM (zs.take k) ≤ a - 1000 ∧ (p.2.1 - p.1).tdiv p.2.2 = (prN p : Int) ∧ (prN p : Int) ≤ 9000 ∧ 0 ≤ (prN p : Int) := by
  obtain ⟨-, h2⟩ := (gd_iff zs).1 h
  obtain ⟨hk, e⟩ := List.getElem?_eq_some_iff.1 hp
  have hs := gdE_append (zs.take k) (zs.drop k) 1000
  rw [List.take_append_drop, h2] at hs
  cases hb : gdE 1000 (zs.take k) with
  | none => rw [hb] at hs; cases hs
  | some a =>
    rw [hb, List.drop_eq_getElem_cons hk] at hs
    have hs2 : gdE a (zs[k] :: zs.drop (k + 1)) = some 10000 := hs.symm
    rw [e] at hs2
    obtain ⟨k1, -⟩ := gdE_cons hs2
    obtain ⟨l1, l2⟩ := cntM_len _ _ _ hb
    obtain ⟨u1, -⟩ := mks_bd _ _ _ hb
    obtain ⟨e1, e2⟩ := prN_is k1
    obtain ⟨p1, p2, p3, p4, -⟩ := (ptOk_iff _ _).1 k1
    refine ⟨a, k1, u1, by omega, by omega, ?_, ?_, by omega⟩
    · rw [show p.2.1 - p.1 = p.2.2 * (prN p : Int) by omega, Int.mul_tdiv_cancel_left _ (by omega)]
    · have hm := Int.mul_le_mul_of_nonneg_right (show (1 : Int) ≤ p.2.2 by omega) (show (0 : Int) ≤ (prN p : Int) by omega)
      omega
/-- Whether a number is a mark: the parts so far. -/
theorem isM_take {zs : List P3} {k : Nat} {p : P3} (n : Int) (h : zs[k]? = some p) : isM (zs.take (k + 1)) n = (isM (zs.take k) n || prI n p) := by
  obtain ⟨hk, e⟩ := List.getElem?_eq_some_iff.1 h
  unfold isM
  rw [List.take_succ_eq_append_getElem hk, e, List.any_append]
  simp
theorem isM_at {zs : List P3} {k : Nat} {p : P3} (n : Int) (h : zs[k]? = some p) (hi : prI n p = true) : isM zs n = true := by
  unfold isM
  exact List.any_eq_true.2 ⟨p, List.mem_of_getElem? h, hi⟩
theorem nrS_snoc (n : Int) : ∀ (l : List Int) (b x : Int), nrS n b (l ++ [x]) = if (x - n).natAbs < (nrS n b l - n).natAbs then x else nrS n b l
  | [], b, x => rfl
  | y :: l, b, x => by
    have e : ∀ m, nrS n b (y :: m) = nrS n (if (y - n).natAbs < (b - n).natAbs then y else b) m := fun m => rfl
    rw [List.cons_append, e, e]
    exact nrS_snoc n l _ x
def cmV (zs : List P3) : Int := if gd zs = true then cntM zs else 0
def cmE (zs : List P3) : Int := if gd zs = true then 0 else 1

set_option maxHeartbeats 1000000 in
theorem cm_spec (A : Option Addr) (n c : Nat) (zs : List P3) (w : World) (hn : zs.length = n) (hN : n ≤ 16777216) (hA : Reads w w.heap.size A (cells3 zs)) :
    Calls Try.prog 10 #[.slice A n c] w fun e w' => e = .returned (.tuple #[.int .i64 (cmV zs), .int .i64 (cmE zs)]) ∧ Gr w w' := by
  have HL := Lib.hid hn
  have HA := Lib.hid hA
  have HG := Lib.hid (gd_spec A n c zs w hn hN hA)
  clear hn hA
  rcases Bool.eq_false_or_eq_true (gd zs) with hv | hv
  · have HV := Lib.hid (fun (k : Nat) (p : P3) (hp : zs[k]? = some p) => gd_takeC hv hp)
    have HC := Lib.hid (show cmV zs = cntM zs ∧ cmE zs = 0 by unfold cmV cmE; rw [hv]; exact ⟨rfl, rfl⟩)
    rw [hv] at HG
    clear hv
    go_enter Try.func10, Try.ntmps10
    go_wp2_with (go_at_call 22; refine (HG.out).mono ?_; rintro e w' ⟨rfl, kk, os, rfl⟩)
    go_loopw [4, 5] (fun a i wr => ∃ k : Nat, i = .int .i64 k ∧ k ≤ n ∧ a = .int .i64 (cntM (zs.take k)) ∧ Gr w wr) (fun _ i _ => n - (intOf i).toNat)
    case atStart => exact ⟨0, rfl, by omega, by simp [cntM], (by repeat (first | with_reducible exact Gr.refl _ | with_reducible refine Gr.alloc ?_ _ | with_reducible refine Gr.gr ?_ _ _ | with_reducible refine Gr.drew ?_ | with_reducible refine Gr.drewN ?_ _))⟩
    case round =>
      obtain ⟨k, rfl, hk, rfl, hG⟩ := hrel
      by_cases hlt : k < n
      · obtain ⟨z, hz⟩ := some_at (l := zs) (k := k) (by rw [HL.out]; exact hlt)
        obtain ⟨a, ho, ha, hc1, hc2, hd1, hd2, hd3⟩ := HV.out k z hz
        obtain ⟨p1, p2, p3, p4, -⟩ := (ptOk_iff _ _).1 ho
        have HT := Lib.hid (cntM_take hz)
        obtain ⟨g, o, rfl, hg, x0, x1, x2⟩ := (HA.out.gr hG).at3 hz
        obtain ⟨za, zb, zc⟩ := z
        simp only at *
        subst p1
        clear hz ho
        generalize hcN : cntM (zs.take k) = cn at *
        rw [hd1] at HT
        generalize (prN (za, zb, zc) : Int) = N at *
        have HCN := Lib.hid hcN
        clear hcN
        have HD := Lib.hid hd1
        have HQ := Lib.hid (show (zb - za) / zc = N by rw [← Int.tdiv_eq_ediv_of_nonneg (by omega)]; exact hd1)
        have hw1 : IntKind.i64.wrap (zb - za) = zb - za := IntWalk.i64_in _ (by omega)
        have hw2 : IntKind.i64.wrap N = N := IntWalk.i64_in _ (by omega)
        have hw3 : IntKind.i64.wrap (cn + N) = cn + N := IntWalk.i64_in _ (by omega)
        have hz0 : (zc == 0) = false := by simp; omega
        go_wp2
        go_quiet (fail)
        go_wp2
        go_roundw
        case rel => exact ⟨k + 1, by go_num, by omega, by rw [HT.out], hG.trans (by repeat (first | with_reducible exact Gr.refl _ | with_reducible refine Gr.alloc ?_ _ | with_reducible refine Gr.gr ?_ _ _ | with_reducible refine Gr.drew ?_ | with_reducible refine Gr.drewN ?_ _))⟩
        case measure => simp [intOf]; omega
      · have HF := Lib.hid (show zs.take k = zs from List.take_of_length_le (by rw [HL.out]; omega))
        go_wp2
        ((try simp only [Exit.inBlock, Exit.then]); refine bodyPost_ret (v := .tuple #[.int .i64 (cntM (zs.take k)), .int .i64 0]) (by simp [results, Try.results10, go_sem]) rfl ?_)
        exact ⟨ret_two (by rw [HC.out.1, HF.out]) HC.out.2.symm, hG⟩
  · have HC := Lib.hid (show cmV zs = 0 ∧ cmE zs = 1 by unfold cmV cmE; rw [hv]; exact ⟨rfl, rfl⟩)
    rw [hv] at HG
    clear hv
    go_enter Try.func10, Try.ntmps10
    go_wp2_with (go_at_call 22; refine (HG.out).mono ?_; rintro e w' ⟨rfl, kk, os, rfl⟩)
    ((try simp only [Exit.inBlock, Exit.then]); refine bodyPost_ret (v := .tuple #[.int .i64 0, .int .i64 1]) (by simp [results, Try.results10, go_sem]) rfl ?_)
    exact ⟨ret_two HC.out.1.symm HC.out.2.symm, (by repeat (first | with_reducible exact Gr.refl _ | with_reducible refine Gr.alloc ?_ _ | with_reducible refine Gr.gr ?_ _ _ | with_reducible refine Gr.drew ?_ | with_reducible refine Gr.drewN ?_ _))⟩

theorem ret_bi7 {a b : Bool} {c d : Int} (h : a = b) (h' : c = d) : Ending.returned (.tuple #[.bool a, .int .i64 c]) = .returned (.tuple #[.bool b, .int .i64 d]) := by rw [h, h']
def imV (zs : List P3) (m : Int) : Bool := gd zs && isM zs m
set_option maxHeartbeats 1000000 in
theorem im_spec (A : Option Addr) (n c : Nat) (zs : List P3) (m : Int) (w : World) (hn : zs.length = n) (hN : n ≤ 16777216) (hA : Reads w w.heap.size A (cells3 zs)) :
    Calls Try.prog 19 #[.slice A n c, .int .i64 m] w fun e w' => e = .returned (.tuple #[.bool (imV zs m), .int .i64 (cmE zs)]) ∧ Gr w w' := by
  have HL := Lib.hid hn
  have HA := Lib.hid hA
  have HG := Lib.hid (gd_spec A n c zs w hn hN hA)
  clear hn hA
  rcases Bool.eq_false_or_eq_true (gd zs) with hv | hv
  · have HV := Lib.hid (fun (k : Nat) (p : P3) (hp : zs[k]? = some p) => gd_takeC hv hp)
    have HC := Lib.hid (show imV zs m = isM zs m ∧ cmE zs = 0 by unfold imV cmE; rw [hv]; exact ⟨rfl, rfl⟩)
    rw [hv] at HG
    clear hv
    go_enter Try.func19, Try.ntmps19
    go_wp2_with (go_at_call 22; refine (HG.out).mono ?_; rintro e w' ⟨rfl, kk, os, rfl⟩)
    go_loopw [6] (fun i wr => ∃ k : Nat, i = .int .i64 k ∧ k ≤ n ∧ Hid (isM (zs.take k) m = false) ∧ Gr w wr) (fun i _ => n - (intOf i).toNat)
    case atStart => exact ⟨0, rfl, by omega, Lib.hid (by simp [isM]), (by repeat (first | with_reducible exact Gr.refl _ | with_reducible refine Gr.alloc ?_ _ | with_reducible refine Gr.gr ?_ _ _ | with_reducible refine Gr.drew ?_ | with_reducible refine Gr.drewN ?_ _))⟩
    case round =>
      obtain ⟨k, rfl, hk, hI, hG⟩ := hrel
      by_cases hlt : k < n
      · obtain ⟨z, hz⟩ := some_at (l := zs) (k := k) (by rw [HL.out]; exact hlt)
        obtain ⟨a, ho, ha, -, -, -, -, -⟩ := HV.out k z hz
        obtain ⟨p1, p2, p3, p4, -⟩ := (ptOk_iff _ _).1 ho
        have HT := Lib.hid (isM_take m hz)
        have HS := Lib.hid (isM_at m hz)
        obtain ⟨g, o, rfl, hg, x0, x1, x2⟩ := (HA.out.gr hG).at3 hz
        obtain ⟨za, zb, zc⟩ := z
        simp only at *
        subst p1
        clear hz ho
        have HP := Lib.hid (show prI m (za, zb, zc) = decide (za ≤ m ∧ m < zb ∧ (m - za).tmod zc = 0) from rfl)
        have hno : ¬ (za ≤ m ∧ m < zb ∧ (m - za).tmod zc = 0) → isM (zs.take (k + 1)) m = false := fun q => by rw [HT.out, hI.out, HP.out, decide_eq_false q]; rfl
        have HNO := Lib.hid hno
        clear hno
        by_cases q1 : za ≤ m
        rotate_left
        · have HQ := Lib.hid (HNO.out (fun q => q1 q.1))
          have g1 : decide (za ≤ m) = false := decide_eq_false q1
          go_wp2
          go_quiet (fail)
          go_wp2
          go_roundw
          case rel => exact ⟨k + 1, by go_num, by omega, HQ, hG.trans (by repeat (first | with_reducible exact Gr.refl _ | with_reducible refine Gr.alloc ?_ _ | with_reducible refine Gr.gr ?_ _ _ | with_reducible refine Gr.drew ?_ | with_reducible refine Gr.drewN ?_ _))⟩
          case measure => simp [intOf]; omega
        by_cases q2 : m < zb
        rotate_left
        · have HQ := Lib.hid (HNO.out (fun q => q2 q.2.1))
          have g2 : decide (m < zb) = false := decide_eq_false q2
          go_wp2
          go_quiet (fail)
          go_wp2
          go_roundw
          case rel => exact ⟨k + 1, by go_num, by omega, HQ, hG.trans (by repeat (first | with_reducible exact Gr.refl _ | with_reducible refine Gr.alloc ?_ _ | with_reducible refine Gr.gr ?_ _ _ | with_reducible refine Gr.drew ?_ | with_reducible refine Gr.drewN ?_ _))⟩
          case measure => simp [intOf]; omega
        have hw1 : IntKind.i64.wrap (m - za) = m - za := IntWalk.i64_in _ (by omega)
        have hz0 : (zc == 0) = false := by simp; omega
        have hb := Int.emod_lt_of_pos (m - za) (show 0 < zc by omega)
        have hb0 := Int.emod_nonneg (m - za) (show zc ≠ 0 by omega)
        have he : (m - za).tmod zc = (m - za) % zc := Int.tmod_eq_emod_of_nonneg (by omega)
        by_cases q3 : (m - za) % zc = 0
        rotate_left
        · have HQ := Lib.hid (HNO.out (fun q => q3 (by rw [← he]; exact q.2.2)))
          go_wp2
          go_quiet (fail)
          go_wp2
          go_roundw
          case rel => exact ⟨k + 1, by go_num, by omega, HQ, hG.trans (by repeat (first | with_reducible exact Gr.refl _ | with_reducible refine Gr.alloc ?_ _ | with_reducible refine Gr.gr ?_ _ _ | with_reducible refine Gr.drew ?_ | with_reducible refine Gr.drewN ?_ _))⟩
          case measure => simp [intOf]; omega
        · have HQ := Lib.hid (HS.out (by rw [HP.out]; exact decide_eq_true ⟨q1, q2, by rw [he]; exact q3⟩))
          go_wp2
          go_quiet (fail)
          go_wp2
          ((try simp only [Exit.inBlock, Exit.then]); refine bodyPost_ret (v := .tuple #[.bool true, .int .i64 0]) (by simp [results, Try.results19, go_sem]) rfl ?_)
          exact ⟨ret_bi7 (by rw [HC.out.1, HQ.out]) HC.out.2.symm, hG.trans (by repeat (first | with_reducible exact Gr.refl _ | with_reducible refine Gr.alloc ?_ _ | with_reducible refine Gr.gr ?_ _ _ | with_reducible refine Gr.drew ?_ | with_reducible refine Gr.drewN ?_ _))⟩
      · have HF := Lib.hid (show zs.take k = zs from List.take_of_length_le (by rw [HL.out]; omega))
        go_wp2
        ((try simp only [Exit.inBlock, Exit.then]); refine bodyPost_ret (v := .tuple #[.bool false, .int .i64 0]) (by simp [results, Try.results19, go_sem]) rfl ?_)
        exact ⟨ret_bi7 (by rw [HC.out.1, ← hI.out, HF.out]) HC.out.2.symm, hG⟩
  · have HC := Lib.hid (show imV zs m = false ∧ cmE zs = 1 by unfold imV cmE; rw [hv]; exact ⟨rfl, rfl⟩)
    rw [hv] at HG
    clear hv
    go_enter Try.func19, Try.ntmps19
    go_wp2_with (go_at_call 22; refine (HG.out).mono ?_; rintro e w' ⟨rfl, kk, os, rfl⟩)
    ((try simp only [Exit.inBlock, Exit.then]); refine bodyPost_ret (v := .tuple #[.bool false, .int .i64 1]) (by simp [results, Try.results19, go_sem]) rfl ?_)
    exact ⟨ret_bi7 HC.out.1.symm HC.out.2.symm, (by repeat (first | with_reducible exact Gr.refl _ | with_reducible refine Gr.alloc ?_ _ | with_reducible refine Gr.gr ?_ _ _ | with_reducible refine Gr.drew ?_ | with_reducible refine Gr.drewN ?_ _))⟩
end Go.Proofs.Ytggflladheemoaa
