/- Contracts of chapter 7: the model's finest step. -/
import Derived.Test.YtggflladheemoaaDoorC07m
import Derived.Test.YtggflladheemoaaDoorC07b
import Derived.Test.YtggflladheemoaaDoorC07c
import Derived.Maps.AppendAt
namespace Go.Proofs.YtggflladheemoaaDoor
open Go.RowKit
set_option linter.unusedVariables false
set_option linter.unusedSimpArgs false

def stpObj : Obj := .cells #[.int .i64 1, .int .i64 2, .int .i64 5, .int .i64 10, .int .i64 20, .int .i64 50, .int .i64 100, .int .i64 200, .int .i64 500] 2
theorem steps_spec (w : World) :
    Calls Tryd.prog 140 #[] w fun e w' => e = .returned (.slice (some ⟨w.heap.size, 0, none⟩) 9 9) ∧ w' = w.alloc stpObj := by
  go_enter Tryd.func140, Tryd.ntmps140
  go_wp2
  go_ret
  exact ⟨rfl, rfl⟩
theorem stpObj_cell (w : World) (i : Nat) (x : Int) (h : usual[i]? = some x) : (w.alloc stpObj).cell? ⟨w.heap.size, i, none⟩ = some (.int .i64 x) := by
  have hi : i < 9 := by
    obtain ⟨hk, -⟩ := List.getElem?_eq_some_iff.1 h
    exact hk
  have hr := cell_of_row (w.alloc stpObj) w.heap.size i _ _ _ (World.alloc_heap_new w stpObj)
  rw [hr]
  rcases (show i = 0 ∨ i = 1 ∨ i = 2 ∨ i = 3 ∨ i = 4 ∨ i = 5 ∨ i = 6 ∨ i = 7 ∨ i = 8 by omega) with rfl | rfl | rfl | rfl | rfl | rfl | rfl | rfl | rfl <;> (simp [usual] at h; subst h; rfl)
theorem find_at {p : Int → Bool} {k : Nat} {x : Int} (h : usual[k]? = some x) (h0 : (usual.take k).find? p = none) :
    (p x = true → usual.find? p = some x) ∧ (p x = false → (usual.take (k + 1)).find? p = none) := by
  obtain ⟨hk, e⟩ := List.getElem?_eq_some_iff.1 h
  have e4 : usual = usual.take k ++ (x :: usual.drop (k + 1)) := by rw [← e, ← List.drop_eq_getElem_cons hk, List.take_append_drop]
  refine ⟨fun hp => ?_, fun hp => ?_⟩
  · rw [e4, List.find?_append, h0]
    simp [hp]
  · rw [List.take_succ_eq_append_getElem hk, e, List.find?_append, h0]
    simp [hp]

set_option maxRecDepth 100000 in
set_option maxHeartbeats 4000000 in
theorem fin_spec (s l f t lim : Int) (w : World) (hs : sc s = true) (hl : ln l = true) (h1 : 1000 ≤ f) (h2 : f < t) (h3 : t ≤ 10000) :
    Calls Tryd.prog 80 #[.int .i64 s, .int .i64 l, .int .i64 f, .int .i64 t, .int .i64 lim] w fun e w' => e = .returned (.int .i64 (fnS s l f t lim)) ∧ Below w.heap.size w w' := by
  have HLe := Lib.hid (fun g cp L W h4 hg hc hM => least_spec g cp L s l W h4 hg hc hM hs hl)
  have HCELL := Lib.hid (fun i x h => stpObj_cell w i x h)
  have HPOS := Lib.hid usual_pos
  have HFN := Lib.hid (show fnS s l f t lim = (usual.find? (stOk s l f t lim)).getD 0 from rfl)
  have HFA := Lib.hid (fun (k : Nat) (x : Int) (h : usual[k]? = some x) h0 => find_at (p := stOk s l f t lim) h h0)
  have HUL : Hid (usual.length = 9) := Lib.hid rfl
  obtain ⟨i0, hi, hz0, hz1, hz2⟩ := info_parts info_i7
  have hBW : Below w.heap.size w (w.alloc stpObj) := (Below.refl _ _).alloc (Nat.le_refl _) _
  have hszW : (w.alloc stpObj).heap.size = w.heap.size + 1 := by simp
  go_enter Tryd.func80, Tryd.ntmps80
  go_wp2_with (go_at_call 140; refine (steps_spec _).mono ?_; rintro e w' ⟨rfl, rfl⟩)
  generalize w.alloc stpObj = w1 at *
  obtain ⟨gs, egs⟩ : ∃ gs, w.heap.size = gs := ⟨_, rfl⟩
  rw [egs] at hszW HCELL ⊢
  have HBW := Lib.hid hBW
  have HEG := Lib.hid egs
  clear hBW egs
  go_loopw [12] (fun i wr => ∃ k : Nat, i = .int .i64 k ∧ k ≤ 9 ∧ Hid ((usual.take k).find? (stOk s l f t lim) = none) ∧ Below w1.heap.size w1 wr) (fun i _ => 9 - (intOf i).toNat)
  case atStart => exact ⟨0, rfl, by omega, Lib.hid (by simp), Below.refl _ _⟩
  case round =>
    obtain ⟨k, rfl, hk, HN, hb⟩ := hrel
    by_cases hlt : k < 9
    · have hk9 : decide ((k : Int) < 9) = true := decide_eq_true (by omega)
      obtain ⟨st, hst⟩ := some_at (l := usual) (k := k) (by rw [HUL.out]; exact hlt)
      obtain ⟨st1, st2⟩ := HPOS.out st (List.mem_of_getElem? hst)
      have HA := Lib.hid (HFA.out k st hst HN.out)
      have HST := Lib.hid (show stOk s l f t lim st = (decide ((t - f).tmod st = 0) && decide (ldM s l (prM (f, t, st)) < 0 ∨ lim ≤ ldM s l (prM (f, t, st)))) from rfl)
      have HC := Lib.hid (HCELL.out k st hst)
      have y0 : wr.cell? ⟨gs, k, none⟩ = some (.int .i64 st) := (hb.cell (p := ⟨gs, k, none⟩) (show gs < w1.heap.size by omega)).trans HC.out
      have hz0' : (st == 0) = false := by simp; omega
      have hw1 : IntKind.i64.wrap (t - f) = t - f := IntWalk.i64_in _ (by omega)
      have hb1 := Int.emod_lt_of_pos (t - f) (show 0 < st by omega)
      have hb0 := Int.emod_nonneg (t - f) (show st ≠ 0 by omega)
      have he : (t - f).tmod st = (t - f) % st := Int.tmod_eq_emod_of_nonneg (by omega)
      clear hst
      by_cases hq : (t - f) % st = 0
      rotate_left
      · have HQ := Lib.hid (HA.out.2 (by rw [HST.out, he, decide_eq_false hq]; rfl))
        have q5 : ((t - f) % st != 0) = true := by simpa using hq
        clear he
        go_wp2
        go_roundw
        case rel => exact ⟨k + 1, by go_num, by omega, HQ, hb⟩
        case measure => simp [intOf]; omega
      have q5 : ((t - f) % st != 0) = false := by simpa using hq
      have hpt : ptOk f (f, t, st) = true := (ptOk_iff _ _).2 ⟨rfl, show f + 1 ≤ t by omega, h3, st1, by rw [← he] at hq; exact hq⟩
      rw [he, decide_eq_true hq, Bool.true_and] at HST
      obtain ⟨e1, e2⟩ := prN_is hpt
      have HMEM := Lib.hid (fun x (hx : x ∈ prM (f, t, st)) => show 1000 ≤ x ∧ x < 10000 by
        have := (mem_prM hpt x).1 hx
        simp only at this
        omega)
      have HLN := Lib.hid (prM_len (f, t, st))
      have HALL := Lib.hid (frs_all (f, t, st))
      simp only at e1
      have hNl : (prN (f, t, st) : Int) ≤ 9000 := by
        have hm := Int.mul_le_mul_of_nonneg_right (show (1 : Int) ≤ st by omega) (show (0 : Int) ≤ (prN (f, t, st) : Int) by omega)
        omega
      have HE1 := Lib.hid e1
      have HB := Lib.hid hb
      have hbs := hb.size
      have O1 : Lst (wr.alloc (.cells #[] 2)) w1.heap.size (.slice (some ⟨wr.heap.size, 0, none⟩) 0 0) [] := World.ownsRow_made wr #[] 0 hbs (Nat.zero_le _) rfl
      have B1 : Below w1.heap.size w1 (wr.alloc (.cells #[] 2)) := hb.alloc hbs _
      clear e1 hb he hpt hq
      generalize hNp : prN (f, t, st) = N at *
      have HNp := Lib.hid hNp
      clear hNp
      go_wp2
      go_loopw [13, 14] (fun v m wr2 => ∃ j : Nat, m = .int .i64 (f + st * (j : Int)) ∧ j ≤ N ∧ Hid (Lst wr2 w1.heap.size v (frs (f, t, st) j)) ∧ Below w1.heap.size w1 wr2) (fun _ m _ => (t - intOf m).toNat)
      case atStart => exact ⟨0, by simp, by omega, Lib.hid (by simpa [frs] using O1), B1⟩
      case round =>
        obtain ⟨j, rfl, hj, hown2, hb2⟩ := hrel
        have y1 : wr.cell? ⟨gs, k, none⟩ = some (.int .i64 st) := (hb2.cell (p := ⟨gs, k, none⟩) (show gs < w1.heap.size by omega)).trans HC.out
        have hbs2 := hb2.size
        have hl2 : (frs (f, t, st) j).length ≤ 9000 := by rw [frs_len]; omega
        clear O1 B1
        by_cases hltj : j < N
        · have hm := Int.mul_le_mul_of_nonneg_left (show ((j : Int) + 1) ≤ (N : Int) by omega) (show 0 ≤ st by omega)
          rw [Int.mul_add, Int.mul_one] at hm
          have h0 : 0 ≤ st * (j : Int) := Int.mul_nonneg (by omega) (by omega)
          have hq2 : f + st * (j : Int) + st ≤ t := by have := HE1.out; omega
          have HS := Lib.hid (frs_succ (f, t, st) j)
          have HJ := Lib.hid (show f + st * ((j + 1 : Nat) : Int) = f + st * (j : Int) + st by rw [Int.natCast_add, Int.mul_add]; simp; omega)
          have HB2 := Lib.hid hb2
          simp only at HS
          generalize hxs : frs (f, t, st) j = xs at *
          have HXS := Lib.hid hxs
          generalize st * (j : Int) = q at *
          clear hm hb2 hxs
          go_wp2_with (at_builtin; refine wpList_append_own _ rfl _ _ 52 rfl w1.heap.size 2 i0 (.int .i64 0) 1 8 Tryd.underlying52 hi hz0 hz1 hz2 rfl (by decide) _ _ _ rfl (hown2.out.alloc _) ⟨wr.heap.size, 0, none⟩ 1 1 [.int .i64 (f + q)] rfl rfl (one_cell_new _ _ _) (by simp [Value.oneCell']) (by unfold maxLen; omega) (by omega) (by simp; omega) ?_; intro v' w4 hown' hgrow _; obtain ⟨hA1, hA2⟩ := Lst.app (x := f + q) HB2.out hbs2 (hown2.out.alloc _) (by simpa using hown') hgrow; have y3 := (hA2.cell (p := ⟨gs, k, none⟩) (show gs < w1.heap.size by omega)).trans HC.out; have HA1 := Lib.hid hA1; have HA2 := Lib.hid hA2; clear hA1 hA2 hown' hgrow)
          go_roundw
          case rel => exact ⟨j + 1, by rw [HJ.out], by omega, by rw [HS.out]; exact HA1, HA2.out⟩
          case measure => simp [intOf]; omega
        · obtain rfl : j = N := by omega
          have hq2 : ¬ f + st * (j : Int) < t := by have := HE1.out; omega
          rw [HALL.out] at hown2
          have hpl : 0 < (prM (f, t, st)).length := by rw [HLN.out]; omega
          have hpl2 : (prM (f, t, st)).length ≤ 9000 := by rw [HLN.out]; omega
          obtain ⟨g2, c2, rfl, hg3, hg4, hcs⟩ := Lst.form hown2.out hpl
          have HLE := Lib.hid (HLe.out g2 c2 (prM (f, t, st)) wr hpl2 hg4 hcs HMEM.out)
          have HB2 := Lib.hid hb2
          rw [ldM_fold] at HST
          clear hb2 hcs hpl hpl2 hl2
          generalize (prM (f, t, st)).length = len at *
          generalize leG (gapsL s l (prM (f, t, st))) = m0 at *
          have hgsl : gs < wr.heap.size := by omega
          by_cases hm0 : m0 < 0
          · have HQ := Lib.hid (HA.out.1 (by rw [HST.out]; exact decide_eq_true (.inl hm0)))
            go_wp2_with (go_at_call 91; refine (HLE.out).mono ?_; rintro e w3 ⟨rfl, kk, os, rfl⟩)
            go_ret
            exact ⟨ret_int (by rw [HFN.out, HQ.out]; rfl), HBW.out.trans ((HB2.out.trans ((Gr.below ⟨kk, os, rfl⟩).mono hbs2)).mono HBW.out.size)⟩
          by_cases hm1 : lim ≤ m0
          · have HQ := Lib.hid (HA.out.1 (by rw [HST.out]; exact decide_eq_true (.inr hm1)))
            have g4 : decide (m0 < 0) = false := decide_eq_false hm0
            go_wp2_with (go_at_call 91; refine (HLE.out).mono ?_; rintro e w3 ⟨rfl, kk, os, rfl⟩)
            go_ret
            exact ⟨ret_int (by rw [HFN.out, HQ.out]; rfl), HBW.out.trans ((HB2.out.trans ((Gr.below ⟨kk, os, rfl⟩).mono hbs2)).mono HBW.out.size)⟩
          · have HQ := Lib.hid (HA.out.2 (by rw [HST.out]; exact decide_eq_false (by omega)))
            have g4 : decide (m0 < 0) = false := decide_eq_false hm0
            go_wp2_with (go_at_call 91; refine (HLE.out).mono ?_; rintro e w3 ⟨rfl, kk, os, rfl⟩)
            go_roundw
            case rel => exact ⟨k + 1, by go_num, by omega, HQ, HB2.out.trans ((Gr.below ⟨kk, os, rfl⟩).mono hbs2)⟩
            case measure => simp [intOf]; omega
    · obtain rfl : k = 9 := by omega
      have HQ := Lib.hid (show fnS s l f t lim = 0 by rw [HFN.out]; have := HN.out; rw [show usual.take 9 = usual from rfl] at this; rw [this]; rfl)
      go_wp2
      go_ret
      exact ⟨ret_int HQ.out.symm, HBW.out.trans (hb.mono HBW.out.size)⟩
end Go.Proofs.YtggflladheemoaaDoor
