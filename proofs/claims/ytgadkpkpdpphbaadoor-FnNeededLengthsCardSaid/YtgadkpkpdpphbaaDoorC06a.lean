/- Contracts of chapter 6: the model's readings. -/
import Derived.Test.YtgadkpkpdpphbaaDoorC05d
import Derived.Test.YtgadkpkpdpphbaaDoorC02e
import Derived.Test.YtgadkpkpdpphbaaDoorMB
import Derived.OwnWalk
namespace Go.Proofs.YtgadkpkpdpphbaaDoor
open Go.RowKit
set_option linter.unusedVariables false
set_option linter.unusedSimpArgs false

theorem decb_tf (p : Prop) [Decidable p] : decide p = true ∨ decide p = false := by cases decide p <;> simp

def cd6 (s l p e : Int) : Int := if ok6 s l p e = true then 0 else 2
theorem cd6_ok {s l p e : Int} (h : ok6 s l p e = true) : cd6 s l p e = 0 := if_pos h
theorem cd6_no {s l p e : Int} (h : ok6 s l p e = false) : cd6 s l p e = 2 := if_neg (by rw [h]; simp)
theorem code6_spec (s l p e : Int) (w : World) :
    Calls Tryd.prog 44 #[.int .i64 s, .int .i64 l, .int .i64 p, .int .i64 e] w fun e' w' => e' = .returned (.int .i64 (cd6 s l p e)) ∧ w = w' := by
  have HD := Lib.hid (show ok6 s l p e = ((sc s && ln l) && (decide (0 ≤ p ∧ p ≤ l) && decide (0 ≤ e ∧ e ≤ 200))) from rfl)
  have HO := Lib.hid (And.intro (cd6_ok (s := s) (l := l) (p := p) (e := e)) (cd6_no (s := s) (l := l) (p := p) (e := e)))
  rcases sc_tf s with h1 | h1 <;> rcases ln_tf l with h2 | h2 <;> rcases decb_tf (0 ≤ p ∧ p ≤ l) with h3 | h3 <;> rcases decb_tf (0 ≤ e ∧ e ≤ 200) with h4 | h4
  all_goals
    rw [h1, h2, h3, h4] at HD
    have E1 := Lib.hid h1
    have E2 := Lib.hid h2
    have E3 := Lib.hid h3
    have E4 := Lib.hid h4
    clear h1 h2 h3 h4
    go_enter Tryd.func44, Tryd.ntmps44
    go_wp2_with (first
      | (go_at_call 66; refine (isScale_spec _ _).mono ?_; rw [E1.out]; rintro e' w' ⟨rfl, rfl⟩)
      | (go_at_call 86; refine (isLength_spec _ _).mono ?_; rw [E2.out]; rintro e' w' ⟨rfl, rfl⟩)
      | (go_at_call 67; refine (in_any _ _ _ _).mono ?_; (first | rw [E3.out] | rw [E4.out]); rintro e' w' ⟨rfl, rfl⟩))
    go_ret
    first
      | exact ⟨ret_int (HO.out.1 HD.out).symm, rfl⟩
      | exact ⟨ret_int (HO.out.2 HD.out).symm, rfl⟩

/-- A place, in two steps. -/
theorem pl_spec (s d t l : Int) (w : World) (h : fg d t = true) (hl : ln l = true) :
    Calls Tryd.prog 87 #[.agg #[.int .i64 (psn s d t).1, .int .i64 (psn s d t).2], .int .i64 l] w fun e w' => e = .returned (.agg #[.int .i64 (pl s d t l).1, .int .i64 (pl s d t l).2]) ∧ Gr w w' := by
  obtain ⟨p1, p2, p3, p4⟩ := psn_bd s d t h
  obtain ⟨l1, l2⟩ := (ln_iff l).1 hl
  exact place_spec _ _ l w p1 p2 p3 p4 l1 l2

theorem may_spec (s d t l p e : Int) (w : World) (h : fg d t = true) (hs : sc s = true) (hl : ln l = true) (hp : 0 ≤ p ∧ p ≤ 100000) (he : 0 ≤ e ∧ e ≤ 200) :
    Calls Tryd.prog 76 #[.int .i64 s, .agg #[.int .i64 d, .int .i64 t], .int .i64 l, .int .i64 p, .int .i64 e] w fun e' w' => e' = .returned (.bool (may s d t l p e)) ∧ Gr w w' := by
  have HP := Lib.hid (fun W => position_spec s d t W h hs (lgb_ok h))
  have HL := Lib.hid (fun W => pl_spec s d t l W h hl)
  obtain ⟨p1, p2, p3, p4, -⟩ := pl_bd s d t l h hl
  have HM := Lib.hid (show may s d t l p e = decide ((pl s d t l).1 - e ≤ p ∧ p ≤ (pl s d t l).2 + e) from rfl)
  generalize may s d t l p e = m at *
  generalize pl s d t l = y at *
  obtain ⟨y1, y2⟩ := y
  simp only at p1 p2 p3 p4 HL HM
  generalize psn s d t = x at *
  clear h hs hl
  by_cases c1 : y1 - e ≤ p <;> by_cases c2 : p ≤ y2 + e
  all_goals
    go_enter Tryd.func76, Tryd.ntmps76
    go_wp2_with (first
      | (go_at_call 88; refine (HP.out _).mono ?_; rintro e' w' ⟨rfl, k, os, rfl⟩)
      | (go_at_call 87; refine (HL.out _).mono ?_; rintro e' w' ⟨rfl, k, os, rfl⟩))
    go_ret
    exact ⟨ret_bool (by rw [HM.out]; simp [c1, c2]), (by repeat (first | with_reducible exact Gr.refl _ | with_reducible refine Gr.alloc ?_ _ | with_reducible refine Gr.gr ?_ _ _ | with_reducible refine Gr.drew ?_ | with_reducible refine Gr.drewN ?_ _))⟩

theorem at_spec6 (n : Nat) (w : World) (h : n < 2700) :
    Calls Tryd.prog 46 #[.int .i64 n] w fun e w' => e = .returned (.agg #[.int .i64 (atD n), .int .i64 (atT n)]) ∧ Gr w w' := by
  have e1 : (n : Int).tmod 900 = (n : Int) % 900 := Int.tmod_eq_emod_of_nonneg (by omega)
  have e2 : (n : Int).tdiv 900 = (n : Int) / 900 := Int.tdiv_eq_ediv_of_nonneg (by omega)
  have E := Lib.hid (show atD n = 1000 + 10 * ((n : Int) % 900) ∧ atT n = (n : Int) / 900 from ⟨rfl, rfl⟩)
  go_enter Tryd.func46, Tryd.ntmps46
  go_wp2
  ((try simp only [Exit.inBlock, Exit.then]); refine bodyPost_ret (v := .agg #[.int .i64 (1000 + 10 * ((n : Int) % 900)), .int .i64 ((n : Int) / 900)]) (by simp [results, Tryd.results46, go_sem]) rfl ?_)
  exact ⟨ret_agg E.out.1.symm E.out.2.symm, (by repeat (first | with_reducible exact Gr.refl _ | with_reducible refine Gr.alloc ?_ _ | with_reducible refine Gr.gr ?_ _ _ | with_reducible refine Gr.drew ?_ | with_reducible refine Gr.drewN ?_ _))⟩

theorem fst_step (q : Nat → Bool) (k : Nat) : fstQ q (k + 1) = if fstQ q k < 0 ∧ q k = true then (k : Int) else fstQ q k := rfl
theorem lst_step (q : Nat → Bool) (k : Nat) : lstQ q (k + 1) = if q k = true then (k : Int) else lstQ q k := rfl
theorem cnt_step (q : Nat → Bool) (k : Nat) : cntQ q (k + 1) = if q k = true then cntQ q k + 1 else cntQ q k := rfl
theorem fst_ge (q : Nat → Bool) (k : Nat) : -1 ≤ fstQ q k := by
  rcases fstQ_spec q k with ⟨e, -⟩ | ⟨m, -, e, -⟩ <;> omega
theorem lst_ge (q : Nat → Bool) (k : Nat) : -1 ≤ lstQ q k := by
  rcases lstQ_spec q k with ⟨e, -⟩ | ⟨m, -, e, -⟩ <;> omega

set_option maxHeartbeats 2000000 in
theorem bounds_spec (s l p e : Int) (w : World) (h : ok6 s l p e = true) :
    Calls Tryd.prog 45 #[.int .i64 s, .int .i64 l, .int .i64 p, .int .i64 e] w fun e' w' => e' = .returned (.tuple #[.int .i64 (fstN s l p e), .int .i64 (lstN s l p e), .int .i64 (cntN s l p e)]) ∧ Gr w w' := by
  obtain ⟨hs, hl, ⟨hp1, hp2⟩, he⟩ := (ok6_iff s l p e).1 h
  have hl2 := (ln_iff l).1 hl
  have HM := Lib.hid (fun (n : Nat) (hn : n < 2700) W => may_spec s (atD n) (atT n) l p e W (at_fg n hn) hs hl ⟨hp1, by omega⟩ he)
  have HF := Lib.hid (figs_is s)
  obtain ⟨f1, f2⟩ := figs_bd s
  have HA := Lib.hid (show fstN s l p e = fstQ (mayN s l p e) (figs s) ∧ lstN s l p e = lstQ (mayN s l p e) (figs s) ∧ cntN s l p e = cntQ (mayN s l p e) (figs s) from ⟨rfl, rfl, rfl⟩)
  have HQ := Lib.hid (show ∀ n : Nat, may s (atD n) (atT n) l p e = mayN s l p e n from fun _ => rfl)
  have HD := Lib.hid (fun W => decades_spec s W)
  obtain ⟨d1, d2⟩ := dec_bd s
  generalize figs s = N at *
  generalize dec s = d at *
  generalize mayN s l p e = q at *
  clear h hs hl hp1 hp2 he hl2
  go_enter Tryd.func45, Tryd.ntmps45
  go_wp2
  go_loopw [11, 12, 13, 14] (fun a b c i wr => ∃ k : Nat, k ≤ N ∧ a = .int .i64 (fstQ q k) ∧ b = .int .i64 (lstQ q k) ∧ c = .int .i64 (cntQ q k) ∧ i = .int .i64 k ∧ Gr w wr) (fun _ _ _ i _ => N - (intOf i).toNat)
  case atStart => exact ⟨0, by omega, rfl, rfl, rfl, rfl, Gr.refl _⟩
  case round =>
    obtain ⟨k, hk, rfl, rfl, rfl, rfl, hG⟩ := hrel
    have HFO := HF.out
    by_cases hlt : k < N
    · have hc := Lib.hid (HM.out k (by omega))
      have hat := Lib.hid (fun W => at_spec6 k W (by omega))
      have hb := cntQ_bd q k
      have hq := HQ.out k
      have s1 := Lib.hid (fst_step q k)
      have s2 := Lib.hid (lst_step q k)
      have s3 := Lib.hid (cnt_step q k)
      have g1 := fst_ge q k
      rw [hq] at hc
      clear hq
      generalize atD k = u at *
      generalize atT k = v at *
      cases hp : q k
      · rw [hp] at hc s1 s2 s3
        clear hp
        go_wp2_with (first
          | (go_at_call 58; refine (HD.out _).mono ?_; rintro e' w' ⟨rfl, rfl⟩)
          | (go_at_call 46; refine (hat.out _).mono ?_; rintro e' w1 ⟨rfl, hg1⟩)
          | (go_at_call 76; refine (hc.out _).mono ?_; rintro e' w2 ⟨rfl, hg2⟩))
        go_roundw
        case rel => exact ⟨k + 1, by omega, by rw [s1.out, if_neg (by simp)], by rw [s2.out, if_neg (by simp)], by rw [s3.out, if_neg (by simp)], by go_num, (hG.trans hg1).trans hg2⟩
        case measure => simp [intOf]; omega
      · rw [hp] at hc s1 s2 s3
        clear hp
        by_cases hf : fstQ q k < 0
        · rw [if_pos ⟨hf, rfl⟩] at s1
          rw [if_pos rfl] at s2 s3
          go_wp2_with (first
            | (go_at_call 58; refine (HD.out _).mono ?_; rintro e' w' ⟨rfl, rfl⟩)
            | (go_at_call 46; refine (hat.out _).mono ?_; rintro e' w1 ⟨rfl, hg1⟩)
            | (go_at_call 76; refine (hc.out _).mono ?_; rintro e' w2 ⟨rfl, hg2⟩))
          go_roundw
          case rel => exact ⟨k + 1, by omega, by rw [s1.out], by rw [s2.out], by rw [s3.out], by go_num, (hG.trans hg1).trans hg2⟩
          case measure => simp [intOf]; omega
        · rw [if_neg (by rintro ⟨x, -⟩; exact hf x)] at s1
          rw [if_pos rfl] at s2 s3
          go_wp2_with (first
            | (go_at_call 58; refine (HD.out _).mono ?_; rintro e' w' ⟨rfl, rfl⟩)
            | (go_at_call 46; refine (hat.out _).mono ?_; rintro e' w1 ⟨rfl, hg1⟩)
            | (go_at_call 76; refine (hc.out _).mono ?_; rintro e' w2 ⟨rfl, hg2⟩))
          go_roundw
          case rel => exact ⟨k + 1, by omega, by rw [s1.out], by rw [s2.out], by rw [s3.out], by go_num, (hG.trans hg1).trans hg2⟩
          case measure => simp [intOf]; omega
    · obtain rfl : k = N := by omega
      obtain ⟨x1, x2, x3⟩ := HA.out
      have X1 := Lib.hid x1
      have X2 := Lib.hid x2
      have X3 := Lib.hid x3
      clear x1 x2 x3
      go_wp2_with (go_at_call 58; refine (HD.out _).mono ?_; rintro e' w' ⟨rfl, rfl⟩)
      go_ret3
      exact ⟨ret_three X1.out.symm X2.out.symm X3.out.symm, hG⟩
end Go.Proofs.YtgadkpkpdpphbaaDoor
