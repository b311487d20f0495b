/- Contracts of chapter 6: what the model answers of readings. -/
import Derived.Test.YtgadkpkpdpphbaaDoorC06a
namespace Go.Proofs.YtgadkpkpdpphbaaDoor
open Go.RowKit
set_option linter.unusedVariables false
set_option linter.unusedSimpArgs false

theorem mb_cases (s d t l p e : Int) : (fg d t = false ∧ mbR s d t l p e = (false, 1)) ∨ (fg d t = true ∧ ok6 s l p e = false ∧ mbR s d t l p e = (false, 2)) ∨
    (fg d t = true ∧ ok6 s l p e = true ∧ pcd s d t = 2 ∧ mbR s d t l p e = (false, 2)) ∨ (fg d t = true ∧ ok6 s l p e = true ∧ pcd s d t = 0 ∧ mbR s d t l p e = (may s d t l p e, 0)) := by
  cases h1 : fg d t
  · exact .inl ⟨rfl, mbR_in _ _ _ _ _ _ h1⟩
  · rcases ok6_tf s l p e with h2 | h2
    · rcases pcd_cases s d t with ⟨h, -⟩ | ⟨-, h, -⟩ | ⟨-, h, h', e'⟩ | ⟨-, -, h, e'⟩
      · rw [h1] at h; cases h
      · rw [((ok6_iff _ _ _ _).1 h2).1] at h; cases h
      · exact .inr (.inr (.inl ⟨rfl, h2, e', mbR_rg _ _ _ _ _ _ h1 (.inr ⟨h, h'⟩)⟩))
      · exact .inr (.inr (.inr ⟨rfl, h2, e', mbR_ok _ _ _ _ _ _ h1 h2 h⟩))
    · exact .inr (.inl ⟨rfl, h2, mbR_rg _ _ _ _ _ _ h1 (.inl h2)⟩)

theorem mbR_spec (s d t l p e : Int) (w : World) :
    Calls Tryd.prog 31 #[.int .i64 s, .agg #[.int .i64 d, .int .i64 t], .int .i64 l, .int .i64 p, .int .i64 e] w fun e' w' => e' = .returned (.tuple #[.bool (mbR s d t l p e).1, .int .i64 (mbR s d t l p e).2]) ∧ Gr w w' := by
  have HC := Lib.hid (fun W => code6_spec s l p e W)
  have HK := Lib.hid (fun W => code_spec5 s d t W)
  rcases mb_cases s d t l p e with ⟨h1, H⟩ | ⟨h1, h2, H⟩ | ⟨h1, h2, h3, H⟩ | ⟨h1, h2, h3, H⟩
  · have H := Lib.hid H
    have E1 := Lib.hid h1
    clear h1
    go_enter Tryd.func31, Tryd.ntmps31
    go_wp2_with (go_at_call 65; refine (isFigure_spec _ _ _).mono ?_; rw [E1.out]; rintro e' w' ⟨rfl, k, os, rfl⟩)
    go_ret2
    exact ⟨ret_bi (by rw [H.out]) (by rw [H.out]), (by repeat (first | with_reducible exact Gr.refl _ | with_reducible refine Gr.alloc ?_ _ | with_reducible refine Gr.gr ?_ _ _ | with_reducible refine Gr.drew ?_ | with_reducible refine Gr.drewN ?_ _))⟩
  · have H := Lib.hid H
    have E1 := Lib.hid h1
    rw [cd6_no h2] at HC
    clear h1 h2
    go_enter Tryd.func31, Tryd.ntmps31
    go_wp2_with (first
      | (go_at_call 65; refine (isFigure_spec _ _ _).mono ?_; rw [E1.out]; rintro e' w' ⟨rfl, k, os, rfl⟩)
      | (go_at_call 44; refine (HC.out _).mono ?_; rintro e' w' ⟨rfl, rfl⟩))
    go_ret2
    exact ⟨ret_bi (by rw [H.out]) (by rw [H.out]), (by repeat (first | with_reducible exact Gr.refl _ | with_reducible refine Gr.alloc ?_ _ | with_reducible refine Gr.gr ?_ _ _ | with_reducible refine Gr.drew ?_ | with_reducible refine Gr.drewN ?_ _))⟩
  · have H := Lib.hid H
    have E1 := Lib.hid h1
    rw [cd6_ok h2] at HC
    rw [h3] at HK
    clear h1 h2 h3
    go_enter Tryd.func31, Tryd.ntmps31
    go_wp2_with (first
      | (go_at_call 65; refine (isFigure_spec _ _ _).mono ?_; rw [E1.out]; rintro e' w' ⟨rfl, k, os, rfl⟩)
      | (go_at_call 44; refine (HC.out _).mono ?_; rintro e' w' ⟨rfl, rfl⟩)
      | (go_at_call 75; refine (HK.out _).mono ?_; rintro e' w' ⟨rfl, k, os, rfl⟩))
    go_ret2
    exact ⟨ret_bi (by rw [H.out]) (by rw [H.out]), (by repeat (first | with_reducible exact Gr.refl _ | with_reducible refine Gr.alloc ?_ _ | with_reducible refine Gr.gr ?_ _ _ | with_reducible refine Gr.drew ?_ | with_reducible refine Gr.drewN ?_ _))⟩
  · have H := Lib.hid H
    have E1 := Lib.hid h1
    obtain ⟨hs, hl, ⟨hp1, hp2⟩, he⟩ := (ok6_iff s l p e).1 h2
    have hl2 := (ln_iff l).1 hl
    have HM := Lib.hid (fun W => may_spec s d t l p e W h1 hs hl ⟨hp1, by omega⟩ he)
    rw [cd6_ok h2] at HC
    rw [h3] at HK
    generalize may s d t l p e = m at *
    clear h1 h2 h3 hs hl hp1 hp2 he hl2
    go_enter Tryd.func31, Tryd.ntmps31
    go_wp2_with (first
      | (go_at_call 65; refine (isFigure_spec _ _ _).mono ?_; rw [E1.out]; rintro e' w' ⟨rfl, k, os, rfl⟩)
      | (go_at_call 44; refine (HC.out _).mono ?_; rintro e' w' ⟨rfl, rfl⟩)
      | (go_at_call 75; refine (HK.out _).mono ?_; rintro e' w' ⟨rfl, k, os, rfl⟩)
      | (go_at_call 76; refine (HM.out _).mono ?_; rintro e' w' ⟨rfl, k, os, rfl⟩))
    go_ret2
    exact ⟨ret_bi (by rw [H.out]) (by rw [H.out]), (by repeat (first | with_reducible exact Gr.refl _ | with_reducible refine Gr.alloc ?_ _ | with_reducible refine Gr.gr ?_ _ _ | with_reducible refine Gr.drew ?_ | with_reducible refine Gr.drewN ?_ _))⟩

theorem ps_yes (a b : Int) (x : (Int × Int) × Int) (h : x = ((a, b), 0)) : Ending.returned (.tuple #[.agg #[.int .i64 a, .int .i64 b], .int .i64 0]) = .returned (.tuple #[.agg #[.int .i64 x.1.1, .int .i64 x.1.2], .int .i64 x.2]) := by rw [h]

theorem frR_spec (s l p e : Int) (w : World) :
    Calls Tryd.prog 15 #[.int .i64 s, .int .i64 l, .int .i64 p, .int .i64 e] w fun e' w' => e' = .returned (.tuple #[.agg #[.int .i64 (frR s l p e).1.1, .int .i64 (frR s l p e).1.2], .int .i64 (frR s l p e).2]) ∧ Gr w w' := by
  have HC := Lib.hid (fun W => code6_spec s l p e W)
  rcases ok6_tf s l p e with h | h
  · have HB := Lib.hid (fun W => bounds_spec s l p e W h)
    have N2 := rd_none_or s l p e
    rw [cd6_ok h] at HC
    by_cases hn : fstN s l p e < 0
    · have H := Lib.hid (show frR s l p e = ((0, 0), 4) from rdR_no _ _ h hn)
      clear h
      generalize fstN s l p e = a at *
      generalize lstN s l p e = b at *
      generalize cntN s l p e = c at *
      go_enter Tryd.func15, Tryd.ntmps15
      go_wp2_with (first
        | (go_at_call 44; refine (HC.out _).mono ?_; rintro e' w' ⟨rfl, rfl⟩)
        | (go_at_call 45; refine (HB.out _).mono ?_; rintro e' w' ⟨rfl, k, os, rfl⟩))
      ((try simp only [Exit.inBlock, Exit.then]); refine bodyPost_ret (v := .tuple #[.agg #[.int .i64 0, .int .i64 0], .int .i64 4]) (by simp [results, Tryd.results15, go_sem]) rfl ?_)
      exact ⟨ps_no _ _ H.out, (by repeat (first | with_reducible exact Gr.refl _ | with_reducible refine Gr.alloc ?_ _ | with_reducible refine Gr.gr ?_ _ _ | with_reducible refine Gr.drew ?_ | with_reducible refine Gr.drewN ?_ _))⟩
    · have H := Lib.hid (show frR s l p e = _ from rdR_ok _ _ h hn)
      clear h
      generalize fstN s l p e = a at *
      generalize lstN s l p e = b at *
      generalize cntN s l p e = c at *
      obtain ⟨k, rfl⟩ := Int.eq_ofNat_of_zero_le (show 0 ≤ a by omega)
      have HA := Lib.hid (fun W => at_spec6 k W (by omega))
      rw [Int.toNat_natCast] at H
      generalize atD k = x at *
      generalize atT k = y at *
      go_enter Tryd.func15, Tryd.ntmps15
      go_wp2_with (first
        | (go_at_call 44; refine (HC.out _).mono ?_; rintro e' w' ⟨rfl, rfl⟩)
        | (go_at_call 45; refine (HB.out _).mono ?_; rintro e' w' ⟨rfl, k, os, rfl⟩)
        | (go_at_call 46; refine (HA.out _).mono ?_; rintro e' w' ⟨rfl, k, os, rfl⟩))
      ((try simp only [Exit.inBlock, Exit.then]); refine bodyPost_ret (v := .tuple #[.agg #[.int .i64 x, .int .i64 y], .int .i64 0]) (by simp [results, Tryd.results15, go_sem]) rfl ?_)
      exact ⟨ps_yes _ _ _ H.out, (by repeat (first | with_reducible exact Gr.refl _ | with_reducible refine Gr.alloc ?_ _ | with_reducible refine Gr.gr ?_ _ _ | with_reducible refine Gr.drew ?_ | with_reducible refine Gr.drewN ?_ _))⟩
  · have H := Lib.hid (show frR s l p e = ((0, 0), 2) from rdR_rg _ _ h)
    rw [cd6_no h] at HC
    clear h
    go_enter Tryd.func15, Tryd.ntmps15
    go_wp2_with (go_at_call 44; refine (HC.out _).mono ?_; rintro e' w' ⟨rfl, rfl⟩)
    ((try simp only [Exit.inBlock, Exit.then]); refine bodyPost_ret (v := .tuple #[.agg #[.int .i64 0, .int .i64 0], .int .i64 2]) (by simp [results, Tryd.results15, go_sem]) rfl ?_)
    exact ⟨ps_no _ _ H.out, (by repeat (first | with_reducible exact Gr.refl _ | with_reducible refine Gr.alloc ?_ _ | with_reducible refine Gr.gr ?_ _ _ | with_reducible refine Gr.drew ?_ | with_reducible refine Gr.drewN ?_ _))⟩

theorem lrR_spec (s l p e : Int) (w : World) :
    Calls Tryd.prog 17 #[.int .i64 s, .int .i64 l, .int .i64 p, .int .i64 e] w fun e' w' => e' = .returned (.tuple #[.agg #[.int .i64 (lrR s l p e).1.1, .int .i64 (lrR s l p e).1.2], .int .i64 (lrR s l p e).2]) ∧ Gr w w' := by
  have HC := Lib.hid (fun W => code6_spec s l p e W)
  rcases ok6_tf s l p e with h | h
  · have HB := Lib.hid (fun W => bounds_spec s l p e W h)
    have N2 := rd_none_or s l p e
    rw [cd6_ok h] at HC
    by_cases hn : lstN s l p e < 0
    · have H := Lib.hid (show lrR s l p e = ((0, 0), 4) from rdR_no _ _ h hn)
      clear h
      generalize fstN s l p e = a at *
      generalize lstN s l p e = b at *
      generalize cntN s l p e = c at *
      go_enter Tryd.func17, Tryd.ntmps17
      go_wp2_with (first
        | (go_at_call 44; refine (HC.out _).mono ?_; rintro e' w' ⟨rfl, rfl⟩)
        | (go_at_call 45; refine (HB.out _).mono ?_; rintro e' w' ⟨rfl, k, os, rfl⟩))
      ((try simp only [Exit.inBlock, Exit.then]); refine bodyPost_ret (v := .tuple #[.agg #[.int .i64 0, .int .i64 0], .int .i64 4]) (by simp [results, Tryd.results17, go_sem]) rfl ?_)
      exact ⟨ps_no _ _ H.out, (by repeat (first | with_reducible exact Gr.refl _ | with_reducible refine Gr.alloc ?_ _ | with_reducible refine Gr.gr ?_ _ _ | with_reducible refine Gr.drew ?_ | with_reducible refine Gr.drewN ?_ _))⟩
    · have H := Lib.hid (show lrR s l p e = _ from rdR_ok _ _ h hn)
      clear h
      generalize fstN s l p e = a at *
      generalize lstN s l p e = b at *
      generalize cntN s l p e = c at *
      obtain ⟨k, rfl⟩ := Int.eq_ofNat_of_zero_le (show 0 ≤ b by omega)
      have HA := Lib.hid (fun W => at_spec6 k W (by omega))
      rw [Int.toNat_natCast] at H
      generalize atD k = x at *
      generalize atT k = y at *
      go_enter Tryd.func17, Tryd.ntmps17
      go_wp2_with (first
        | (go_at_call 44; refine (HC.out _).mono ?_; rintro e' w' ⟨rfl, rfl⟩)
        | (go_at_call 45; refine (HB.out _).mono ?_; rintro e' w' ⟨rfl, k, os, rfl⟩)
        | (go_at_call 46; refine (HA.out _).mono ?_; rintro e' w' ⟨rfl, k, os, rfl⟩))
      ((try simp only [Exit.inBlock, Exit.then]); refine bodyPost_ret (v := .tuple #[.agg #[.int .i64 x, .int .i64 y], .int .i64 0]) (by simp [results, Tryd.results17, go_sem]) rfl ?_)
      exact ⟨ps_yes _ _ _ H.out, (by repeat (first | with_reducible exact Gr.refl _ | with_reducible refine Gr.alloc ?_ _ | with_reducible refine Gr.gr ?_ _ _ | with_reducible refine Gr.drew ?_ | with_reducible refine Gr.drewN ?_ _))⟩
  · have H := Lib.hid (show lrR s l p e = ((0, 0), 2) from rdR_rg _ _ h)
    rw [cd6_no h] at HC
    clear h
    go_enter Tryd.func17, Tryd.ntmps17
    go_wp2_with (go_at_call 44; refine (HC.out _).mono ?_; rintro e' w' ⟨rfl, rfl⟩)
    ((try simp only [Exit.inBlock, Exit.then]); refine bodyPost_ret (v := .tuple #[.agg #[.int .i64 0, .int .i64 0], .int .i64 2]) (by simp [results, Tryd.results17, go_sem]) rfl ?_)
    exact ⟨ps_no _ _ H.out, (by repeat (first | with_reducible exact Gr.refl _ | with_reducible refine Gr.alloc ?_ _ | with_reducible refine Gr.gr ?_ _ _ | with_reducible refine Gr.drew ?_ | with_reducible refine Gr.drewN ?_ _))⟩

theorem crR_spec (s l p e : Int) (w : World) :
    Calls Tryd.prog 19 #[.int .i64 s, .int .i64 l, .int .i64 p, .int .i64 e] w fun e' w' => e' = .returned (.tuple #[.int .i64 (crR s l p e).1, .int .i64 (crR s l p e).2]) ∧ Gr w w' := by
  have HC := Lib.hid (fun W => code6_spec s l p e W)
  rcases ok6_tf s l p e with h | h
  · have HB := Lib.hid (fun W => bounds_spec s l p e W h)
    have H := Lib.hid (crR_ok s l p e h)
    rw [cd6_ok h] at HC
    clear h
    generalize fstN s l p e = a at *
    generalize lstN s l p e = b at *
    generalize cntN s l p e = c at *
    go_enter Tryd.func19, Tryd.ntmps19
    go_wp2_with (first
      | (go_at_call 44; refine (HC.out _).mono ?_; rintro e' w' ⟨rfl, rfl⟩)
      | (go_at_call 45; refine (HB.out _).mono ?_; rintro e' w' ⟨rfl, k, os, rfl⟩))
    go_ret2
    exact ⟨ret_two (by rw [H.out]) (by rw [H.out]), (by repeat (first | with_reducible exact Gr.refl _ | with_reducible refine Gr.alloc ?_ _ | with_reducible refine Gr.gr ?_ _ _ | with_reducible refine Gr.drew ?_ | with_reducible refine Gr.drewN ?_ _))⟩
  · have H := Lib.hid (crR_rg s l p e h)
    rw [cd6_no h] at HC
    clear h
    go_enter Tryd.func19, Tryd.ntmps19
    go_wp2_with (go_at_call 44; refine (HC.out _).mono ?_; rintro e' w' ⟨rfl, rfl⟩)
    go_ret2
    exact ⟨ret_two (by rw [H.out]) (by rw [H.out]), (by repeat (first | with_reducible exact Gr.refl _ | with_reducible refine Gr.alloc ?_ _ | with_reducible refine Gr.gr ?_ _ _ | with_reducible refine Gr.drew ?_ | with_reducible refine Gr.drewN ?_ _))⟩

theorem rrR_spec (s l p e : Int) (w : World) :
    Calls Tryd.prog 36 #[.int .i64 s, .int .i64 l, .int .i64 p, .int .i64 e] w fun e' w' => e' = .returned (.tuple #[.int .i64 (rrR s l p e).1, .int .i64 (rrR s l p e).2]) ∧ Gr w w' := by
  have HC := Lib.hid (fun W => code6_spec s l p e W)
  rcases ok6_tf s l p e with h | h
  · have HB := Lib.hid (fun W => bounds_spec s l p e W h)
    have N2 := rd_none_or s l p e
    rw [cd6_ok h] at HC
    by_cases hn : fstN s l p e < 0
    · have H := Lib.hid (rrR_no s l p e h hn)
      clear h
      generalize fstN s l p e = a at *
      generalize lstN s l p e = b at *
      generalize cntN s l p e = c at *
      go_enter Tryd.func36, Tryd.ntmps36
      go_wp2_with (first
        | (go_at_call 44; refine (HC.out _).mono ?_; rintro e' w' ⟨rfl, rfl⟩)
        | (go_at_call 45; refine (HB.out _).mono ?_; rintro e' w' ⟨rfl, k, os, rfl⟩))
      go_ret2
      exact ⟨ret_two (by rw [H.out]) (by rw [H.out]), (by repeat (first | with_reducible exact Gr.refl _ | with_reducible refine Gr.alloc ?_ _ | with_reducible refine Gr.gr ?_ _ _ | with_reducible refine Gr.drew ?_ | with_reducible refine Gr.drewN ?_ _))⟩
    · have H := Lib.hid (rrR_ok s l p e h hn)
      clear h
      generalize fstN s l p e = a at *
      generalize lstN s l p e = b at *
      generalize cntN s l p e = c at *
      obtain ⟨k, rfl⟩ := Int.eq_ofNat_of_zero_le (show 0 ≤ a by omega)
      obtain ⟨m, rfl⟩ := Int.eq_ofNat_of_zero_le (show 0 ≤ b by omega)
      have HA := Lib.hid (fun W => at_spec6 k W (by omega))
      have HA2 := Lib.hid (fun W => at_spec6 m W (by omega))
      rw [Int.toNat_natCast, Int.toNat_natCast] at H
      have HR := Lib.hid (fun W => reR_spec (atD m) (atT m) (atD k) (atT k) W)
      generalize atD k = x at *
      generalize atT k = y at *
      generalize atD m = u at *
      generalize atT m = v at *
      go_enter Tryd.func36, Tryd.ntmps36
      go_wp2_with (first
        | (go_at_call 44; refine (HC.out _).mono ?_; rintro e' w' ⟨rfl, rfl⟩)
        | (go_at_call 45; refine (HB.out _).mono ?_; rintro e' w' ⟨rfl, k0, os, rfl⟩))
      refine (HA2.out _).mono ?_
      rintro e' w' ⟨rfl, k1, os1, rfl⟩
      go_wp2_with fail
      refine (HA.out _).mono ?_
      rintro e' w' ⟨rfl, k2, os2, rfl⟩
      go_wp2_with (go_at_call 84; refine (HR.out _).mono ?_; rintro e' w' ⟨rfl, k3, os3, rfl⟩)
      go_ret2
      exact ⟨ret_two (by rw [H.out]) (by rw [H.out]), (by repeat (first | with_reducible exact Gr.refl _ | with_reducible refine Gr.alloc ?_ _ | with_reducible refine Gr.gr ?_ _ _ | with_reducible refine Gr.drew ?_ | with_reducible refine Gr.drewN ?_ _))⟩
  · have H := Lib.hid (rrR_rg s l p e h)
    rw [cd6_no h] at HC
    clear h
    go_enter Tryd.func36, Tryd.ntmps36
    go_wp2_with (go_at_call 44; refine (HC.out _).mono ?_; rintro e' w' ⟨rfl, rfl⟩)
    go_ret2
    exact ⟨ret_two (by rw [H.out]) (by rw [H.out]), (by repeat (first | with_reducible exact Gr.refl _ | with_reducible refine Gr.alloc ?_ _ | with_reducible refine Gr.gr ?_ _ _ | with_reducible refine Gr.drew ?_ | with_reducible refine Gr.drewN ?_ _))⟩

theorem bst_step (g : Nat → Int) (k : Nat) : bstQ g (k + 1) = if (bstQ g k).2 < 0 ∨ g k < (bstQ g k).2 then ((k : Int), g k) else bstQ g k := rfl
theorem bst_bd (g : Nat → Int) (hg : ∀ k, 0 ≤ g k) (B : Int) (hB : ∀ k, k < 2700 → g k ≤ B) (k : Nat) (hk : k ≤ 2700) : -1 ≤ (bstQ g k).2 ∧ (bstQ g k).2 ≤ max (-1) B := by
  rcases bstQ_spec g hg k with ⟨-, e⟩ | ⟨m, hm, e, -, -⟩
  · rw [e]; simp only; omega
  · rw [e]
    have := hg m
    have := hB m (by omega)
    simp only; omega

set_option maxHeartbeats 2000000 in
theorem best_spec (s l p : Int) (w : World) (hs : sc s = true) (hl : ln l = true) (hp : 0 ≤ p ∧ p ≤ 100000) :
    Calls Tryd.prog 77 #[.int .i64 s, .int .i64 l, .int .i64 p] w fun e' w' => e' = .returned (.agg #[.int .i64 (atD (bstN s l p).toNat), .int .i64 (atT (bstN s l p).toNat)]) ∧ Gr w w' := by
  obtain ⟨p1, p2⟩ := hp
  have HP := Lib.hid (fun (n : Nat) (hn : n < 2700) W => position_spec s (atD n) (atT n) W (at_fg n hn) hs (lgb_ok (at_fg n hn)))
  have HL := Lib.hid (fun (n : Nat) (hn : n < 2700) W => pl_spec s (atD n) (atT n) l W (at_fg n hn) hl)
  have HB := Lib.hid (fun (n : Nat) (hn : n < 2700) => pl_bd s (atD n) (atT n) l (at_fg n hn) hl)
  have HN := Lib.hid (awy_nn s l p)
  have HW := Lib.hid (fun (n : Nat) => (show awy s l p n = ((pl s (atD n) (atT n) l).1 + (pl s (atD n) (atT n) l).2 - 2 * p).natAbs from rfl))
  have hw2 : ∀ k, k < 2700 → awy s l p k ≤ 2000000 := fun k hk => by
    obtain ⟨b1, b2, b3, b4, -⟩ := HB.out k hk
    rw [HW.out]
    generalize (pl s (atD k) (atT k) l).1 = x at *
    generalize (pl s (atD k) (atT k) l).2 = y at *
    omega
  have HT := Lib.hid (fun (k : Nat) (hk : k ≤ 2700) => bst_bd (awy s l p) (awy_nn s l p) 2000000 hw2 k hk)
  have HF := Lib.hid (figs_is s)
  obtain ⟨f1, f2⟩ := figs_bd s
  have HA := Lib.hid (show bstN s l p = (bstQ (awy s l p) (figs s)).1 from rfl)
  have HD := Lib.hid (fun W => decades_spec s W)
  obtain ⟨d1, d2⟩ := dec_bd s
  obtain ⟨m, hm, em, -, -⟩ := bstN_spec s l p
  rw [em] at HA
  rw [em, Int.toNat_natCast]
  generalize figs s = N at *
  generalize dec s = d at *
  generalize awy s l p = g at *
  clear hs hl hw2 em
  go_enter Tryd.func77, Tryd.ntmps77
  go_wp2
  go_loopw [7, 8, 9] (fun a b i wr => ∃ k : Nat, k ≤ N ∧ a = .int .i64 (bstQ g k).1 ∧ b = .int .i64 (bstQ g k).2 ∧ i = .int .i64 k ∧ Gr (w.alloc (.cells #[.int .i64 0, .int .i64 0] 27)) wr) (fun _ _ i _ => N - (intOf i).toNat)
  case atStart => exact ⟨0, by omega, rfl, rfl, rfl, Gr.refl _⟩
  case round =>
    obtain ⟨k, hk, rfl, rfl, rfl, hG⟩ := hrel
    have HFO := HF.out
    by_cases hlt : k < N
    · have hp := Lib.hid (HP.out k (by omega))
      have hl := Lib.hid (HL.out k (by omega))
      obtain ⟨b1, b2, b3, b4, -⟩ := HB.out k (by omega)
      have hw := HW.out k
      have hat := Lib.hid (fun W => at_spec6 k W (by omega))
      have st := Lib.hid (bst_step g k)
      have gn := HN.out k
      obtain ⟨t1, t2⟩ := HT.out k (by omega)
      generalize bstQ g k = r at *
      generalize g k = gk at *
      generalize pl s (atD k) (atT k) l = y at *
      obtain ⟨y1, y2⟩ := y
      generalize psn s (atD k) (atT k) = z at *
      generalize atD k = u at *
      generalize atT k = v at *
      obtain ⟨r1, r2⟩ := r
      simp only at b1 b2 b3 b4 hw hl t1 t2 st
      have hab := Lib.hid (fun W => abs_any (y1 + y2 - 2 * p) W (by omega) (by omega))
      rw [← hw] at hab
      by_cases hless : r2 < 0
      · rw [if_pos (.inl hless)] at st
        clear hw
        go_wp2_with (first
          | (go_at_call 58; refine (HD.out _).mono ?_; rintro e' w' ⟨rfl, rfl⟩)
          | (go_at_call 46; refine (hat.out _).mono ?_; rintro e' w1 ⟨rfl, hg1⟩)
          | (go_at_call 88; refine (hp.out _).mono ?_; rintro e' w2 ⟨rfl, hg2⟩)
          | (go_at_call 87; refine (hl.out _).mono ?_; rintro e' w3 ⟨rfl, hg3⟩)
          | (go_at_call 100; refine (hab.out _).mono ?_; rintro e' w4 ⟨rfl, rfl⟩))
        go_roundw
        case rel => exact ⟨k + 1, by omega, by rw [st.out], by rw [st.out], by go_num, ((((hG.trans hg1).trans hg2).trans hg3).alloc _)⟩
        case measure => simp [intOf]; omega
      · by_cases hlt2 : gk < r2
        · rw [if_pos (.inr hlt2)] at st
          clear hw
          go_wp2_with (first
            | (go_at_call 58; refine (HD.out _).mono ?_; rintro e' w' ⟨rfl, rfl⟩)
            | (go_at_call 46; refine (hat.out _).mono ?_; rintro e' w1 ⟨rfl, hg1⟩)
            | (go_at_call 88; refine (hp.out _).mono ?_; rintro e' w2 ⟨rfl, hg2⟩)
            | (go_at_call 87; refine (hl.out _).mono ?_; rintro e' w3 ⟨rfl, hg3⟩)
            | (go_at_call 100; refine (hab.out _).mono ?_; rintro e' w4 ⟨rfl, rfl⟩))
          go_roundw
          case rel => exact ⟨k + 1, by omega, by rw [st.out], by rw [st.out], by go_num, ((((hG.trans hg1).trans hg2).trans hg3).alloc _)⟩
          case measure => simp [intOf]; omega
        · rw [if_neg (by omega)] at st
          clear hw
          go_wp2_with (first
            | (go_at_call 58; refine (HD.out _).mono ?_; rintro e' w' ⟨rfl, rfl⟩)
            | (go_at_call 46; refine (hat.out _).mono ?_; rintro e' w1 ⟨rfl, hg1⟩)
            | (go_at_call 88; refine (hp.out _).mono ?_; rintro e' w2 ⟨rfl, hg2⟩)
            | (go_at_call 87; refine (hl.out _).mono ?_; rintro e' w3 ⟨rfl, hg3⟩)
            | (go_at_call 100; refine (hab.out _).mono ?_; rintro e' w4 ⟨rfl, rfl⟩))
          go_roundw
          case rel => exact ⟨k + 1, by omega, by rw [st.out], by rw [st.out], by go_num, ((((hG.trans hg1).trans hg2).trans hg3).alloc _)⟩
          case measure => simp [intOf]; omega
    · obtain rfl : k = N := by omega
      have ha := HA.out
      rw [← ha]
      clear ha
      have hat := Lib.hid (fun W => at_spec6 m W (by omega))
      obtain ⟨gk, gos, rfl⟩ := hG
      go_wp2_with (go_at_call 58; refine (HD.out _).mono ?_; rintro e' w' ⟨rfl, rfl⟩)
      refine (hat.out _).mono ?_
      rintro e' w' ⟨rfl, k', os', rfl⟩
      go_wp2_with fail
      ((try simp only [Exit.inBlock, Exit.then]); refine bodyPost_ret (v := .agg #[.int .i64 (atD m), .int .i64 (atT m)]) (by simp [results, Tryd.results77, go_sem]) rfl ?_)
      exact ⟨rfl, (by repeat (first | with_reducible exact Gr.refl _ | with_reducible refine Gr.alloc ?_ _ | with_reducible refine Gr.gr ?_ _ _ | with_reducible refine Gr.drew ?_ | with_reducible refine Gr.drewN ?_ _))⟩

theorem brR_spec (s l p : Int) (w : World) :
    Calls Tryd.prog 34 #[.int .i64 s, .int .i64 l, .int .i64 p] w fun e' w' => e' = .returned (.tuple #[.agg #[.int .i64 (brR s l p).1.1, .int .i64 (brR s l p).1.2], .int .i64 (brR s l p).2]) ∧ Gr w w' := by
  have HC := Lib.hid (fun W => code6_spec s l p 0 W)
  rcases ok6_tf s l p 0 with h | h
  · have H := Lib.hid (brR_ok s l p h)
    obtain ⟨hs, hl, ⟨hp1, hp2⟩, -⟩ := (ok6_iff s l p 0).1 h
    have hl2 := (ln_iff l).1 hl
    have HB := Lib.hid (fun W => best_spec s l p W hs hl ⟨hp1, by omega⟩)
    rw [cd6_ok h] at HC
    clear h hs hl hp1 hp2 hl2
    generalize atD (bstN s l p).toNat = x at *
    generalize atT (bstN s l p).toNat = y at *
    go_enter Tryd.func34, Tryd.ntmps34
    go_wp2_with (first
      | (go_at_call 44; refine (HC.out _).mono ?_; rintro e' w' ⟨rfl, rfl⟩)
      | (go_at_call 77; refine (HB.out _).mono ?_; rintro e' w' ⟨rfl, k, os, rfl⟩))
    ((try simp only [Exit.inBlock, Exit.then]); refine bodyPost_ret (v := .tuple #[.agg #[.int .i64 x, .int .i64 y], .int .i64 0]) (by simp [results, Tryd.results34, go_sem]) rfl ?_)
    exact ⟨ps_yes _ _ _ H.out, (by repeat (first | with_reducible exact Gr.refl _ | with_reducible refine Gr.alloc ?_ _ | with_reducible refine Gr.gr ?_ _ _ | with_reducible refine Gr.drew ?_ | with_reducible refine Gr.drewN ?_ _))⟩
  · have H := Lib.hid (brR_rg s l p h)
    rw [cd6_no h] at HC
    clear h
    go_enter Tryd.func34, Tryd.ntmps34
    go_wp2_with (go_at_call 44; refine (HC.out _).mono ?_; rintro e' w' ⟨rfl, rfl⟩)
    ((try simp only [Exit.inBlock, Exit.then]); refine bodyPost_ret (v := .tuple #[.agg #[.int .i64 0, .int .i64 0], .int .i64 2]) (by simp [results, Tryd.results34, go_sem]) rfl ?_)
    exact ⟨ps_no _ _ H.out, (by repeat (first | with_reducible exact Gr.refl _ | with_reducible refine Gr.alloc ?_ _ | with_reducible refine Gr.gr ?_ _ _ | with_reducible refine Gr.drew ?_ | with_reducible refine Gr.drewN ?_ _))⟩
end Go.Proofs.YtgadkpkpdpphbaaDoor
