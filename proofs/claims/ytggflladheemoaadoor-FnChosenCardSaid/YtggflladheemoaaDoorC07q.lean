/- Contracts of chapter 7: the program's finest step. -/
import Derived.Test.YtggflladheemoaaDoorC07p
import Derived.WalkMore
namespace Go.Proofs.YtggflladheemoaaDoor
open Go.RowKit
set_option linter.unusedVariables false
set_option linter.unusedSimpArgs false

set_option maxRecDepth 100000 in
set_option maxHeartbeats 8000000 in
theorem fnR_impl1 (s l f t lim : Int) (w : World) (hs : sc s = true) (hl : ln l = true) (h1 : 1000 ≤ f) (h2 : f < t) (h3 : t ≤ 10000) (m1 : 0 ≤ lim) (m2 : lim ≤ 100000) (hD : Dcs w) (hU : Uss w) :
    Calls Tryd.prog 16 #[.int .i64 s, .int .i64 l, .int .i64 f, .int .i64 t, .int .i64 lim] w fun e w' => e = .returned (.tuple #[.int .i64 (fnR s l f t lim).1, .int .i64 (fnR s l f t lim).2]) ∧ Below w.heap.size w w' := by
  have HS := Lib.hid (fun W => isScale_impl s W)
  rw [hs] at HS
  have HLn := Lib.hid (fun W => isLength_impl l W)
  rw [hl] at HLn
  have hok : okF s l f t lim = true := by rw [okF_parts s l f t lim hs hl]; exact decide_eq_true ⟨⟨h1, by omega⟩, ⟨by omega, h3⟩, m1, m2⟩
  have HNO := Lib.hid (fnR_no s l f t lim hok)
  have HYES := Lib.hid (fnR_ok s l f t lim hok)
  have HKA := Lib.hid (fun st W p1 p2 hW => ka_any s l f t lim st W hs hl h1 h2 h3 p1 p2 hW)
  have HPOS := Lib.hid usual_pos
  have HFN := Lib.hid (show fnS s l f t lim = (usual.find? (stOk s l f t lim)).getD 0 from rfl)
  have HFA := Lib.hid (fun (k : Nat) (x : Int) (h : usual[k]? = some x) h0 => find_at (p := stOk s l f t lim) h h0)
  have HUL : Hid (usual.length = 9) := Lib.hid rfl
  have HD := Lib.hid hD
  have c0 := hU 0 1 rfl
  have c1 := hU 1 2 rfl
  have c2 := hU 2 5 rfl
  have c3 := hU 3 10 rfl
  have c4 := hU 4 20 rfl
  have c5 := hU 5 50 rfl
  have c6 := hU 6 100 rfl
  have c7 := hU 7 200 rfl
  have c8 := hU 8 500 rfl
  clear hD hU hs hl hok
  go_enter Tryd.func16, Tryd.ntmps16
  go_wp2
  go_step3
  go_wp2_with (first | (go_at_call 83; refine (HS.out _).mono ?_; rintro e w' ⟨rfl, rfl⟩) | (go_at_call 84; refine (HLn.out _).mono ?_; rintro e w' ⟨rfl, rfl⟩))
  go_step3
  go_wp2
  clear c0 c1 c2 c3 c4 c5 c6 c7 c8
  go_loopw [12, 13, 45] (fun a b i wr => ∃ k : Nat, i = .int .i64 k ∧ k ≤ 9 ∧ a = .int .i64 0 ∧ b = .int .i64 4 ∧ Hid ((usual.take k).find? (stOk s l f t lim) = none) ∧ Gr w wr) (fun _ _ i _ => 9 - (intOf i).toNat)
  case atStart => exact ⟨0, rfl, by omega, rfl, rfl, Lib.hid (by simp), Gr.refl _⟩
  case round =>
    obtain ⟨k, rfl, hk, rfl, rfl, HN, hG⟩ := hrel
    by_cases hlt : k < 9
    · have hk9 : decide ((k : Int) < 9) = true := decide_eq_true (by omega)
      obtain ⟨st, hst⟩ := some_at (l := usual) (k := k) (by rw [HUL.out]; exact hlt)
      obtain ⟨st1, st2⟩ := HPOS.out st (List.mem_of_getElem? hst)
      have HA := Lib.hid (HFA.out k st hst HN.out)
      have hidx := fun W => uss_idx k st hst W
      have HST := Lib.hid (show stOk s l f t lim st = (decide ((t - f).tmod st = 0) && kaB s l f t lim st) from rfl)
      have HDV := Lib.hid (fun W => isDivided_any f t st W (by omega) h2 (by omega))
      have hdv : dvd7 (f, t, st) = decide ((t - f).tmod st = 0) := by unfold dvd7; simp [st1]
      rw [hdv] at HDV
      clear hst hdv
      by_cases hq : (t - f).tmod st = 0
      rotate_left
      · have HQ := Lib.hid (HA.out.2 (by rw [HST.out, decide_eq_false hq]; rfl))
        rw [decide_eq_false hq] at HDV
        clear hq
        go_wp2_with (go_at_call 85; refine (HDV.out _).mono ?_; rintro e w' ⟨rfl, kk, os, rfl⟩)
        go_roundw
        case rel => exact ⟨k + 1, by go_num, by omega, rfl, rfl, HQ, hG.trans (by repeat (first | with_reducible exact Gr.refl _ | with_reducible refine Gr.alloc ?_ _ | with_reducible refine Gr.gr ?_ _ _ | with_reducible refine Gr.drew ?_ | with_reducible refine Gr.drewN ?_ _))⟩
        case measure => simp [intOf]; omega
      have HK := Lib.hid (fun W hW => HKA.out st W st1 hq hW)
      rw [decide_eq_true hq, Bool.true_and] at HST
      rw [decide_eq_true hq] at HDV
      clear hq
      rcases Bool.eq_false_or_eq_true (kaB s l f t lim st) with hb | hb
      · have HQ := Lib.hid (HA.out.1 (by rw [HST.out, hb]))
        rw [hb] at HK
        have hne : fnS s l f t lim = st := by rw [HFN.out, HQ.out]; rfl
        have HC := Lib.hid (HYES.out (by rw [hne]; omega))
        rw [hne] at HC
        clear hb hne
        go_wp2_with (first
          | (go_at_call 85; refine (HDV.out _).mono ?_; rintro e w' ⟨rfl, kk, os, rfl⟩)
          | (go_at_call 86; refine (HK.out _ (HD.out.gr (hG.trans (by repeat (first | with_reducible exact Gr.refl _ | with_reducible refine Gr.alloc ?_ _ | with_reducible refine Gr.gr ?_ _ _ | with_reducible refine Gr.drew ?_ | with_reducible refine Gr.drewN ?_ _))))).mono ?_; rintro e w3 ⟨rfl, hb3⟩; have hg3 := hG.trans (Gr.trans (u := wr) (by repeat (first | with_reducible exact Gr.refl _ | with_reducible refine Gr.alloc ?_ _ | with_reducible refine Gr.gr ?_ _ _ | with_reducible refine Gr.drew ?_ | with_reducible refine Gr.drewN ?_ _)) (Gr.of_below hb3)); clear hb3))
        rw [Exit.noGoto_ret]
        ((try simp only [Exit.inBlock, Exit.then]); refine bodyPost_ret (v := .tuple #[.int .i64 st, .int .i64 0]) (by simp [results, Tryd.results16, go_sem]) rfl ?_)
        exact ⟨by rw [HC.out], hg3.below⟩
      · have HQ := Lib.hid (HA.out.2 (by rw [HST.out, hb]))
        rw [hb] at HK
        clear hb
        go_wp2_with (first
          | (go_at_call 85; refine (HDV.out _).mono ?_; rintro e w' ⟨rfl, kk, os, rfl⟩)
          | (go_at_call 86; refine (HK.out _ (HD.out.gr (hG.trans (by repeat (first | with_reducible exact Gr.refl _ | with_reducible refine Gr.alloc ?_ _ | with_reducible refine Gr.gr ?_ _ _ | with_reducible refine Gr.drew ?_ | with_reducible refine Gr.drewN ?_ _))))).mono ?_; rintro e w3 ⟨rfl, hb3⟩; have hg3 := hG.trans (Gr.trans (u := wr) (by repeat (first | with_reducible exact Gr.refl _ | with_reducible refine Gr.alloc ?_ _ | with_reducible refine Gr.gr ?_ _ _ | with_reducible refine Gr.drew ?_ | with_reducible refine Gr.drewN ?_ _)) (Gr.of_below hb3)); clear hb3))
        go_roundw
        case rel => exact ⟨k + 1, by go_num, by omega, rfl, rfl, HQ, hg3⟩
        case measure => simp [intOf]; omega
    · obtain rfl : k = 9 := by omega
      have HC := Lib.hid (HNO.out (by rw [HFN.out]; have := HN.out; rw [show usual.take 9 = usual from rfl] at this; rw [this]; rfl))
      go_wp2
      rw [Exit.noGoto_ret]
      ((try simp only [Exit.inBlock, Exit.then]); refine bodyPost_ret (v := .tuple #[.int .i64 0, .int .i64 4]) (by simp [results, Tryd.results16, go_sem]) rfl ?_)
      exact ⟨by rw [HC.out], hG.below⟩

set_option maxRecDepth 100000 in
set_option maxHeartbeats 4000000 in
theorem fnR_impl (s l f t lim : Int) (w : World) (hD : Dcs w) (hU : Uss w) :
    Calls Tryd.prog 16 #[.int .i64 s, .int .i64 l, .int .i64 f, .int .i64 t, .int .i64 lim] w fun e w' => e = .returned (.tuple #[.int .i64 (fnR s l f t lim).1, .int .i64 (fnR s l f t lim).2]) ∧ Below w.heap.size w w' := by
  have HS := Lib.hid (fun W => isScale_impl s W)
  have HLn := Lib.hid (fun W => isLength_impl l W)
  have HR := Lib.hid (fnR_rg s l f t lim)
  rcases sc_tf s with hs | hs
  rotate_left
  · have HC := Lib.hid (HR.out (by unfold okF; rw [hs]; rfl))
    rw [hs] at HS
    clear hs hD hU
    go_enter Tryd.func16, Tryd.ntmps16
    go_wp2
    go_step3
    go_wp2_with (first | (go_at_call 83; refine (HS.out _).mono ?_; rintro e w' ⟨rfl, rfl⟩) | (go_at_call 84; refine (HLn.out _).mono ?_; rintro e w' ⟨rfl, rfl⟩))
    rw [Exit.noGoto_ret]
    ((try simp only [Exit.inBlock, Exit.then]); refine bodyPost_ret (v := .tuple #[.int .i64 0, .int .i64 2]) (by simp [results, Tryd.results16, go_sem]) rfl ?_)
    exact ⟨by rw [HC.out], Below.refl _ _⟩
  rw [hs] at HS
  rcases ln_tf l with hl | hl
  rotate_left
  · have HC := Lib.hid (HR.out (by unfold okF; rw [hs, hl]; rfl))
    rw [hl] at HLn
    clear hs hl hD hU
    go_enter Tryd.func16, Tryd.ntmps16
    go_wp2
    go_step3
    go_wp2_with (first | (go_at_call 83; refine (HS.out _).mono ?_; rintro e w' ⟨rfl, rfl⟩) | (go_at_call 84; refine (HLn.out _).mono ?_; rintro e w' ⟨rfl, rfl⟩))
    rw [Exit.noGoto_ret]
    ((try simp only [Exit.inBlock, Exit.then]); refine bodyPost_ret (v := .tuple #[.int .i64 0, .int .i64 2]) (by simp [results, Tryd.results16, go_sem]) rfl ?_)
    exact ⟨by rw [HC.out], Below.refl _ _⟩
  rw [hl] at HLn
  have HOK := Lib.hid (okF_parts s l f t lim hs hl)
  by_cases m1 : 0 ≤ lim
  rotate_left
  · have HC := Lib.hid (HR.out (by rw [HOK.out]; exact decide_eq_false (fun h => m1 h.2.2.1)))
    have m1' : lim < 0 := by omega
    clear hs hl hD hU m1
    go_enter Tryd.func16, Tryd.ntmps16
    go_wp2
    go_step3
    go_wp2_with (first | (go_at_call 83; refine (HS.out _).mono ?_; rintro e w' ⟨rfl, rfl⟩) | (go_at_call 84; refine (HLn.out _).mono ?_; rintro e w' ⟨rfl, rfl⟩))
    rw [Exit.noGoto_ret]
    ((try simp only [Exit.inBlock, Exit.then]); refine bodyPost_ret (v := .tuple #[.int .i64 0, .int .i64 2]) (by simp [results, Tryd.results16, go_sem]) rfl ?_)
    exact ⟨by rw [HC.out], Below.refl _ _⟩
  by_cases m2 : lim ≤ 100000
  rotate_left
  · have HC := Lib.hid (HR.out (by rw [HOK.out]; exact decide_eq_false (fun h => m2 h.2.2.2)))
    have g1 : decide (lim < 0) = false := decide_eq_false (by omega)
    have m2' : 100000 < lim := by omega
    clear hs hl hD hU m2
    go_enter Tryd.func16, Tryd.ntmps16
    go_wp2
    go_step3
    go_wp2_with (first | (go_at_call 83; refine (HS.out _).mono ?_; rintro e w' ⟨rfl, rfl⟩) | (go_at_call 84; refine (HLn.out _).mono ?_; rintro e w' ⟨rfl, rfl⟩))
    rw [Exit.noGoto_ret]
    ((try simp only [Exit.inBlock, Exit.then]); refine bodyPost_ret (v := .tuple #[.int .i64 0, .int .i64 2]) (by simp [results, Tryd.results16, go_sem]) rfl ?_)
    exact ⟨by rw [HC.out], Below.refl _ _⟩
  by_cases h1 : 1000 ≤ f
  rotate_left
  · have HC := Lib.hid (HR.out (by rw [HOK.out]; exact decide_eq_false (fun h => h1 h.1.1)))
    have g1 : decide (lim < 0) = false := decide_eq_false (by omega)
    have h1' : f < 1000 := by omega
    clear hs hl hD hU h1
    go_enter Tryd.func16, Tryd.ntmps16
    go_wp2
    go_step3
    go_wp2_with (first | (go_at_call 83; refine (HS.out _).mono ?_; rintro e w' ⟨rfl, rfl⟩) | (go_at_call 84; refine (HLn.out _).mono ?_; rintro e w' ⟨rfl, rfl⟩))
    rw [Exit.noGoto_ret]
    ((try simp only [Exit.inBlock, Exit.then]); refine bodyPost_ret (v := .tuple #[.int .i64 0, .int .i64 2]) (by simp [results, Tryd.results16, go_sem]) rfl ?_)
    exact ⟨by rw [HC.out], Below.refl _ _⟩
  by_cases h2 : f < t
  rotate_left
  · have HC := Lib.hid (HR.out (by rw [HOK.out]; exact decide_eq_false (fun h => by omega)))
    have g1 : decide (lim < 0) = false := decide_eq_false (by omega)
    have g2 : decide (f < 1000) = false := decide_eq_false (by omega)
    have h2' : t ≤ f := by omega
    clear hs hl hD hU h2
    go_enter Tryd.func16, Tryd.ntmps16
    go_wp2
    go_step3
    go_wp2_with (first | (go_at_call 83; refine (HS.out _).mono ?_; rintro e w' ⟨rfl, rfl⟩) | (go_at_call 84; refine (HLn.out _).mono ?_; rintro e w' ⟨rfl, rfl⟩))
    rw [Exit.noGoto_ret]
    ((try simp only [Exit.inBlock, Exit.then]); refine bodyPost_ret (v := .tuple #[.int .i64 0, .int .i64 2]) (by simp [results, Tryd.results16, go_sem]) rfl ?_)
    exact ⟨by rw [HC.out], Below.refl _ _⟩
  by_cases h3 : t ≤ 10000
  rotate_left
  · have HC := Lib.hid (HR.out (by rw [HOK.out]; exact decide_eq_false (fun h => h3 h.2.1.2)))
    have g1 : decide (lim < 0) = false := decide_eq_false (by omega)
    have g2 : decide (f < 1000) = false := decide_eq_false (by omega)
    have g3 : decide (t ≤ f) = false := decide_eq_false (by omega)
    have h3' : 10000 < t := by omega
    clear hs hl hD hU h3
    go_enter Tryd.func16, Tryd.ntmps16
    go_wp2
    go_step3
    go_wp2_with (first | (go_at_call 83; refine (HS.out _).mono ?_; rintro e w' ⟨rfl, rfl⟩) | (go_at_call 84; refine (HLn.out _).mono ?_; rintro e w' ⟨rfl, rfl⟩))
    rw [Exit.noGoto_ret]
    ((try simp only [Exit.inBlock, Exit.then]); refine bodyPost_ret (v := .tuple #[.int .i64 0, .int .i64 2]) (by simp [results, Tryd.results16, go_sem]) rfl ?_)
    exact ⟨by rw [HC.out], Below.refl _ _⟩
  exact fnR_impl1 s l f t lim w hs hl h1 h2 h3 m1 m2 hD hU
end Go.Proofs.YtggflladheemoaaDoor
