/- Contracts of chapter 11: the model's readings and settings. -/
import Derived.Test.YtddcdodbmbmdnaaDoorC11j
import Derived.Test.YtddcdodbmbmdnaaDoorC11b
import Derived.Test.YtddcdodbmbmdnaaDoor2A
namespace Go.Proofs.YtddcdodbmbmdnaaDoor
open Go.RowKit
set_option linter.unusedVariables false
set_option linter.unusedSimpArgs false

theorem rN_at (s p : Int) (m : Nat) (h : IsB (ptN s) p 0 (gN s) m) : gD (rdN s p) = gD m ∧ gT (rdN s p) = gT m := by rw [rdN_is s p m h]; exact ⟨rfl, rfl⟩
set_option maxHeartbeats 2000000 in
theorem read11_spec (s p : Int) (w : World) (hs : lsc s = true) (hp : -10000000 ≤ p ∧ p ≤ 10000000) :
    Calls Tryd.prog 39 #[.int .i64 s, .int .i64 p] w fun e w' => e = .returned (.agg #[.int .i64 (gD (rdN s p)), .int .i64 (gT (rdN s p))]) ∧ Gr w w' := by
  have hsc := lsc_sc s hs
  have hN := gN_bd s
  have hs' := (lsc_iff s).1 hs
  by_cases h4 : s = 4
  · subst h4
    have HA := Lib.hid (fun W => search11_spec 4 p 0 2143 false W hsc hp (by omega) (by omega) (fun i j _ h1 h2 => by simpa using pt_foldA i j h1 h2))
    have HB := Lib.hid (fun W => search11_spec 4 p 2143 9000 false W hsc hp (by omega) (by omega) (fun i j h0 h1 h2 => by simpa using pt_foldB i j h0 h1 h2))
    have HAt := Lib.hid (fun (i : Nat) W h => at11_spec i W h)
    have HP := Lib.hid (fun (i : Nat) W (h : i < 27000) => show Calls Tryd.prog 34 #[.int .i64 4, .agg #[.int .i64 (gD i), .int .i64 (gT i)]] W (fun e w' => e = .returned (.int .i64 (ptN 4 i)) ∧ Gr W w') from point_spec 4 (gD i) (gT i) W (g_fg i h) hsc)
    have HPB := Lib.hid (fun (i : Nat) (h : i < 27000) => show -2000000 ≤ ptN 4 i ∧ ptN 4 i ≤ 3200000 from pnt_bd 4 (gD i) (gT i) (g_fg i h))
    have HTwo := Lib.hid (fun m n => two_best (ptN 4) p 0 2143 9000 m n)
    have HR := Lib.hid (fun m h => rN_at 4 p m h)
    rw [gN_4] at HR
    obtain ⟨p1, p2⟩ := hp
    clear hs hs' hN hsc
    generalize gD (rdN 4 p) = rd at *
    generalize gT (rdN 4 p) = rt at *
    have h0 : ((0 : Nat) : Int) = 0 := rfl
    have h1 : ((2143 : Nat) : Int) = 2143 := rfl
    have h2 : ((9000 : Nat) : Int) = 9000 := rfl
    rw [h0, h1] at HA
    rw [h1, h2] at HB
    clear h0 h1 h2
    go_enter Tryd.func39, Tryd.ntmps39
    go_wp2_with (first
      | (go_at_call 77; (with_reducible refine (HA.out _).mono ?_); rintro e w1 ⟨⟨m, rfl, hm⟩, hg1⟩)
      | (go_at_call 77; (with_reducible refine (HB.out w1).mono ?_); rintro e w2 ⟨⟨n, rfl, hn⟩, hg2⟩))
    have hm1 := hm.hi
    have hn1 := hn.hi
    have b1 := HPB.out m (by omega)
    have b2 := HPB.out n (by omega)
    have HAm := Lib.hid (fun W => HAt.out m W (by omega))
    have HAn := Lib.hid (fun W => HAt.out n W (by omega))
    have HPm := Lib.hid (fun W => HP.out m W (by omega))
    have HPn := Lib.hid (fun W => HP.out n W (by omega))
    have HAb1 := Lib.hid (fun W => abs_any (ptN 4 m - p) W (by omega) (by omega))
    rw [show (((ptN 4 m - p).natAbs : Nat) : Int) = gap p (ptN 4 m) by unfold gap; omega] at HAb1
    have HAb2 := Lib.hid (fun W => abs_any (ptN 4 n - p) W (by omega) (by omega))
    rw [show (((ptN 4 n - p).natAbs : Nat) : Int) = gap p (ptN 4 n) by unfold gap; omega] at HAb2
    have HT := Lib.hid (HTwo.out m n hm hn)
    have R1 := (Blk.new w 26 #[.int .i64 0, .int .i64 0]).gr (hg1.trans hg2)
    have hW2 := (show Gr w _ from (by repeat (first | with_reducible exact Gr.refl _ | with_reducible refine Gr.alloc ?_ _ | with_reducible refine Gr.gr ?_ _ _ | with_reducible refine Gr.drew ?_ | with_reducible refine Gr.drewN ?_ _))).trans (hg1.trans hg2)
    clear HA HB HAt HP HPB HTwo hm hn hg1 hg2
    by_cases hc : gap p (ptN 4 n) < gap p (ptN 4 m)
    · have HE := Lib.hid (HR.out n (by have := HT.out; rwa [if_pos hc] at this))
      clear HR HT
      generalize gap p (ptN 4 n) = ga at *
      generalize gap p (ptN 4 m) = gb at *
      generalize ptN 4 n = va at *
      generalize ptN 4 m = vb at *
      generalize gD n = d1 at *
      generalize gT n = t1 at *
      generalize gD m = d2 at *
      generalize gT m = t2 at *
      go_wp2_with (first
        | (go_at_call 79; (with_reducible refine (HAn.out w2).mono ?_); rintro e w3 ⟨rfl, hg3⟩)
        | (go_at_call 34; (with_reducible refine (HPn.out w3).mono ?_); rintro e w4 ⟨rfl, hg4⟩)
        | (go_at_call 78; (with_reducible refine (HAb2.out w4).mono ?_); rintro e w5 ⟨rfl, rfl⟩)
        | (go_at_call 79; (with_reducible refine (HAm.out w4).mono ?_); rintro e w6 ⟨rfl, hg6⟩)
        | (go_at_call 34; (with_reducible refine (HPm.out w6).mono ?_); rintro e w7 ⟨rfl, hg7⟩)
        | (go_at_call 78; (with_reducible refine (HAb1.out w7).mono ?_); rintro e w8 ⟨rfl, rfl⟩)
        | (go_at_call 79; with_reducible refine (HAn.out w7).mono ?_; rintro e w9 ⟨rfl, hg9⟩; have hg := (((hg3.trans hg4).trans hg6).trans hg7).trans hg9; obtain ⟨r0, r1, rf⟩ := (R1.gr hg).two; have rl := (R1.gr hg).lt))
      ((try simp only [Exit.inBlock, Exit.then]); refine bodyPost_ret (v := .agg #[.int .i64 d1, .int .i64 t1]) (by simp [results, Tryd.results39, go_sem, r0, r1, World.cell?_setCell_same']) rfl ?_)
      exact ⟨ret_agg HE.out.1.symm HE.out.2.symm, Gr.of_below (((hW2.trans hg).below.setCell (p := ⟨w.heap.size, 0, none⟩) (Nat.le_refl _) _).setCell (p := ⟨w.heap.size, 1, none⟩) (Nat.le_refl _) _)⟩
    · have HE := Lib.hid (HR.out m (by have := HT.out; rwa [if_neg hc] at this))
      clear HR HT
      generalize gap p (ptN 4 n) = ga at *
      generalize gap p (ptN 4 m) = gb at *
      generalize ptN 4 n = va at *
      generalize ptN 4 m = vb at *
      generalize gD n = d1 at *
      generalize gT n = t1 at *
      generalize gD m = d2 at *
      generalize gT m = t2 at *
      go_wp2_with (first
        | (go_at_call 79; (with_reducible refine (HAn.out w2).mono ?_); rintro e w3 ⟨rfl, hg3⟩)
        | (go_at_call 34; (with_reducible refine (HPn.out w3).mono ?_); rintro e w4 ⟨rfl, hg4⟩)
        | (go_at_call 78; (with_reducible refine (HAb2.out w4).mono ?_); rintro e w5 ⟨rfl, rfl⟩)
        | (go_at_call 79; (with_reducible refine (HAm.out w4).mono ?_); rintro e w6 ⟨rfl, hg6⟩)
        | (go_at_call 34; (with_reducible refine (HPm.out w6).mono ?_); rintro e w7 ⟨rfl, hg7⟩)
        | (go_at_call 78; (with_reducible refine (HAb1.out w7).mono ?_); rintro e w8 ⟨rfl, rfl⟩)
        | (go_at_call 79; with_reducible refine (HAm.out w7).mono ?_; rintro e w9 ⟨rfl, hg9⟩; have hg := (((hg3.trans hg4).trans hg6).trans hg7).trans hg9; obtain ⟨r0, r1, rf⟩ := (R1.gr hg).two; have rl := (R1.gr hg).lt))
      ((try simp only [Exit.inBlock, Exit.then]); refine bodyPost_ret (v := .agg #[.int .i64 d2, .int .i64 t2]) (by simp [results, Tryd.results39, go_sem, r0, r1, World.cell?_setCell_same']) rfl ?_)
      exact ⟨ret_agg HE.out.1.symm HE.out.2.symm, Gr.of_below (((hW2.trans hg).below.setCell (p := ⟨w.heap.size, 0, none⟩) (Nat.le_refl _) _).setCell (p := ⟨w.heap.size, 1, none⟩) (Nat.le_refl _) _)⟩
  · have e4 : (s == 4) = false := by simpa using h4
    have HA := Lib.hid (fun W => search11_spec s p 0 (gN s) (s == 3) W hsc hp (by omega) (by omega) (fun i j _ h1 h2 => by
      by_cases h3 : s = 3
      · subst h3
        rw [gN_3] at h2
        simpa using pt_fall i j h1 h2
      · have := pt_rise s hs h3 h4 i j h1 h2
        simpa [h3] using this))
    have HAt := Lib.hid (fun (i : Nat) W h => at11_spec i W h)
    have HR := Lib.hid (fun m h => rN_at s p m h)
    have HD := Lib.hid (fun W => decades_spec s W)
    have d1 := dec_bd s
    have HG := gN_is s
    rw [show ((0 : Nat) : Int) = 0 from rfl, HG] at HA
    generalize hx3 : (s == 3) = x3 at *
    generalize gN s = N at *
    generalize gD (rdN s p) = rd at *
    generalize gT (rdN s p) = rt at *
    generalize dec s = ds at *
    have hw : IntKind.i64.wrap (9000 * ds) = 9000 * ds := IntWalk.i64_in _ (by omega)
    clear hs hs' h4
    go_enter Tryd.func39, Tryd.ntmps39
    go_wp2_with (first
      | (go_at_call 80; (with_reducible refine (HD.out _).mono ?_); rintro e w' ⟨rfl, rfl⟩)
      | (go_at_call 77; refine (HA.out _).mono ?_; rintro e w1 ⟨⟨m, rfl, hm⟩, hg1⟩; have HE := Lib.hid (HR.out m hm); have HAm := Lib.hid (fun W => HAt.out m W (by have := hm.hi; omega)); clear hm)
      | (go_at_call 79; refine (HAm.out w1).mono ?_; rintro e w2 ⟨rfl, hg2⟩; have R1 := (Blk.new w 26 #[.int .i64 0, .int .i64 0]).gr (hg1.trans hg2); obtain ⟨r0, r1, rf⟩ := R1.two; have rl := R1.lt))
    ((try simp only [Exit.inBlock, Exit.then]); refine bodyPost_ret (v := .agg #[.int .i64 (gD m), .int .i64 (gT m)]) (by simp [results, Tryd.results39, go_sem, r0, r1, World.cell?_setCell_same']) rfl ?_)
    exact ⟨ret_agg HE.out.1.symm HE.out.2.symm, Gr.of_below ((((show Gr w _ from (by repeat (first | with_reducible exact Gr.refl _ | with_reducible refine Gr.alloc ?_ _ | with_reducible refine Gr.gr ?_ _ _ | with_reducible refine Gr.drew ?_ | with_reducible refine Gr.drewN ?_ _))).trans (hg1.trans hg2)).below.setCell (p := ⟨w.heap.size, 0, none⟩) (Nat.le_refl _) _).setCell (p := ⟨w.heap.size, 1, none⟩) (Nat.le_refl _) _)⟩
end Go.Proofs.YtddcdodbmbmdnaaDoor
