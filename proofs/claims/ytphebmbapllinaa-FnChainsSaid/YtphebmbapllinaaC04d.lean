/- Contracts of chapter 4: spans of intervals in the model. -/
import Derived.Test.YtphebmbapllinaaC04c
import Derived.Deep.DeepCutAuto
namespace Go.Proofs.Ytphebmbapllinaa
open Go.RowKit Go.Shelf
set_option linter.unusedVariables false
set_option linter.unusedSimpArgs false

/- (worlds written out, where blocks are laid beside calls in any order: sizes come into one form) -/
theorem gr_of_drew (w : World) (k : Nat) (os : Array Obj) : gr w.drew k os = gr w k os := rfl
theorem gr_alloc_size (w : World) (k : Nat) (os : Array Obj) (o : Obj) : (gr (w.alloc o) k os).heap.size = w.heap.size + 1 + os.size := by rw [gr_size]; simp
theorem gr_lt_s (w : World) (k m n : Nat) (os : Array Obj) (h : n ≤ w.heap.size) : n < (gr w k os).heap.size + 1 + m := by rw [gr_size]; omega
theorem up_s1 (n m : Nat) : n < n + 1 + m := by omega
theorem up_n1 (n m : Nat) : ¬ n = n + 1 + m := by omega
theorem up_m1 (n m : Nat) : ¬ n + 1 + m = n := by omega
theorem up_s2 (n m : Nat) : n < n + 1 + 1 + m := by omega
theorem up_n2 (n m : Nat) : ¬ n = n + 1 + 1 + m := by omega
theorem up_m2 (n m : Nat) : ¬ n + 1 + 1 + m = n := by omega
theorem up_s3 (n m : Nat) : n < n + 1 + 1 + 1 + m := by omega
theorem up_n3 (n m : Nat) : ¬ n = n + 1 + 1 + 1 + m := by omega
theorem up_m3 (n m : Nat) : ¬ n + 1 + 1 + 1 + m = n := by omega
theorem up_s4 (n m : Nat) : n < n + 1 + 1 + 1 + 1 + m := by omega
theorem up_n4 (n m : Nat) : ¬ n = n + 1 + 1 + 1 + 1 + m := by omega
theorem up_m4 (n m : Nat) : ¬ n + 1 + 1 + 1 + 1 + m = n := by omega
theorem up_s5 (n m : Nat) : n < n + 1 + 1 + 1 + 1 + 1 + m := by omega
theorem up_n5 (n m : Nat) : ¬ n = n + 1 + 1 + 1 + 1 + 1 + m := by omega
theorem up_m5 (n m : Nat) : ¬ n + 1 + 1 + 1 + 1 + 1 + m = n := by omega
theorem up_s6 (n m : Nat) : n < n + 1 + 1 + 1 + 1 + 1 + 1 + m := by omega
theorem up_n6 (n m : Nat) : ¬ n = n + 1 + 1 + 1 + 1 + 1 + 1 + m := by omega
theorem up_m6 (n m : Nat) : ¬ n + 1 + 1 + 1 + 1 + 1 + 1 + m = n := by omega
attribute [local go_sem] gr_of_drew gr_alloc_size gr_lt_s up_s1 up_n1 up_m1 up_s2 up_n2 up_m2 up_s3 up_n3 up_m3 up_s4 up_n4 up_m4 up_s5 up_n5 up_m5 up_s6 up_n6 up_m6

/-- TwoC cells of a block that lies in the world. -/
def TwoC (w : World) (g : Nat) (x y : Value) : Prop := g < w.heap.size ∧ w.cell? ⟨g, 0, none⟩ = some x ∧ w.cell? ⟨g, 1, none⟩ = some y
theorem TwoC.gr {w w' : World} {g : Nat} {x y : Value} (h : TwoC w g x y) (hg : Gr w w') : TwoC w' g x y :=
  ⟨Nat.lt_of_lt_of_le h.1 hg.below.size, (hg.below.cell (p := ⟨g, 0, none⟩) h.1).trans h.2.1, (hg.below.cell (p := ⟨g, 1, none⟩) h.1).trans h.2.2⟩

set_option maxHeartbeats 4000000 in
theorem spU_some (l h d1 t1 d2 t2 : Int) (x : Sp) (w : World) (E1 : Hid (un l = true)) (E2 : Hid (un h = true))
    (B : Hid (∀ W, Calls Try.prog 84 #[.int .i64 l] W fun e w' => e = .returned (.agg #[.int .i64 d1, .int .i64 t1]) ∧ Gr W w'))
    (A : Hid (∀ W, Calls Try.prog 85 #[.int .i64 h] W fun e w' => e = .returned (.agg #[.int .i64 d2, .int .i64 t2]) ∧ Gr W w'))
    (X : Hid ((fg d1 t1 = true ∧ fg d2 t2 = true ∧ x = ⟨d1, t1, d2, t2, 0⟩) ∨ (fg d1 t1 = false ∧ x = ⟨0, 0, 0, 0, 4⟩) ∨ (fg d1 t1 = true ∧ fg d2 t2 = false ∧ x = ⟨0, 0, 0, 0, 4⟩))) :
    Calls Try.prog 57 #[.agg #[.int .i64 l, .int .i64 h]] w fun e w' => e = .returned (.tuple #[.agg #[.int .i64 (x).a, .int .i64 (x).s], .agg #[.int .i64 (x).b, .int .i64 (x).t], .int .i64 (x).c]) ∧ Gr w w' := by
  go_enter Try.func57, Try.ntmps57
  go_upto_region 3 with (go_at_call 83; refine (units_spec _ _).mono ?_; (first | rw [E1.out] | rw [E2.out]); rintro e w' ⟨rfl, rfl⟩)
  go_cut [5, 6] (fun x y wx => ∃ p q : Nat, x = .pointer (some ⟨p, 0, none⟩) ∧ y = .pointer (some ⟨q, 0, none⟩) ∧ wx.cell? ⟨p, 0, none⟩ = some (.int .i64 d1) ∧ wx.cell? ⟨p, 1, none⟩ = some (.int .i64 t1) ∧
    wx.cell? ⟨q, 0, none⟩ = some (.int .i64 d2) ∧ wx.cell? ⟨q, 1, none⟩ = some (.int .i64 t2) ∧ w.heap.size + 2 < p ∧ w.heap.size + 2 < q ∧ p < wx.heap.size ∧ q < wx.heap.size ∧
    Gr (((w.alloc (.cells #[.int .i64 l, .int .i64 h] 32)).alloc (.cells #[.int .i64 0, .int .i64 0] 38)).alloc (.cells #[.int .i64 0, .int .i64 0] 38)) wx)
  case first =>
    go_region_held3 (fun w' => w'.cell? ⟨w.heap.size, 0, none⟩ = some (.int .i64 l) ∧ w'.cell? ⟨w.heap.size, 1, none⟩ = some (.int .i64 h)) (first | (go_simp; done) | (simp (disch := first | omega | (simp [gr_size]; done) | (simp [gr_size]; omega)) [gr_cell, World.cell?_drew, World.cell?_alloc_at, World.cell?_alloc_past]; done)) (first
      | (go_at_call 84; refine (B.out _).mono ?_; rintro e w' ⟨rfl, k, os, rfl⟩)
      | (go_at_call 85; refine (A.out _).mono ?_; rintro e w' ⟨rfl, k, os, rfl⟩))
    all_goals
      go_wp2_with fail
      go_meet
      refine ⟨_, _, rfl, rfl, ?_, ?_, ?_, ?_, ?_, ?_, ?_, ?_, ?_⟩
      all_goals (first | (go_simp; done) | (simp [gr_size]; done) | (simp [gr_size]; omega) | omega | exact (by repeat (first | with_reducible exact Gr.refl _ | with_reducible refine Gr.alloc ?_ _ | with_reducible refine Gr.gr ?_ _ _ | with_reducible refine Gr.drew ?_ | with_reducible refine Gr.drewN ?_ _)))
  case rest =>
    obtain ⟨p, q, rfl, rfl, p0, p1, q0, q1, lp, lq, sp, sq, hG⟩ := hcut
    obtain ⟨hB0, -, P0, Q0⟩ := at3 hG
    have U0 : TwoC wc p (.int .i64 d1) (.int .i64 t1) := ⟨sp, p0, p1⟩
    have V0 : TwoC wc q (.int .i64 d2) (.int .i64 t2) := ⟨sq, q0, q1⟩
    have XX := X.out
    clear A B X hG E1 E2
    rcases XX with ⟨x1, x2, x3⟩ | ⟨x1, x3⟩ | ⟨x1, x2, x3⟩
    · have R := Lib.hid x3
      go_wp2_with fail
      refine (isFigure_spec _ _ _).mono ?_
      rw [x1]
      rintro e w1 ⟨rfl, hg1⟩
      have U1 := U0.gr hg1
      have V1 := V0.gr hg1
      have P1 := P0.gr hg1
      have Q1 := Q0.gr hg1
      have hB1 := hB0.trans (hg1.below.mono (by omega))
      clear U0 V0 P0 Q0 hB0 hg1 p0 p1 q0 q1 sp sq x1 x3
      obtain ⟨sq, q0, q1⟩ := V1
      go_wp2_with fail
      refine (isFigure_spec _ _ _).mono ?_
      rw [x2]
      rintro e w2 ⟨rfl, hg2⟩
      have V1 : TwoC w1 q (.int .i64 d2) (.int .i64 t2) := ⟨sq, q0, q1⟩
      have U2 := U1.gr hg2
      have V2 := V1.gr hg2
      have P2 := P1.gr hg2
      have Q2 := Q1.gr hg2
      have hB2 := hB1.trans (hg2.below.mono (by omega))
      clear U1 V1 P1 Q1 hB1 hg2 q0 q1 sq x2
      obtain ⟨sp, f0, f1⟩ := U2
      obtain ⟨sq, g0, g1⟩ := V2
      obtain ⟨p0, p1, pf⟩ := P2.two
      obtain ⟨q0, q1, qf⟩ := Q2.two
      have n1 : w.heap.size + 1 ≠ p := by omega
      have n2 : w.heap.size + 2 ≠ p := by omega
      have n3 : w.heap.size + 1 ≠ q := by omega
      have n4 : w.heap.size + 2 ≠ q := by omega
      clear P2 Q2
      go_wp2_with fail
      go_region
      all_goals
        go_wp2
        ((try simp only [Exit.inBlock, Exit.then]); refine bodyPost_ret (v := .tuple #[.agg #[.int .i64 d1, .int .i64 t1], .agg #[.int .i64 d2, .int .i64 t2], .int .i64 0]) (by simp [results, Try.results57, go_sem, p0, p1, q0, q1, World.cell?_setCell_same']) rfl ?_)
        exact ⟨ret_sp R.out, Gr.of_below ((((hB2.setCell (p := ⟨w.heap.size + 1, 0, none⟩) (by simp) _).setCell (p := ⟨w.heap.size + 1, 1, none⟩) (by simp) _).setCell (p := ⟨w.heap.size + 2, 0, none⟩) (by simp) _).setCell (p := ⟨w.heap.size + 2, 1, none⟩) (by simp) _).drew⟩
    · have R := Lib.hid x3
      go_wp2_with fail
      refine (isFigure_spec _ _ _).mono ?_
      rw [x1]
      rintro e w1 ⟨rfl, hg1⟩
      have P1 := P0.gr hg1
      have Q1 := Q0.gr hg1
      have hB1 := hB0.trans (hg1.below.mono (by omega))
      clear U0 V0 P0 Q0 hB0 hg1 x1 x3
      obtain ⟨p0, p1, pf⟩ := P1.two
      obtain ⟨q0, q1, qf⟩ := Q1.two
      go_wp2
      ((try simp only [Exit.inBlock, Exit.then]); refine bodyPost_ret (v := .tuple #[.agg #[.int .i64 0, .int .i64 0], .agg #[.int .i64 0, .int .i64 0], .int .i64 4]) (by simp [results, Try.results57, go_sem, p0, p1, q0, q1, World.cell?_setCell_same']) rfl ?_)
      exact ⟨ret_sp R.out, Gr.of_below ((((hB1.setCell (p := ⟨w.heap.size + 1, 0, none⟩) (by simp) _).setCell (p := ⟨w.heap.size + 1, 1, none⟩) (by simp) _).setCell (p := ⟨w.heap.size + 2, 0, none⟩) (by simp) _).setCell (p := ⟨w.heap.size + 2, 1, none⟩) (by simp) _)⟩
    · have R := Lib.hid x3
      go_wp2_with fail
      refine (isFigure_spec _ _ _).mono ?_
      rw [x1]
      rintro e w1 ⟨rfl, hg1⟩
      have V1 := V0.gr hg1
      have P1 := P0.gr hg1
      have Q1 := Q0.gr hg1
      have hB1 := hB0.trans (hg1.below.mono (by omega))
      clear U0 V0 P0 Q0 hB0 hg1 p0 p1 q0 q1 sp sq x1 x3
      obtain ⟨sq, q0, q1⟩ := V1
      go_wp2_with fail
      refine (isFigure_spec _ _ _).mono ?_
      rw [x2]
      rintro e w2 ⟨rfl, hg2⟩
      have P2 := P1.gr hg2
      have Q2 := Q1.gr hg2
      have hB2 := hB1.trans (hg2.below.mono (by omega))
      clear P1 Q1 hB1 hg2 q0 q1 sq x2
      obtain ⟨p0, p1, pf⟩ := P2.two
      obtain ⟨q0, q1, qf⟩ := Q2.two
      go_wp2
      ((try simp only [Exit.inBlock, Exit.then]); refine bodyPost_ret (v := .tuple #[.agg #[.int .i64 0, .int .i64 0], .agg #[.int .i64 0, .int .i64 0], .int .i64 4]) (by simp [results, Try.results57, go_sem, p0, p1, q0, q1, World.cell?_setCell_same']) rfl ?_)
      exact ⟨ret_sp R.out, Gr.of_below ((((hB2.setCell (p := ⟨w.heap.size + 1, 0, none⟩) (by simp) _).setCell (p := ⟨w.heap.size + 1, 1, none⟩) (by simp) _).setCell (p := ⟨w.heap.size + 2, 0, none⟩) (by simp) _).setCell (p := ⟨w.heap.size + 2, 1, none⟩) (by simp) _)⟩

theorem spU_spec (l h : Int) (w : World) :
    Calls Try.prog 57 #[.agg #[.int .i64 l, .int .i64 h]] w fun e w' => e = .returned (.tuple #[.agg #[.int .i64 (spU l h).a, .int .i64 (spU l h).s], .agg #[.int .i64 (spU l h).b, .int .i64 (spU l h).t], .int .i64 (spU l h).c]) ∧ Gr w w' := by
  rcases un_cases l h with ⟨h0, h1⟩ | ⟨h0, h1, h2⟩ | ⟨h1, h2⟩
  · have U := Lib.hid (spU_no l h h0)
    have E1 := Lib.hid h1
    clear h0 h1
    go_enter Try.func57, Try.ntmps57
    go_wp2_with (go_at_call 83; refine (units_spec _ _).mono ?_; rw [E1.out]; rintro e w' ⟨rfl, rfl⟩)
    ((try simp only [Exit.inBlock, Exit.then]); refine bodyPost_ret (v := .tuple #[.agg #[.int .i64 0, .int .i64 0], .agg #[.int .i64 0, .int .i64 0], .int .i64 2]) (by simp [results, Try.results57, go_sem]) rfl ?_)
    exact ⟨ret_sp (by rw [U.out]), (by repeat (first | with_reducible exact Gr.refl _ | with_reducible refine Gr.alloc ?_ _ | with_reducible refine Gr.gr ?_ _ _ | with_reducible refine Gr.drew ?_ | with_reducible refine Gr.drewN ?_ _))⟩
  · have U := Lib.hid (spU_no l h h0)
    have E1 := Lib.hid h1
    have E2 := Lib.hid h2
    clear h0 h1 h2
    go_enter Try.func57, Try.ntmps57
    go_wp2_with (go_at_call 83; refine (units_spec _ _).mono ?_; (first | rw [E1.out] | rw [E2.out]); rintro e w' ⟨rfl, rfl⟩)
    ((try simp only [Exit.inBlock, Exit.then]); refine bodyPost_ret (v := .tuple #[.agg #[.int .i64 0, .int .i64 0], .agg #[.int .i64 0, .int .i64 0], .int .i64 2]) (by simp [results, Try.results57, go_sem]) rfl ?_)
    exact ⟨ret_sp (by rw [U.out]), (by repeat (first | with_reducible exact Gr.refl _ | with_reducible refine Gr.alloc ?_ _ | with_reducible refine Gr.gr ?_ _ _ | with_reducible refine Gr.drew ?_ | with_reducible refine Gr.drewN ?_ _))⟩
  · exact spU_some l h _ _ _ _ _ w h1 h2 (fun W => below_spec l W) (fun W => above_spec h W) (by rw [spU_ok l h h1 h2]; exact spN_model _ _)

end Go.Proofs.Ytphebmbapllinaa
