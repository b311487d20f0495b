/- Contracts of chapter 4: spans of intervals, in the program and in the model. -/
import Derived.Test.YtphebmbapllinaaC04b
import Derived.Test.YtphebmbapllinaaBk
import Derived.Deep.RegionHeld3
import Derived.RegionTactic
namespace Go.Proofs.Ytphebmbapllinaa
open Go.RowKit Go.Shelf
set_option linter.unusedVariables false
set_option linter.unusedSimpArgs false

theorem ret_sp {x : Sp} {a s b t c : Int} (h : x = ⟨a, s, b, t, c⟩) : Ending.returned (.tuple #[.agg #[.int .i64 a, .int .i64 s], .agg #[.int .i64 b, .int .i64 t], .int .i64 c]) = .returned (.tuple #[.agg #[.int .i64 (x).a, .int .i64 (x).s], .agg #[.int .i64 (x).b, .int .i64 (x).t], .int .i64 (x).c]) := by rw [h]
theorem ret_sp' {x y : Sp} (h : x = y) : Ending.returned (.tuple #[.agg #[.int .i64 (y).a, .int .i64 (y).s], .agg #[.int .i64 (y).b, .int .i64 (y).t], .int .i64 (y).c]) = .returned (.tuple #[.agg #[.int .i64 (x).a, .int .i64 (x).s], .agg #[.int .i64 (x).b, .int .i64 (x).t], .int .i64 (x).c]) := by rw [h]
theorem un_cases (l h : Int) : ((un l && un h) = false ∧ un l = false) ∨ ((un l && un h) = false ∧ un l = true ∧ un h = false) ∨ (un l = true ∧ un h = true) := by
  cases un l <;> cases un h <;> simp
/-- The parts of a span, by the two numbers. -/
theorem spN_model (m n : Int) : (fg (1000 + m % 9000) (m / 9000) = true ∧ fg (1000 + n % 9000) (n / 9000) = true ∧ spN m n = ⟨1000 + m % 9000, m / 9000, 1000 + n % 9000, n / 9000, 0⟩) ∨
    (fg (1000 + m % 9000) (m / 9000) = false ∧ spN m n = ⟨0, 0, 0, 0, 4⟩) ∨ (fg (1000 + m % 9000) (m / 9000) = true ∧ fg (1000 + n % 9000) (n / 9000) = false ∧ spN m n = ⟨0, 0, 0, 0, 4⟩) := by
  by_cases hm : -270000 ≤ m ∧ m ≤ 278999
  · by_cases hn : -270000 ≤ n ∧ n ≤ 278999
    · exact .inl ⟨fn_fg m hm.1 hm.2, fn_fg n hn.1 hn.2, spN_ok m n ⟨hm, hn⟩⟩
    · exact .inr (.inr ⟨fn_fg m hm.1 hm.2, fn_no n (by omega), spN_no m n (fun h => hn h.2)⟩)
  · exact .inr (.inl ⟨fn_no m (by omega), spN_no m n (fun h => hm h.1)⟩)
theorem spN_prog (m n : Int) : (nfR m = ((1000 + m % 9000, m / 9000), 0) ∧ nfR n = ((1000 + n % 9000, n / 9000), 0) ∧ spN m n = ⟨1000 + m % 9000, m / 9000, 1000 + n % 9000, n / 9000, 0⟩) ∨
    (nfR m = ((0, 0), 4) ∧ spN m n = ⟨0, 0, 0, 0, 4⟩) ∨ (nfR m = ((1000 + m % 9000, m / 9000), 0) ∧ nfR n = ((0, 0), 4) ∧ spN m n = ⟨0, 0, 0, 0, 4⟩) := by
  by_cases hm : -270000 ≤ m ∧ m ≤ 278999
  · by_cases hn : -270000 ≤ n ∧ n ≤ 278999
    · exact .inl ⟨nfR_ok m hm, nfR_ok n hn, spN_ok m n ⟨hm, hn⟩⟩
    · exact .inr (.inr ⟨nfR_ok m hm, nfR_no n hn, spN_no m n (fun h => hn h.2)⟩)
  · exact .inr (.inl ⟨nfR_no m hm, spN_no m n (fun h => hm h.1)⟩)

/-- A world that has grown from one with three new blocks of two cells. -/
theorem at3 {w w1 : World} {x0 x1 y0 y1 z0 z1 : Value} {t u v : TypeId} (hg : Gr (((w.alloc (.cells #[x0, x1] t)).alloc (.cells #[y0, y1] u)).alloc (.cells #[z0, z1] v)) w1) :
    Below w.heap.size w w1 ∧ Blk w1 w.heap.size t #[x0, x1] ∧ Blk w1 (w.heap.size + 1) u #[y0, y1] ∧ Blk w1 (w.heap.size + 2) v #[z0, z1] := by
  have a := ((Blk.new w t #[x0, x1]).alloc (.cells #[y0, y1] u)).alloc (.cells #[z0, z1] v)
  have b := (Blk.new (w.alloc (.cells #[x0, x1] t)) u #[y0, y1]).alloc (.cells #[z0, z1] v)
  have c := Blk.new ((w.alloc (.cells #[x0, x1] t)).alloc (.cells #[y0, y1] u)) v #[z0, z1]
  rw [World.size_alloc] at b c
  rw [World.size_alloc] at c
  exact ⟨((((Below.refl _ w).alloc (Nat.le_refl _) _).alloc (by simp) _).alloc (by simp; omega) _).trans (hg.below.mono (by simp; omega)), a.gr hg, b.gr hg, c.gr hg⟩

set_option maxHeartbeats 1000000 in
theorem spR_impl1 (l h : Int) (w : World) (e1 : iv l h = true) (h0 : (un l && un h) = false) (h1 : un l = false) :
    Calls Try.prog 56 #[.agg #[.int .i64 l, .int .i64 h]] w fun e w' => e = .returned (.tuple #[.agg #[.int .i64 (spR l h).a, .int .i64 (spR l h).s], .agg #[.int .i64 (spR l h).b, .int .i64 (spR l h).t], .int .i64 (spR l h).c]) ∧ Gr w w' := by
  have H := Lib.hid (spR_ok l h e1)
  have E := Lib.hid e1
  clear e1
  have U := Lib.hid (spU_no l h h0)
  have E1 := Lib.hid h1
  clear h0 h1
  go_enter Try.func56, Try.ntmps56
  go_wp2_with (first
    | (go_at_call 61; refine (isInterval_impl _ _ _).mono ?_; rw [E.out]; rintro e w' ⟨rfl, k, os, rfl⟩)
    | (go_at_call 80; refine (areUnits_any _ _).mono ?_; rw [E1.out]; rintro e w' ⟨rfl, rfl⟩))
  ((try simp only [Exit.inBlock, Exit.then]); refine bodyPost_ret (v := .tuple #[.agg #[.int .i64 0, .int .i64 0], .agg #[.int .i64 0, .int .i64 0], .int .i64 2]) (by simp [results, Try.results56, go_sem]) rfl ?_)
  exact ⟨ret_sp (by rw [H.out, U.out]), (by repeat (first | with_reducible exact Gr.refl _ | with_reducible refine Gr.alloc ?_ _ | with_reducible refine Gr.gr ?_ _ _ | with_reducible refine Gr.drew ?_ | with_reducible refine Gr.drewN ?_ _))⟩

set_option maxHeartbeats 1000000 in
theorem spR_impl2 (l h : Int) (w : World) (e1 : iv l h = true) (h0 : (un l && un h) = false) (h1 : un l = true) (h2 : un h = false) :
    Calls Try.prog 56 #[.agg #[.int .i64 l, .int .i64 h]] w fun e w' => e = .returned (.tuple #[.agg #[.int .i64 (spR l h).a, .int .i64 (spR l h).s], .agg #[.int .i64 (spR l h).b, .int .i64 (spR l h).t], .int .i64 (spR l h).c]) ∧ Gr w w' := by
  have H := Lib.hid (spR_ok l h e1)
  have E := Lib.hid e1
  clear e1
  have U := Lib.hid (spU_no l h h0)
  have E1 := Lib.hid h1
  have E2 := Lib.hid h2
  clear h0 h1 h2
  go_enter Try.func56, Try.ntmps56
  go_wp2_with (first
    | (go_at_call 61; refine (isInterval_impl _ _ _).mono ?_; rw [E.out]; rintro e w' ⟨rfl, k, os, rfl⟩)
    | (go_at_call 80; refine (areUnits_any _ _).mono ?_; (first | rw [E1.out] | rw [E2.out]); rintro e w' ⟨rfl, rfl⟩))
  ((try simp only [Exit.inBlock, Exit.then]); refine bodyPost_ret (v := .tuple #[.agg #[.int .i64 0, .int .i64 0], .agg #[.int .i64 0, .int .i64 0], .int .i64 2]) (by simp [results, Try.results56, go_sem]) rfl ?_)
  exact ⟨ret_sp (by rw [H.out, U.out]), (by repeat (first | with_reducible exact Gr.refl _ | with_reducible refine Gr.alloc ?_ _ | with_reducible refine Gr.gr ?_ _ _ | with_reducible refine Gr.drew ?_ | with_reducible refine Gr.drewN ?_ _))⟩

set_option maxHeartbeats 2000000 in
theorem spR_impla (l h m n : Int) (w : World) (e1 : iv l h = true) (h1 : un l = true) (h2 : un h = true) (hm : ff true l - 1 = m) (hn : ff false h = n) (p1 : nfR m = ((1000 + m % 9000, m / 9000), 0)) (p2 : nfR n = ((1000 + n % 9000, n / 9000), 0)) (p3 : spN m n = ⟨1000 + m % 9000, m / 9000, 1000 + n % 9000, n / 9000, 0⟩) :
    Calls Try.prog 56 #[.agg #[.int .i64 l, .int .i64 h]] w fun e w' => e = .returned (.tuple #[.agg #[.int .i64 (spR l h).a, .int .i64 (spR l h).s], .agg #[.int .i64 (spR l h).b, .int .i64 (spR l h).t], .int .i64 (spR l h).c]) ∧ Gr w w' := by
  have H := Lib.hid (spR_ok l h e1)
  have E := Lib.hid e1
  clear e1
  have U := Lib.hid (spU_ok l h h1 h2)
  have E1 := Lib.hid h1
  have E2 := Lib.hid h2
  have B := Lib.hid (fun W => fbR_impl l W)
  have A := Lib.hid (fun W => faR_impl h W)
  rw [fbR_ok l h1] at B
  rw [faR_ok h h2] at A
  clear h1 h2
  rw [hm] at B U
  rw [hn] at A U
  clear hm hn
  rw [p1] at B
  rw [p2] at A
  have Q := Lib.hid p3
  simp only at A B
  clear p1 p2 p3
  generalize 1000 + m % 9000 = d1 at *
  generalize m / 9000 = t1 at *
  generalize 1000 + n % 9000 = d2 at *
  generalize n / 9000 = t2 at *
  go_enter Try.func56, Try.ntmps56
  go_wp2_with fail
  refine (isInterval_impl _ _ _).mono ?_
  rw [E.out]
  rintro e w0 ⟨rfl, hg0⟩
  obtain ⟨hB0, I0, P0, Q0⟩ := at3 hg0
  obtain ⟨i0, i1, -⟩ := I0.two
  have l0 := Q0.lt
  clear hg0
  go_wp2_with (go_at_call 80; refine (areUnits_any _ _).mono ?_; (first | rw [E1.out] | rw [E2.out]); rintro e w' ⟨rfl, rfl⟩)
  refine (B.out _).mono ?_
  rintro e w1 ⟨rfl, hg1⟩
  obtain ⟨i0, i1, -⟩ := (I0.gr hg1).two
  have P1 := (P0.gr hg1).alloc (.cells #[.int .i64 d1, .int .i64 t1] 38)
  have Q1 := (Q0.gr hg1).alloc (.cells #[.int .i64 d1, .int .i64 t1] 38)
  have F1 := Blk.new w1 38 #[.int .i64 d1, .int .i64 t1]
  have l1 := (Q0.gr hg1).lt
  have l1' := (I0.gr hg1).lt
  have hB1 := (hB0.trans (hg1.below.mono (by omega))).alloc (by omega) (.cells #[.int .i64 d1, .int .i64 t1] 38)
  clear I0 P0 Q0 hg1 hB0 l0
  go_wp2_with fail
  refine (A.out _).mono ?_
  rintro e w2 ⟨rfl, hg2⟩
  have P2 := (P1.gr hg2).alloc (.cells #[.int .i64 d2, .int .i64 t2] 38)
  have Q2 := (Q1.gr hg2).alloc (.cells #[.int .i64 d2, .int .i64 t2] 38)
  have F2 := (F1.gr hg2).alloc (.cells #[.int .i64 d2, .int .i64 t2] 38)
  have G2 := Blk.new w2 38 #[.int .i64 d2, .int .i64 t2]
  have l2 := (F1.gr hg2).lt
  have hB2 := (hB1.trans (hg2.below.mono (by simp; omega))).alloc (by omega) (.cells #[.int .i64 d2, .int .i64 t2] 38)
  clear P1 Q1 F1 hg2 hB1 i0 i1
  go_wp2_with fail
  generalize w2.alloc (.cells #[.int .i64 d2, .int .i64 t2] 38) = w3 at *
  have n1 : w.heap.size + 1 ≠ w1.heap.size := by omega
  have n2 : w.heap.size + 2 ≠ w1.heap.size := by omega
  have n3 : w.heap.size + 1 ≠ w2.heap.size := by omega
  have n4 : w.heap.size + 2 ≠ w2.heap.size := by omega
  obtain ⟨p0, p1, pf⟩ := P2.two
  obtain ⟨q0, q1, qf⟩ := Q2.two
  obtain ⟨f0, f1, -⟩ := F2.two
  obtain ⟨g0, g1, -⟩ := G2.two
  clear P2 Q2 F2 G2
  go_region
  all_goals
    go_wp2
    ((try simp only [Exit.inBlock, Exit.then]); refine bodyPost_ret (v := .tuple #[.agg #[.int .i64 d1, .int .i64 t1], .agg #[.int .i64 d2, .int .i64 t2], .int .i64 0]) (by simp [results, Try.results56, go_sem, p0, p1, q0, q1, World.cell?_setCell_same']) rfl ?_)
    exact ⟨ret_sp (by rw [H.out, U.out, Q.out]), Gr.of_below ((((hB2.setCell (p := ⟨w.heap.size + 1, 0, none⟩) (by simp) _).setCell (p := ⟨w.heap.size + 1, 1, none⟩) (by simp) _).setCell (p := ⟨w.heap.size + 2, 0, none⟩) (by simp) _).setCell (p := ⟨w.heap.size + 2, 1, none⟩) (by simp) _).drew⟩

set_option maxHeartbeats 2000000 in
theorem spR_implb (l h m n : Int) (w : World) (e1 : iv l h = true) (h1 : un l = true) (h2 : un h = true) (hm : ff true l - 1 = m) (hn : ff false h = n) (p1 : nfR m = ((0, 0), 4)) (p3 : spN m n = ⟨0, 0, 0, 0, 4⟩) :
    Calls Try.prog 56 #[.agg #[.int .i64 l, .int .i64 h]] w fun e w' => e = .returned (.tuple #[.agg #[.int .i64 (spR l h).a, .int .i64 (spR l h).s], .agg #[.int .i64 (spR l h).b, .int .i64 (spR l h).t], .int .i64 (spR l h).c]) ∧ Gr w w' := by
  have H := Lib.hid (spR_ok l h e1)
  have E := Lib.hid e1
  clear e1
  have U := Lib.hid (spU_ok l h h1 h2)
  have E1 := Lib.hid h1
  have E2 := Lib.hid h2
  have B := Lib.hid (fun W => fbR_impl l W)
  have A := Lib.hid (fun W => faR_impl h W)
  rw [fbR_ok l h1] at B
  rw [faR_ok h h2] at A
  clear h1 h2
  rw [hm] at B U
  rw [hn] at A U
  clear hm hn
  rw [p1] at B
  have Q := Lib.hid p3
  simp only at B
  clear p1 p3
  go_enter Try.func56, Try.ntmps56
  go_wp2_with (first
    | (go_at_call 61; refine (isInterval_impl _ _ _).mono ?_; rw [E.out]; rintro e w' ⟨rfl, k, os, rfl⟩)
    | (go_at_call 80; refine (areUnits_any _ _).mono ?_; (first | rw [E1.out] | rw [E2.out]); rintro e w' ⟨rfl, rfl⟩)
    | (go_at_call 81; refine (B.out _).mono ?_; rintro e w' ⟨rfl, k, os, rfl⟩)
    | (go_at_call 82; refine (A.out _).mono ?_; rintro e w' ⟨rfl, k, os, rfl⟩))
  ((try simp only [Exit.inBlock, Exit.then]); refine bodyPost_ret (v := .tuple #[.agg #[.int .i64 0, .int .i64 0], .agg #[.int .i64 0, .int .i64 0], .int .i64 4]) (by simp [results, Try.results56, go_sem]) rfl ?_)
  exact ⟨ret_sp (by rw [H.out, U.out, Q.out]), (by repeat (first | with_reducible exact Gr.refl _ | with_reducible refine Gr.alloc ?_ _ | with_reducible refine Gr.gr ?_ _ _ | with_reducible refine Gr.drew ?_ | with_reducible refine Gr.drewN ?_ _))⟩

set_option maxHeartbeats 2000000 in
theorem spR_implc (l h m n : Int) (w : World) (e1 : iv l h = true) (h1 : un l = true) (h2 : un h = true) (hm : ff true l - 1 = m) (hn : ff false h = n) (p1 : nfR m = ((1000 + m % 9000, m / 9000), 0)) (p2 : nfR n = ((0, 0), 4)) (p3 : spN m n = ⟨0, 0, 0, 0, 4⟩) :
    Calls Try.prog 56 #[.agg #[.int .i64 l, .int .i64 h]] w fun e w' => e = .returned (.tuple #[.agg #[.int .i64 (spR l h).a, .int .i64 (spR l h).s], .agg #[.int .i64 (spR l h).b, .int .i64 (spR l h).t], .int .i64 (spR l h).c]) ∧ Gr w w' := by
  have H := Lib.hid (spR_ok l h e1)
  have E := Lib.hid e1
  clear e1
  have U := Lib.hid (spU_ok l h h1 h2)
  have E1 := Lib.hid h1
  have E2 := Lib.hid h2
  have B := Lib.hid (fun W => fbR_impl l W)
  have A := Lib.hid (fun W => faR_impl h W)
  rw [fbR_ok l h1] at B
  rw [faR_ok h h2] at A
  clear h1 h2
  rw [hm] at B U
  rw [hn] at A U
  clear hm hn
  rw [p1] at B
  rw [p2] at A
  have Q := Lib.hid p3
  simp only at A B
  clear p1 p2 p3
  generalize 1000 + m % 9000 = d1 at *
  generalize m / 9000 = t1 at *
  go_enter Try.func56, Try.ntmps56
  go_wp2_with (first
    | (go_at_call 61; refine (isInterval_impl _ _ _).mono ?_; rw [E.out]; rintro e w' ⟨rfl, k, os, rfl⟩)
    | (go_at_call 80; refine (areUnits_any _ _).mono ?_; (first | rw [E1.out] | rw [E2.out]); rintro e w' ⟨rfl, rfl⟩)
    | (go_at_call 81; refine (B.out _).mono ?_; rintro e w' ⟨rfl, k, os, rfl⟩)
    | (go_at_call 82; refine (A.out _).mono ?_; rintro e w' ⟨rfl, k, os, rfl⟩))
  ((try simp only [Exit.inBlock, Exit.then]); refine bodyPost_ret (v := .tuple #[.agg #[.int .i64 0, .int .i64 0], .agg #[.int .i64 0, .int .i64 0], .int .i64 4]) (by simp [results, Try.results56, go_sem]) rfl ?_)
  exact ⟨ret_sp (by rw [H.out, U.out, Q.out]), (by repeat (first | with_reducible exact Gr.refl _ | with_reducible refine Gr.alloc ?_ _ | with_reducible refine Gr.gr ?_ _ _ | with_reducible refine Gr.drew ?_ | with_reducible refine Gr.drewN ?_ _))⟩

theorem spR_impl0 (l h : Int) (w : World) (e1 : iv l h = false) :
    Calls Try.prog 56 #[.agg #[.int .i64 l, .int .i64 h]] w fun e w' => e = .returned (.tuple #[.agg #[.int .i64 (spR l h).a, .int .i64 (spR l h).s], .agg #[.int .i64 (spR l h).b, .int .i64 (spR l h).t], .int .i64 (spR l h).c]) ∧ Gr w w' := by
  have H := Lib.hid (spR_no l h e1)
  have E := Lib.hid e1
  clear e1
  go_enter Try.func56, Try.ntmps56
  go_wp2_with (go_at_call 61; refine (isInterval_impl _ _ _).mono ?_; rw [E.out]; rintro e w' ⟨rfl, k, os, rfl⟩)
  ((try simp only [Exit.inBlock, Exit.then]); refine bodyPost_ret (v := .tuple #[.agg #[.int .i64 0, .int .i64 0], .agg #[.int .i64 0, .int .i64 0], .int .i64 1]) (by simp [results, Try.results56, go_sem]) rfl ?_)
  exact ⟨ret_sp (by rw [H.out]), (by repeat (first | with_reducible exact Gr.refl _ | with_reducible refine Gr.alloc ?_ _ | with_reducible refine Gr.gr ?_ _ _ | with_reducible refine Gr.drew ?_ | with_reducible refine Gr.drewN ?_ _))⟩

theorem spR_impl (l h : Int) (w : World) :
    Calls Try.prog 56 #[.agg #[.int .i64 l, .int .i64 h]] w fun e w' => e = .returned (.tuple #[.agg #[.int .i64 (spR l h).a, .int .i64 (spR l h).s], .agg #[.int .i64 (spR l h).b, .int .i64 (spR l h).t], .int .i64 (spR l h).c]) ∧ Gr w w' := by
  have e1 : iv l h = true ∨ iv l h = false := by cases iv l h <;> simp
  rcases e1 with e1 | e1
  · rcases un_cases l h with ⟨h0, h1⟩ | ⟨h0, h1, h2⟩ | ⟨h1, h2⟩
    · exact spR_impl1 l h w e1 h0 h1
    · exact spR_impl2 l h w e1 h0 h1 h2
    · rcases spN_prog (ff true l - 1) (ff false h) with ⟨p1, p2, p3⟩ | ⟨p1, p3⟩ | ⟨p1, p2, p3⟩
      · exact spR_impla l h _ _ w e1 h1 h2 rfl rfl p1 p2 p3
      · exact spR_implb l h _ _ w e1 h1 h2 rfl rfl p1 p3
      · exact spR_implc l h _ _ w e1 h1 h2 rfl rfl p1 p2 p3
  · exact spR_impl0 l h w e1
end Go.Proofs.Ytphebmbapllinaa
