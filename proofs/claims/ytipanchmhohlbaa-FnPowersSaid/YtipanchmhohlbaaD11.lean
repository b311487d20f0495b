/- Draws of chapter 4: numbers of units, intervals, pairs of figures, powers. -/
import Derived.Test.YtipanchmhohlbaaD6
import Derived.Test.YtipanchmhohlbaaC04a
import Derived.Test.YtipanchmhohlbaaC02d
namespace Go.Proofs.Ytipanchmhohlbaa
open Go.RowKit
set_option linter.unusedVariables false
set_option linter.unusedSimpArgs false

/-- A drawn number of units. -/
def UniN (x : Int) : Prop := -40000000 ≤ x ∧ x ≤ 40000000

set_option maxHeartbeats 1000000 in
theorem drawUnits_any (A : Option Addr) (n c b : Nat) (w : World) (hS : Src A n c b w) :
    Calls Try.prog 46 #[.pointer (some ⟨b, 0, none⟩)] w (Got UniN A n c b w) := by
  have hlt := hS.lt
  go_enter Try.func46, Try.ntmps46
  go_wp2_with fail
  refine (next_any A n c b _ _ hS).mono ?_
  rintro e w1 ⟨x, rfl, x0, x1, -, hS1, hd1⟩
  by_cases hx : x = 0
  · subst hx
    clear x0 x1
    go_wp2_with fail
    refine (pick_any UniN A n c b _ 4 4 _ (hS1.alloc _) (by have := hS1.lt; omega) (by omega) (by omega) (allP_alloc UniN w1 _ _ _ [31457280, -31457280, 31457281, -31457281] rfl rfl (by simp [UniN]))).mono ?_
    rintro e w2 ⟨x2, rfl, hx2, hS2, hd2⟩
    go_wp2_with fail
    go_ret
    exact ⟨x2, rfl, hx2, hS2, (hd1.alloc _).trans hd2⟩
  · have hb : (x == 0) = false := by simp [hx]
    clear x0 x1 hx
    go_wp2_with fail
    refine (next_any A n c b _ _ hS1).mono ?_
    rintro e w2 ⟨x2, rfl, a2, b2, -, hS2, hd2⟩
    have b2 := b2 (by omega)
    go_wp2_with fail
    refine (valid_any A n c b _ hS2).mono ?_
    rintro e w3 ⟨d, t, rfl, ⟨⟨d1, d2⟩, t1, t2⟩, hS3, hd3⟩
    have hf : fg d t = true := (fg_iff d t).2 ⟨⟨d1, d2⟩, by omega, by omega⟩
    have fb := flg_bd d t hf
    go_wp2_with fail
    refine (figure_spec3 d t _ hf).mono ?_
    rintro e w4 ⟨rfl, hg⟩
    have hS4 := hS3.below hg.below
    have hd4 : Dr b w3 w4 := Dr.of_below hg.below
    have fb1 : -31457280 ≤ (flg d t).1 ∧ (flg d t).1 ≤ 32505855 := by omega
    generalize (flg d t).1 = y at *
    clear hg hf fb d1 d2 t1 t2 hS3
    generalize (flg d t).2 = y' at *
    go_wp2_with fail
    refine (valid_any A n c b _ hS4).mono ?_
    rintro e w5 ⟨d, t, rfl, ⟨⟨d1, d2⟩, t1, t2⟩, hS5, hd5⟩
    have hf : fg d t = true := (fg_iff d t).2 ⟨⟨d1, d2⟩, by omega, by omega⟩
    have fb := flg_bd d t hf
    go_wp2_with fail
    refine (figure_spec3 d t _ hf).mono ?_
    rintro e w6 ⟨rfl, hg⟩
    have hS6 := hS5.below hg.below
    have hd6 : Dr b w5 w6 := Dr.of_below hg.below
    have fb2 : -31457279 ≤ (flg d t).2 ∧ (flg d t).2 ≤ 32505856 := by omega
    generalize (flg d t).2 = z at *
    clear hg hf fb d1 d2 t1 t2 hS5
    generalize (flg d t).1 = z' at *
    go_wp2_with fail
    refine (next_any A n c b _ _ hS6).mono ?_
    rintro e w7 ⟨x7, rfl, a7, b7, -, hS7, hd7⟩
    have b7 := b7 (by omega)
    have hT := hd1.trans (hd2.trans (hd3.trans (hd4.trans (hd5.trans (hd6.trans hd7)))))
    clear hd1 hd2 hd3 hd4 hd5 hd6 hd7 hS1 hS2 hS4 hS6
    go_wp2_with fail
    refine (pick_any UniN A n c b _ 4 4 _ (hS7.alloc _) (by have := hS7.lt; omega) (by omega) (by omega) (allP_alloc UniN w7 _ _ _ [x2 - 3145728, y, z, 1048576 * (x7 - 3)] rfl rfl (by simp [UniN]; omega))).mono ?_
    rintro e w8 ⟨x8, rfl, hx8, hS8, hd8⟩
    go_wp2_with fail
    go_ret
    exact ⟨x8, rfl, hx8, hS8, (hT.alloc _).trans hd8⟩

theorem drawFigureBelow_any (A : Option Addr) (n c : Nat) (w : World) (hn : n ≤ 4611686018427387904) (hB : Bytes w w.heap.size A n) :
    Calls Try.prog 15 #[.slice A n c] w (One UniN w) := by
  go_enter Try.func15, Try.ntmps15
  go_wp2_with fail
  refine (from_any A n c w hn hB).mono ?_
  rintro e w1 ⟨b, rfl, hb, hS1, hl1⟩
  go_wp2_with fail
  refine (drawUnits_any A n c b _ hS1).mono ?_
  rintro e w2 ⟨u, rfl, hu, -, hd2⟩
  go_wp2_with fail
  go_ret
  exact ⟨u, rfl, hu, hl1.trans (hd2.below hb hl1.size)⟩

theorem drawProductSpan_any (A : Option Addr) (n c : Nat) (w : World) (hn : n ≤ 4611686018427387904) (hB : Bytes w w.heap.size A n) :
    Calls Try.prog 23 #[.slice A n c] w (TwoF FigN w) := by
  go_enter Try.func23, Try.ntmps23
  go_wp2_with fail
  have hW0 : Below w.heap.size w ((w.alloc (.cells #[.int .i64 0, .int .i64 0] 26)).alloc (.cells #[.int .i64 0, .int .i64 0] 26)) := ((Below.refl _ w).alloc (Nat.le_refl _) _).alloc (by simp) _
  refine (drawTwo_any A n c _ hn (hB.later hW0)).mono ?_
  rintro e w1 ⟨a, s, b, t, rfl, h1, h2, hb⟩
  obtain ⟨k, os, rfl⟩ := Gr.of_below hb
  clear hb hW0
  go_wp2_with fail
  ((try simp only [Exit.inBlock, Exit.then]); refine bodyPost_ret (v := .tuple #[.agg #[.int .i64 a, .int .i64 s], .agg #[.int .i64 b, .int .i64 t]]) (by simp [results, Try.results23, go_sem]) rfl ?_)
  exact ⟨a, s, b, t, rfl, h1, h2, Gr.below (by repeat (first | with_reducible exact Gr.refl _ | with_reducible refine Gr.alloc ?_ _ | with_reducible refine Gr.gr ?_ _ _ | with_reducible refine Gr.drew ?_ | with_reducible refine Gr.drewN ?_ _))⟩

theorem drawQuotientSpan_any (A : Option Addr) (n c : Nat) (w : World) (hn : n ≤ 4611686018427387904) (hB : Bytes w w.heap.size A n) :
    Calls Try.prog 26 #[.slice A n c] w (TwoF FigN w) := by
  go_enter Try.func26, Try.ntmps26
  go_wp2_with fail
  have hW0 : Below w.heap.size w ((w.alloc (.cells #[.int .i64 0, .int .i64 0] 26)).alloc (.cells #[.int .i64 0, .int .i64 0] 26)) := ((Below.refl _ w).alloc (Nat.le_refl _) _).alloc (by simp) _
  refine (drawTwo_any A n c _ hn (hB.later hW0)).mono ?_
  rintro e w1 ⟨a, s, b, t, rfl, h1, h2, hb⟩
  obtain ⟨k, os, rfl⟩ := Gr.of_below hb
  clear hb hW0
  go_wp2_with fail
  ((try simp only [Exit.inBlock, Exit.then]); refine bodyPost_ret (v := .tuple #[.agg #[.int .i64 a, .int .i64 s], .agg #[.int .i64 b, .int .i64 t]]) (by simp [results, Try.results26, go_sem]) rfl ?_)
  exact ⟨a, s, b, t, rfl, h1, h2, Gr.below (by repeat (first | with_reducible exact Gr.refl _ | with_reducible refine Gr.alloc ?_ _ | with_reducible refine Gr.gr ?_ _ _ | with_reducible refine Gr.drew ?_ | with_reducible refine Gr.drewN ?_ _))⟩

theorem drawSpanError_any (A : Option Addr) (n c : Nat) (w : World) (hn : n ≤ 4611686018427387904) (hB : Bytes w w.heap.size A n) :
    Calls Try.prog 37 #[.slice A n c] w (TwoF FigN w) := by
  go_enter Try.func37, Try.ntmps37
  go_wp2_with fail
  have hW0 : Below w.heap.size w ((w.alloc (.cells #[.int .i64 0, .int .i64 0] 26)).alloc (.cells #[.int .i64 0, .int .i64 0] 26)) := ((Below.refl _ w).alloc (Nat.le_refl _) _).alloc (by simp) _
  refine (drawTwo_any A n c _ hn (hB.later hW0)).mono ?_
  rintro e w1 ⟨a, s, b, t, rfl, h1, h2, hb⟩
  obtain ⟨k, os, rfl⟩ := Gr.of_below hb
  clear hb hW0
  go_wp2_with fail
  ((try simp only [Exit.inBlock, Exit.then]); refine bodyPost_ret (v := .tuple #[.agg #[.int .i64 a, .int .i64 s], .agg #[.int .i64 b, .int .i64 t]]) (by simp [results, Try.results37, go_sem]) rfl ?_)
  exact ⟨a, s, b, t, rfl, h1, h2, Gr.below (by repeat (first | with_reducible exact Gr.refl _ | with_reducible refine Gr.alloc ?_ _ | with_reducible refine Gr.gr ?_ _ _ | with_reducible refine Gr.drew ?_ | with_reducible refine Gr.drewN ?_ _))⟩

/-- The bounds of a drawn interval of units. -/
def SpaN (l h : Int) : Prop := (-50000000 ≤ l ∧ l ≤ 50000000) ∧ (-50000000 ≤ h ∧ h ≤ 50000000)

set_option maxHeartbeats 1000000 in
theorem drawSpanOf_any (A : Option Addr) (n c : Nat) (w : World) (hn : n ≤ 4611686018427387904) (hB : Bytes w w.heap.size A n) :
    Calls Try.prog 29 #[.slice A n c] w (OneF SpaN w) := by
  go_enter Try.func29, Try.ntmps29
  go_wp2_with fail
  have P0 := Blk.new w 30 #[.int .i64 0, .int .i64 0]
  have hW0 : Below w.heap.size w (w.alloc (.cells #[.int .i64 0, .int .i64 0] 30)) := (Below.refl _ w).alloc (Nat.le_refl _) _
  refine (from_any A n c _ hn (hB.later hW0)).mono ?_
  rintro e w1 ⟨b, rfl, hb, hS1, hl1⟩
  rw [World.size_alloc] at hb
  have P1 : Blk w1 w.heap.size 30 #[.int .i64 0, .int .i64 0] := (hl1.block _ P0.lt).trans P0
  have hW1 := hW0.trans (hl1.mono (by simp))
  clear P0 hl1 hW0
  go_wp2_with fail
  refine (drawUnits_any A n c b _ hS1).mono ?_
  rintro e w2 ⟨l, rfl, ⟨l1, l2⟩, hS2, hd2⟩
  have P2 := P1.dr hd2 (by omega)
  go_wp2_with fail
  refine (next_any A n c b _ _ hS2).mono ?_
  rintro e w3 ⟨x3, rfl, a3, b3, -, hS3, hd3⟩
  have b3 := b3 (by omega)
  have P3 := P2.dr hd3 (by omega)
  go_wp2_with fail
  refine (next_any A n c b _ _ hS3).mono ?_
  rintro e w4 ⟨x4, rfl, a4, b4, -, hS4, hd4⟩
  have b4 := b4 (by omega)
  have P4 := (P3.dr hd4 (by omega)).alloc (.cells #[.int .i64 0, .int .i64 1, .int .i64 x3, .int .i64 x4] 2)
  have hT4 := (hd2.trans (hd3.trans hd4)).alloc (.cells #[.int .i64 0, .int .i64 1, .int .i64 x3, .int .i64 x4] 2)
  clear P1 P2 P3 hd2 hd3 hd4 hS1 hS2 hS3
  go_wp2_with fail
  refine (pick_any (fun x => 0 ≤ x ∧ x ≤ 200000) A n c b _ 4 4 _ (hS4.alloc _) (by have := hS4.lt; omega) (by omega) (by omega) (allP_alloc (fun x => 0 ≤ x ∧ x ≤ 200000) w4 _ _ _ [0, 1, x3, x4] rfl rfl (by simp; omega))).mono ?_
  rintro e w5 ⟨m, rfl, ⟨m1, m2⟩, hS5, hd5⟩
  have P5 := (P4.dr hd5 (by omega)).alloc (.cells #[.int .i64 l, .int .i64 (l + m)] 30)
  have F5 := Blk.new w5 30 #[.int .i64 l, .int .i64 (l + m)]
  have l5 := hS5.lt
  have hT5 := (hT4.trans hd5).alloc (.cells #[.int .i64 l, .int .i64 (l + m)] 30)
  have r5 := (P4.dr hd5 (by omega)).lt
  clear P4 hT4 hd5 hS4 a3 b3 a4 b4
  go_wp2_with fail
  refine (next_any A n c b _ _ (hS5.alloc _)).mono ?_
  rintro e w6 ⟨x, rfl, x0, x1, -, hS6, hd6⟩
  have P6 := P5.dr hd6 (by omega)
  have F6 := F5.dr hd6 (by omega)
  have hT6 := hT5.trans hd6
  have n1 : w.heap.size ≠ w5.heap.size := by omega
  have n2 : w5.heap.size ≠ w.heap.size := by omega
  obtain ⟨p0, p1, pf⟩ := P6.two
  obtain ⟨k0, k1, kf⟩ := F6.two
  have lF := F6.lt
  have lP := P6.lt
  have hW6 := hW1.trans (hT6.below (B := w.heap.size) (by omega) hW1.size)
  clear P5 F5 P6 F6 hd6 hT5 hT6 hW1
  by_cases hx : x = 0
  · subst hx
    clear x0 x1
    go_wp2_with fail
    ((try simp only [Exit.inBlock, Exit.then]); refine bodyPost_ret (v := .agg #[.int .i64 l, .int .i64 (l - 1)]) (by simp [results, Try.results29, go_sem, p0, p1, World.cell?_setCell_same']) rfl ?_)
    exact ⟨l, l - 1, rfl, by unfold SpaN; omega, ((hW6.setCell (p := ⟨w5.heap.size, 1, none⟩) (Nat.le_of_lt r5) _).setCell (p := ⟨w.heap.size, 0, none⟩) (Nat.le_refl _) _).setCell (p := ⟨w.heap.size, 1, none⟩) (Nat.le_refl _) _⟩
  · have hx : (x == 0) = false := by simp [hx]
    clear x0 x1
    go_wp2_with fail
    ((try simp only [Exit.inBlock, Exit.then]); refine bodyPost_ret (v := .agg #[.int .i64 l, .int .i64 (l + m)]) (by simp [results, Try.results29, go_sem, p0, p1, World.cell?_setCell_same']) rfl ?_)
    exact ⟨l, l + m, rfl, by unfold SpaN; omega, (hW6.setCell (p := ⟨w.heap.size, 0, none⟩) (Nat.le_refl _) _).setCell (p := ⟨w.heap.size, 1, none⟩) (Nat.le_refl _) _⟩

/-- A drawn figure and two small numbers. -/
def PowN (w : World) (e : Ending) (w' : World) : Prop :=
  ∃ a s n d : Int, e = .returned (.tuple #[.agg #[.int .i64 a, .int .i64 s], .int .i64 n, .int .i64 d]) ∧ FigN a s ∧ (-13 ≤ n ∧ n ≤ 13) ∧ (0 ≤ d ∧ d ≤ 13) ∧ Below w.heap.size w w'

set_option maxHeartbeats 2000000 in
theorem drawPowerSpan_any (A : Option Addr) (n c : Nat) (w : World) (hn : n ≤ 4611686018427387904) (hB : Bytes w w.heap.size A n) :
    Calls Try.prog 34 #[.slice A n c] w (PowN w) := by
  go_enter Try.func34, Try.ntmps34
  go_wp2_with fail
  have P0 := Blk.new w 26 #[.int .i64 0, .int .i64 0]
  have hW0 : Below w.heap.size w (w.alloc (.cells #[.int .i64 0, .int .i64 0] 26)) := (Below.refl _ w).alloc (Nat.le_refl _) _
  refine (from_any A n c _ hn (hB.later hW0)).mono ?_
  rintro e w1 ⟨b, rfl, hb, hS1, hl1⟩
  rw [World.size_alloc] at hb
  have P1 : Blk w1 w.heap.size 26 #[.int .i64 0, .int .i64 0] := (hl1.block _ P0.lt).trans P0
  have hW1 := hW0.trans (hl1.mono (by simp))
  clear P0 hl1 hW0
  go_wp2_with fail
  refine (figDraw_any A n c b _ hS1).mono ?_
  rintro e w2 ⟨a, s, rfl, hI1, hS2, hd2⟩
  have P2 := (P1.dr hd2 (by omega)).alloc (.cells #[.int .i64 a, .int .i64 s] 26)
  have E2 := Blk.new w2 26 #[.int .i64 a, .int .i64 s]
  have l2 := hS2.lt
  have hT2 := hd2.alloc (.cells #[.int .i64 a, .int .i64 s] 26)
  have n1 : w.heap.size ≠ w2.heap.size := by omega
  have n3 : w2.heap.size ≠ w.heap.size := by omega
  clear P1 hd2
  obtain ⟨k0, k1, kf⟩ := E2.two
  go_wp2_with fail
  go_region_held3 (fun w' => w'.cell? ⟨w2.heap.size, 0, none⟩ = some (.int .i64 a) ∧ w'.cell? ⟨w2.heap.size, 1, none⟩ = some (.int .i64 s)) (first | exact ⟨k0, k1⟩ | exact ⟨u0, u1⟩ | exact ⟨v0, v1⟩ | exact ⟨h0, h1⟩ | exact ⟨g0, g1⟩ | (go_simp; done)) (first
    | (go_at_call 71; refine (pick_any (fun x => 0 ≤ x ∧ x ≤ 13) A n c b _ 8 8 _ (hS5.alloc _) (by have := hS5.lt; omega) (by omega) (by omega) (allP_alloc (fun x => 0 ≤ x ∧ x ≤ 13) w5 _ _ _ [1, 2, 3, 1 + y, 0, 13, 1, 1] rfl rfl (by simp; omega))).mono ?_; rintro e w6 ⟨d, rfl, ⟨d1, d2⟩, hS6, hd6⟩; have E6 := (E5.alloc _).dr hd6 (by omega); have P6 := (P5.alloc _).dr hd6 (by omega); obtain ⟨u0, u1, -⟩ := E6.two; obtain ⟨p0, p1, pf⟩ := P6.two)
    | (go_at_call 72; refine (next_any A n c b _ _ hS4).mono ?_; rintro e w5 ⟨y, rfl, y0, y1, -, hS5, hd5⟩; have y1 := y1 (by omega); have E5 := E4.dr hd5 (by omega); have P5 := P4.dr hd5 (by omega); have l5 := E5.lt; obtain ⟨v0, v1, -⟩ := E5.two; have q2 : IntKind.i64.wrap (1 + y) = 1 + y := IntWalk.i64_in _ (by omega))
    | (go_at_call 71; refine (pick_any (fun x => -13 ≤ x ∧ x ≤ 13) A n c b _ 5 5 _ (hS3.alloc _) (by have := hS3.lt; omega) (by omega) (by omega) (allP_alloc (fun x => -13 ≤ x ∧ x ≤ 13) w3 _ _ _ [1, 2, 3, -1, x - 13] rfl rfl (by simp; omega))).mono ?_; rintro e w4 ⟨m, rfl, ⟨m1, m2⟩, hS4, hd4⟩; have E4 := (E3.alloc _).dr hd4 (by omega); have P4 := (P3.alloc _).dr hd4 (by omega); obtain ⟨g0, g1, -⟩ := E4.two)
    | (go_at_call 72; refine (next_any A n c b _ _ (hS2.alloc _).drew).mono ?_; rintro e w3 ⟨x, rfl, x0, x1, -, hS3, hd3⟩; have x1 := x1 (by omega); have E3 := Blk.dr (w := (w2.alloc (.cells #[.int .i64 a, .int .i64 s] 26)).drew) E2 hd3 (by omega); have P3 := Blk.dr (w := (w2.alloc (.cells #[.int .i64 a, .int .i64 s] 26)).drew) P2 hd3 (by omega); have l3 := E3.lt; have q1 : IntKind.i64.wrap (x - 13) = x - 13 := IntWalk.i64_in _ (by omega); obtain ⟨h0, h1, -⟩ := E3.two))
  all_goals
    have hW6 := hW1.trans (((((((hT2.drew.trans hd3).alloc _).trans hd4).trans hd5).alloc _).trans hd6).below (B := w.heap.size) (by omega) hW1.size)
    go_wp2
    ((try simp only [Exit.inBlock, Exit.then]); refine bodyPost_ret (v := .tuple #[.agg #[.int .i64 a, .int .i64 s], .int .i64 m, .int .i64 d]) (by simp [results, Try.results34, go_sem, p0, p1, World.cell?_setCell_same']) rfl ?_)
    exact ⟨a, s, m, d, rfl, hI1, by omega, by omega, (hW6.setCell (p := ⟨w.heap.size, 0, none⟩) (Nat.le_refl _) _).setCell (p := ⟨w.heap.size, 1, none⟩) (Nat.le_refl _) _⟩

set_option maxHeartbeats 2000000 in
theorem drawMiddle_any (A : Option Addr) (n c : Nat) (w : World) (hn : n ≤ 4611686018427387904) (hB : Bytes w w.heap.size A n) :
    Calls Try.prog 40 #[.slice A n c] w (TwoF FigN w) := by
  go_enter Try.func40, Try.ntmps40
  go_wp2_with fail
  have P0 := (Blk.new w 26 #[.int .i64 0, .int .i64 0]).alloc (.cells #[.int .i64 0, .int .i64 0] 26)
  have Q0 := Blk.new (w.alloc (.cells #[.int .i64 0, .int .i64 0] 26)) 26 #[.int .i64 0, .int .i64 0]
  rw [World.size_alloc] at Q0
  have hW0 : Below w.heap.size w ((w.alloc (.cells #[.int .i64 0, .int .i64 0] 26)).alloc (.cells #[.int .i64 0, .int .i64 0] 26)) := ((Below.refl _ w).alloc (Nat.le_refl _) _).alloc (by simp) _
  refine (from_any A n c _ hn (hB.later hW0)).mono ?_
  rintro e w1 ⟨b, rfl, hb, hS1, hl1⟩
  rw [World.size_alloc, World.size_alloc] at hb
  have P1 : Blk w1 w.heap.size 26 #[.int .i64 0, .int .i64 0] := (hl1.block _ P0.lt).trans P0
  have Q1 : Blk w1 (w.heap.size + 1) 26 #[.int .i64 0, .int .i64 0] := (hl1.block _ Q0.lt).trans Q0
  have hW1 := hW0.trans (hl1.mono (by simp; omega))
  clear P0 Q0 hl1 hW0
  go_wp2_with fail
  refine (drawTwo_any A n c w1 hn (hB.later hW1)).mono ?_
  rintro e w2 ⟨a, s, d, t, rfl, fa, fd, hl2⟩
  have hg2 := Gr.of_below hl2
  have P2 := ((P1.gr hg2).alloc (.cells #[.int .i64 a, .int .i64 s] 26)).alloc (.cells #[.int .i64 d, .int .i64 t] 26)
  have Q2 := ((Q1.gr hg2).alloc (.cells #[.int .i64 a, .int .i64 s] 26)).alloc (.cells #[.int .i64 d, .int .i64 t] 26)
  have E2 := (Blk.new w2 26 #[.int .i64 a, .int .i64 s]).alloc (.cells #[.int .i64 d, .int .i64 t] 26)
  have F2 := Blk.new (w2.alloc (.cells #[.int .i64 a, .int .i64 s] 26)) 26 #[.int .i64 d, .int .i64 t]
  rw [World.size_alloc] at F2
  have hS2 := ((hS1.below hl2).alloc (.cells #[.int .i64 a, .int .i64 s] 26)).alloc (.cells #[.int .i64 d, .int .i64 t] 26)
  have lq := (Q1.gr hg2).lt
  have lb := (hS1.below hl2).lt
  have hW2 := ((hW1.trans (hl2.mono hW1.size)).alloc (by omega) (.cells #[.int .i64 a, .int .i64 s] 26)).alloc (by simp; omega) (.cells #[.int .i64 d, .int .i64 t] 26)
  clear P1 Q1 hW1 hg2 hl2 hS1
  have n1 : w.heap.size ≠ w2.heap.size := by omega
  have n2 : w.heap.size + 1 ≠ w2.heap.size := by omega
  have n3 : w.heap.size ≠ w2.heap.size + 1 := by omega
  have n4 : w.heap.size + 1 ≠ w2.heap.size + 1 := by omega
  obtain ⟨e0, e1, -⟩ := E2.two
  obtain ⟨f0, f1, -⟩ := F2.two
  have le := E2.lt
  have lf := F2.lt
  go_wp2_with fail
  generalize (w2.alloc (.cells #[.int .i64 a, .int .i64 s] 26)).alloc (.cells #[.int .i64 d, .int .i64 t] 26) = w3 at *
  refine (two_spec a s d t _).mono ?_
  rintro e w4 ⟨rfl, hg⟩
  have P := P2.gr hg
  have Q := Q2.gr hg
  have E := E2.gr hg
  have FF := F2.gr hg
  have hS := hS2.below hg.below
  have hW := hW2.trans (hg.below.mono (by have := P2.lt; omega))
  clear P2 Q2 E2 F2 hS2 hW2 hg e0 e1 f0 f1 le lf
  rcases two_cases a s d t with ⟨h0, h1, h2⟩ | ⟨h0, -⟩
  · rw [h0]
    clear h0
    obtain ⟨e0, e1, -⟩ := E.two
    obtain ⟨f0, f1, -⟩ := FF.two
    have le := E.lt
    have lf := FF.lt
    go_wp2_with fail
    refine (compare_spec d t a s _ h2 h1).mono ?_
    rintro e w5 ⟨rfl, hg⟩
    have P := P.gr hg
    have Q := Q.gr hg
    have E := E.gr hg
    have FF := FF.gr hg
    have hS := hS.below hg.below
    have hW := hW.trans (hg.below.mono (by have := P.lt; omega))
    clear hg e0 e1 f0 f1 le lf
    rcases Int.lt_or_le (10000 * t + d) (10000 * s + a) with hr | hr
    · rw [cmpI_lt _ _ hr]
      clear hr
      go_wp2_with fail
      refine (next_any A n c b _ _ hS).mono ?_
      rintro e w6 ⟨x, rfl, x0, x1, -, hS6, hd6⟩
      have P := P.dr hd6 (by omega)
      have Q := Q.dr hd6 (by omega)
      have E := E.dr hd6 (by omega)
      have FF := FF.dr hd6 (by omega)
      have hW := hW.trans (hd6.below (B := w.heap.size) (by omega) hW.size)
      clear hS hd6 x1
      have hS := hS6
      by_cases hx : 0 < x
      · clear x0
        clear hS
        obtain ⟨p0, p1, pf⟩ := P.two
        obtain ⟨q0, q1, qf⟩ := Q.two
        obtain ⟨e0, e1, ef⟩ := E.two
        obtain ⟨f0, f1, ff⟩ := FF.two
        clear P Q E FF
        go_wp2_with fail
        go_region
        all_goals
          go_wp2
          ((try simp only [Exit.inBlock, Exit.then]); refine bodyPost_ret (v := .tuple #[.agg #[.int .i64 d, .int .i64 t], .agg #[.int .i64 a, .int .i64 s]]) (by simp [results, Try.results40, go_sem, p0, p1, q0, q1, World.cell?_setCell_same']) rfl ?_)
          exact ⟨d, t, a, s, rfl, fd, fa, ((((hW.setCell (p := ⟨w.heap.size, 0, none⟩) (Nat.le_refl _) _).setCell (p := ⟨w.heap.size, 1, none⟩) (Nat.le_refl _) _).setCell (p := ⟨w.heap.size + 1, 0, none⟩) (by simp) _).setCell (p := ⟨w.heap.size + 1, 1, none⟩) (by simp) _).drew⟩
      · have hx' : x = 0 := by omega
        subst hx'
        clear hx x0
        clear hS
        obtain ⟨p0, p1, pf⟩ := P.two
        obtain ⟨q0, q1, qf⟩ := Q.two
        obtain ⟨e0, e1, ef⟩ := E.two
        obtain ⟨f0, f1, ff⟩ := FF.two
        clear P Q E FF
        go_wp2_with fail
        go_region
        all_goals
          go_wp2
          ((try simp only [Exit.inBlock, Exit.then]); refine bodyPost_ret (v := .tuple #[.agg #[.int .i64 a, .int .i64 s], .agg #[.int .i64 d, .int .i64 t]]) (by simp [results, Try.results40, go_sem, p0, p1, q0, q1, World.cell?_setCell_same']) rfl ?_)
          exact ⟨a, s, d, t, rfl, fa, fd, ((((hW.setCell (p := ⟨w.heap.size, 0, none⟩) (Nat.le_refl _) _).setCell (p := ⟨w.heap.size, 1, none⟩) (Nat.le_refl _) _).setCell (p := ⟨w.heap.size + 1, 0, none⟩) (by simp) _).setCell (p := ⟨w.heap.size + 1, 1, none⟩) (by simp) _).drew⟩
    · have hc : 0 ≤ cmpI (10000 * t + d) (10000 * s + a) := by
        rcases Int.lt_or_eq_of_le hr with h4 | h4
        · rw [cmpI_gt _ _ h4]; omega
        · rw [cmpI_eq _ _ h4.symm]; omega
      generalize cmpI (10000 * t + d) (10000 * s + a) = v at *
      clear hr
      clear hS
      obtain ⟨p0, p1, pf⟩ := P.two
      obtain ⟨q0, q1, qf⟩ := Q.two
      obtain ⟨e0, e1, ef⟩ := E.two
      obtain ⟨f0, f1, ff⟩ := FF.two
      clear P Q E FF
      go_wp2_with fail
      go_region
      all_goals
        go_wp2
        ((try simp only [Exit.inBlock, Exit.then]); refine bodyPost_ret (v := .tuple #[.agg #[.int .i64 a, .int .i64 s], .agg #[.int .i64 d, .int .i64 t]]) (by simp [results, Try.results40, go_sem, p0, p1, q0, q1, World.cell?_setCell_same']) rfl ?_)
        exact ⟨a, s, d, t, rfl, fa, fd, ((((hW.setCell (p := ⟨w.heap.size, 0, none⟩) (Nat.le_refl _) _).setCell (p := ⟨w.heap.size, 1, none⟩) (Nat.le_refl _) _).setCell (p := ⟨w.heap.size + 1, 0, none⟩) (by simp) _).setCell (p := ⟨w.heap.size + 1, 1, none⟩) (by simp) _).drew⟩
  · rw [h0]
    clear h0
    clear hS
    obtain ⟨p0, p1, pf⟩ := P.two
    obtain ⟨q0, q1, qf⟩ := Q.two
    obtain ⟨e0, e1, ef⟩ := E.two
    obtain ⟨f0, f1, ff⟩ := FF.two
    clear P Q E FF
    go_wp2_with fail
    go_region
    all_goals
      go_wp2
      ((try simp only [Exit.inBlock, Exit.then]); refine bodyPost_ret (v := .tuple #[.agg #[.int .i64 a, .int .i64 s], .agg #[.int .i64 d, .int .i64 t]]) (by simp [results, Try.results40, go_sem, p0, p1, q0, q1, World.cell?_setCell_same']) rfl ?_)
      exact ⟨a, s, d, t, rfl, fa, fd, ((((hW.setCell (p := ⟨w.heap.size, 0, none⟩) (Nat.le_refl _) _).setCell (p := ⟨w.heap.size, 1, none⟩) (Nat.le_refl _) _).setCell (p := ⟨w.heap.size + 1, 0, none⟩) (by simp) _).setCell (p := ⟨w.heap.size + 1, 1, none⟩) (by simp) _).drew⟩
end Go.Proofs.Ytipanchmhohlbaa
