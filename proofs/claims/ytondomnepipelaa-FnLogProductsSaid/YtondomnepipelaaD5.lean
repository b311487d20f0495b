/- Draws of chapter 3: intervals, numbers for logarithms, scalings. -/
import Derived.Test.YtondomnepipelaaD4
import Derived.Test.YtondomnepipelaaC03e
namespace Go.Proofs.Ytondomnepipelaa
open Go.RowKit
set_option linter.unusedVariables false
set_option linter.unusedSimpArgs false

theorem Src.below {A : Option Addr} {n c b : Nat} {w w' : World} (h : Src A n c b w) (hb : Below w.heap.size w w') : Src A n c b w' := by
  have hlt := h.lt
  obtain ⟨p, s, hp, hn, hs, hbk, hB⟩ := h
  exact ⟨p, s, hp, hn, hs, (hb.block b hlt).trans hbk, hB.keep fun k hk => hb.block k (by omega)⟩
theorem Dr.of_below {b : Nat} {w w' : World} (hb : Below w.heap.size w w') : Dr b w w' := ⟨hb.os, hb.tape, hb.output, hb.size, fun k hk _ => hb.block k hk⟩

/-- The bounds of a drawn interval: moderate, or at the limit. -/
def ItvN (l h : Int) : Prop := (-2000000000000 ≤ l ∧ l ≤ 2000000000000) ∧ (-2000000000000 ≤ h ∧ h ≤ 2000000000000)

theorem itvDraw_any (A : Option Addr) (n c b : Nat) (w : World) (hS : Src A n c b w) :
    Calls Try.prog 61 #[.pointer (some ⟨b, 0, none⟩)] w (GotF ItvN A n c b w) := by
  have hlt := hS.lt
  go_enter Try.func61, Try.ntmps61
  go_wp2_with fail
  have R0 := Blk.new w 28 #[.int .i64 0, .int .i64 0]
  refine (next_any A n c b _ _ (hS.alloc _)).mono ?_
  rintro e w1 ⟨x, rfl, x0, x1, -, hS1, hd1⟩
  have x1 := x1 (by omega)
  have R1 := R0.dr hd1 (by omega)
  have hT1 := ((Dr.refl b w).alloc (.cells #[.int .i64 0, .int .i64 0] 28)).trans hd1
  clear R0 hd1
  by_cases hx : x = 0
  · subst hx
    clear x0 x1
    go_wp2_with fail
    refine (valid_any A n c b _ hS1).mono ?_
    rintro e w2 ⟨d, t, rfl, ⟨⟨d1, d2⟩, t1, t2⟩, hS2, hd2⟩
    have R2 := R1.dr hd2 (by omega)
    have hT2 := hT1.trans hd2
    clear R1 hd2 hT1 hS1
    have hf : fg d t = true := (fg_iff d t).2 ⟨⟨d1, d2⟩, by omega, by omega⟩
    have fb := flg_bd d t hf
    go_wp2_with fail
    refine (figure_spec3 d t _ hf).mono ?_
    rintro e w3 ⟨rfl, hg⟩
    have hS3 := hS2.below hg.below
    have hd3 : Dr b w2 w3 := Dr.of_below hg.below
    have hT3 := hT2.trans hd3
    obtain ⟨c0, c1, f0⟩ := (R2.dr hd3 (by omega)).two
    generalize (flg d t).1 = y at *
    generalize (flg d t).2 = z at *
    clear R2 hd3 hT2 hS2 hg hf
    go_wp2_with fail
    ((try simp only [Exit.inBlock, Exit.then]); refine bodyPost_ret (v := .agg #[.int .i64 y, .int .i64 z]) (by simp [results, Try.results61, go_sem, c0, c1, World.cell?_setCell_same']) rfl ?_)
    exact ⟨y, z, rfl, by unfold ItvN; omega, (hS3.far (by exact hlt) _).far (by exact hlt) _, (hT3.setCell (.inr (Nat.le_refl _)) _).setCell (.inr (Nat.le_refl _)) _⟩
  · have hx : ((x : Int) == 0) = false := by simp [hx]
    clear x0 x1
    go_wp2_with fail
    refine (next_any A n c b _ _ hS1).mono ?_
    rintro e w2 ⟨x2, rfl, a2, b2, -, hS2, hd2⟩
    have b2 := b2 (by omega)
    go_wp2_with fail
    refine (next_any A n c b _ _ hS2).mono ?_
    rintro e w3 ⟨x3, rfl, a3, b3, -, hS3, hd3⟩
    have b3 := b3 (by omega)
    go_wp2_with fail
    refine (pick_any (fun x => -2000000 ≤ x ∧ x ≤ 2000000) A n c b _ 2 2 _ (hS3.alloc _) (by have := hS3.lt; omega) (by omega) (by omega) (allP_alloc (fun x => -2000000 ≤ x ∧ x ≤ 2000000) w3 _ _ _ [x2 - 2000000, x3 - 20] rfl rfl (by simp; omega))).mono ?_
    rintro e w4 ⟨l, rfl, ⟨l1, l2⟩, hS4, hd4⟩
    have hT4 := ((hT1.trans (hd2.trans hd3)).alloc (.cells #[.int .i64 (x2 - 2000000), .int .i64 (x3 - 20)] 2)).trans hd4
    have R4 := (((R1.dr hd2 (by omega)).dr hd3 (by omega)).alloc (.cells #[.int .i64 (x2 - 2000000), .int .i64 (x3 - 20)] 2)).dr hd4 (by omega)
    clear hd2 hd3 hd4 R1 hT1 hS1 hS2 hS3 a2 b2 a3 b3
    go_wp2_with fail
    refine (next_any A n c b _ _ hS4).mono ?_
    rintro e w5 ⟨x5, rfl, a5, b5, -, hS5, hd5⟩
    have b5 := b5 (by omega)
    go_wp2_with fail
    refine (pick_any (fun x => 0 ≤ x ∧ x ≤ 1000) A n c b _ 3 3 _ (hS5.alloc _) (by have := hS5.lt; omega) (by omega) (by omega) (allP_alloc (fun x => 0 ≤ x ∧ x ≤ 1000) w5 _ _ _ [0, 1, x5] rfl rfl (by simp; omega))).mono ?_
    rintro e w6 ⟨m, rfl, ⟨m1, m2⟩, hS6, hd6⟩
    have hT6 := ((hT4.trans hd5).alloc (.cells #[.int .i64 0, .int .i64 1, .int .i64 x5] 2)).trans hd6
    have R6 := ((R4.dr hd5 (by omega)).alloc (.cells #[.int .i64 0, .int .i64 1, .int .i64 x5] 2)).dr hd6 (by omega)
    clear hd5 hd6 R4 hT4 hS4 hS5 a5 b5
    have F6 := Blk.new w6 28 #[.int .i64 l, .int .i64 (l + m)]
    have R6' := R6.alloc (.cells #[.int .i64 l, .int .i64 (l + m)] 28)
    have l6 := hS6.lt
    have r6 := R6.lt
    have hT6' := hT6.alloc (.cells #[.int .i64 l, .int .i64 (l + m)] 28)
    go_wp2_with fail
    refine (next_any A n c b _ _ (hS6.alloc _)).mono ?_
    rintro e w7 ⟨x, rfl, x0, x1, -, hS7, hd7⟩
    have x1 := x1 (by omega)
    have R7 := R6'.dr hd7 (by omega)
    have F7 := F6.dr hd7 (by omega)
    have hT7 := hT6'.trans hd7
    have l7 := hS7.lt
    clear R6 R6' F6 hd7 hT6 hT6' hS6
    have ne1 : w.heap.size ≠ w6.heap.size := by omega
    have ne2 : w6.heap.size ≠ w.heap.size := by omega
    have hc : x = 0 ∨ (x = 1 ∧ ((1 : Int) == 0) = false) ∨ (((x : Int) == 0) = false ∧ ((x : Int) == 1) = false) := by
      by_cases h0 : x = 0
      · exact .inl h0
      · by_cases h1 : x = 1
        · exact .inr (.inl ⟨h1, rfl⟩)
        · exact .inr (.inr ⟨by simp [h0], by simp [h1]⟩)
    rcases hc with rfl | ⟨rfl, hb1⟩ | ⟨hb0, hb1⟩
    · clear x0 x1
      obtain ⟨k0, k1, kf⟩ := F7.two
      obtain ⟨c0, c1, f0⟩ := R7.two
      clear R7 F7
      go_wp2_with fail
      ((try simp only [Exit.inBlock, Exit.then]); refine bodyPost_ret (v := .agg #[.int .i64 l, .int .i64 (l - 1)]) (by simp [results, Try.results61, go_sem, c0, c1, World.cell?_setCell_same']) rfl ?_)
      exact ⟨l, l - 1, rfl, by unfold ItvN; omega, ((hS7.far (by exact l6) _).far (by exact hlt) _).far (by exact hlt) _, ((hT7.setCell (.inr (Nat.le_of_lt r6)) _).setCell (.inr (Nat.le_refl _)) _).setCell (.inr (Nat.le_refl _)) _⟩
    · clear x0 x1
      go_wp2_with fail
      refine (pick_any (fun x => 1000000000000 ≤ x ∧ x ≤ 1000000000001) A n c b _ 2 2 _ (hS7.alloc _) (by omega) (by omega) (by omega) (allP_alloc (fun x => 1000000000000 ≤ x ∧ x ≤ 1000000000001) w7 _ _ _ [1000000000000, 1000000000001] rfl rfl (by simp))).mono ?_
      rintro e w8 ⟨y, rfl, ⟨y1, y2⟩, hS8, hd8⟩
      have hT8 := (hT7.alloc (.cells #[.int .i64 1000000000000, .int .i64 1000000000001] 2)).trans hd8
      obtain ⟨k0, k1, kf⟩ := ((F7.alloc _).dr hd8 (by omega)).two
      obtain ⟨c0, c1, f0⟩ := ((R7.alloc _).dr hd8 (by omega)).two
      clear R7 F7 hT7 hd8 hS7
      go_wp2_with fail
      ((try simp only [Exit.inBlock, Exit.then]); refine bodyPost_ret (v := .agg #[.int .i64 l, .int .i64 y]) (by simp [results, Try.results61, go_sem, c0, c1, World.cell?_setCell_same']) rfl ?_)
      exact ⟨l, y, rfl, by unfold ItvN; omega, ((hS8.far (by exact l6) _).far (by exact hlt) _).far (by exact hlt) _, ((hT8.setCell (.inr (Nat.le_of_lt r6)) _).setCell (.inr (Nat.le_refl _)) _).setCell (.inr (Nat.le_refl _)) _⟩
    · obtain ⟨k0, k1, kf⟩ := F7.two
      obtain ⟨c0, c1, f0⟩ := R7.two
      clear R7 F7
      go_wp2_with fail
      ((try simp only [Exit.inBlock, Exit.then]); refine bodyPost_ret (v := .agg #[.int .i64 l, .int .i64 (l + m)]) (by simp [results, Try.results61, go_sem, c0, c1, World.cell?_setCell_same']) rfl ?_)
      exact ⟨l, l + m, rfl, by unfold ItvN; omega, (hS7.far (by exact hlt) _).far (by exact hlt) _, (hT7.setCell (.inr (Nat.le_refl _)) _).setCell (.inr (Nat.le_refl _)) _⟩

set_option maxHeartbeats 1000000 in
theorem itvTwo_any (A : Option Addr) (n c : Nat) (w : World) (hn : n ≤ 4611686018427387904) (hB : Bytes w w.heap.size A n) :
    Calls Try.prog 44 #[.slice A n c] w (TwoF ItvN w) := by
  go_enter Try.func44, Try.ntmps44
  go_wp2_with fail
  have P0 := (Blk.new w 28 #[.int .i64 0, .int .i64 0]).alloc (.cells #[.int .i64 0, .int .i64 0] 28)
  have Q0 := Blk.new (w.alloc (.cells #[.int .i64 0, .int .i64 0] 28)) 28 #[.int .i64 0, .int .i64 0]
  rw [World.size_alloc] at Q0
  have hW0 : Below w.heap.size w ((w.alloc (.cells #[.int .i64 0, .int .i64 0] 28)).alloc (.cells #[.int .i64 0, .int .i64 0] 28)) := ((Below.refl _ w).alloc (Nat.le_refl _) _).alloc (by simp) _
  refine (from_any A n c _ hn (hB.later hW0)).mono ?_
  rintro e w1 ⟨b, rfl, hb, hS1, hl1⟩
  rw [World.size_alloc, World.size_alloc] at hb
  have P1 : Blk w1 w.heap.size 28 #[.int .i64 0, .int .i64 0] := (hl1.block _ P0.lt).trans P0
  have Q1 : Blk w1 (w.heap.size + 1) 28 #[.int .i64 0, .int .i64 0] := (hl1.block _ Q0.lt).trans Q0
  have hW1 := hW0.trans (hl1.mono (by simp; omega))
  clear P0 Q0 hl1 hW0
  go_wp2_with fail
  refine (itvDraw_any A n c b _ hS1).mono ?_
  rintro e w2 ⟨a, s, rfl, hI1, hS2, hd2⟩
  have P2 := (P1.dr hd2 (by omega)).alloc (.cells #[.int .i64 a, .int .i64 s] 28)
  have Q2 := (Q1.dr hd2 (by omega)).alloc (.cells #[.int .i64 a, .int .i64 s] 28)
  have E2 := Blk.new w2 28 #[.int .i64 a, .int .i64 s]
  have l2 := hS2.lt
  have hT2 := hd2.alloc (.cells #[.int .i64 a, .int .i64 s] 28)
  have n1 : w.heap.size ≠ w2.heap.size := by omega
  have n2 : w.heap.size + 1 ≠ w2.heap.size := by omega
  have n3 : w2.heap.size ≠ w.heap.size := by omega
  have n4 : w2.heap.size ≠ w.heap.size + 1 := by omega
  clear P1 Q1 hd2
  obtain ⟨k0, k1, kf⟩ := E2.two
  go_wp2_with fail
  go_region_held3 (fun w' => w'.cell? ⟨w2.heap.size, 0, none⟩ = some (.int .i64 a) ∧ w'.cell? ⟨w2.heap.size, 1, none⟩ = some (.int .i64 s)) (first | exact ⟨k0, k1⟩ | exact ⟨h0, h1⟩ | (go_simp; done)) (first
    | (go_at_call 61; refine (itvDraw_any A n c b _ (hS2.alloc _).drew).mono ?_; rintro e w3 ⟨d, t, rfl, hI2, hS3, hd3⟩; obtain ⟨h0, h1, hf⟩ := (Blk.dr (w := (w2.alloc (.cells #[.int .i64 a, .int .i64 s] 28)).drew) E2 hd3 (by omega)).two; obtain ⟨p0, p1, pf⟩ := (Blk.dr (w := (w2.alloc (.cells #[.int .i64 a, .int .i64 s] 28)).drew) P2 hd3 (by omega)).two; obtain ⟨q0, q1, qf⟩ := (Blk.dr (w := (w2.alloc (.cells #[.int .i64 a, .int .i64 s] 28)).drew) Q2 hd3 (by omega)).two))
  all_goals
    have hW6 := hW1.trans ((hT2.drew.trans hd3).below (B := w.heap.size) (by omega) hW1.size)
    go_wp2
    ((try simp only [Exit.inBlock, Exit.then]); refine bodyPost_ret (v := .tuple #[.agg #[.int .i64 a, .int .i64 s], .agg #[.int .i64 d, .int .i64 t]]) (by simp [results, Try.results44, go_sem, p0, p1, q0, q1, World.cell?_setCell_same']) rfl ?_)
    exact ⟨a, s, d, t, rfl, hI1, hI2, (((hW6.setCell (p := ⟨w.heap.size, 0, none⟩) (Nat.le_refl _) _).setCell (p := ⟨w.heap.size, 1, none⟩) (Nat.le_refl _) _).setCell (p := ⟨w.heap.size + 1, 0, none⟩) (by simp) _).setCell (p := ⟨w.heap.size + 1, 1, none⟩) (by simp) _⟩

theorem drawAdd_any (A : Option Addr) (n c : Nat) (w : World) (hn : n ≤ 4611686018427387904) (hB : Bytes w w.heap.size A n) :
    Calls Try.prog 17 #[.slice A n c] w (TwoF ItvN w) := by
  go_enter Try.func17, Try.ntmps17
  go_wp2_with fail
  have hW0 : Below w.heap.size w ((w.alloc (.cells #[.int .i64 0, .int .i64 0] 28)).alloc (.cells #[.int .i64 0, .int .i64 0] 28)) := ((Below.refl _ w).alloc (Nat.le_refl _) _).alloc (by simp) _
  refine (itvTwo_any A n c _ hn (hB.later hW0)).mono ?_
  rintro e w1 ⟨a, s, b, t, rfl, h1, h2, hb⟩
  obtain ⟨k, os, rfl⟩ := Gr.of_below hb
  clear hb hW0
  go_wp2_with fail
  ((try simp only [Exit.inBlock, Exit.then]); refine bodyPost_ret (v := .tuple #[.agg #[.int .i64 a, .int .i64 s], .agg #[.int .i64 b, .int .i64 t]]) (by simp [results, Try.results17, go_sem]) rfl ?_)
  exact ⟨a, s, b, t, rfl, h1, h2, Gr.below (by repeat (first | with_reducible exact Gr.refl _ | with_reducible refine Gr.alloc ?_ _ | with_reducible refine Gr.gr ?_ _ _ | with_reducible refine Gr.drew ?_ | with_reducible refine Gr.drewN ?_ _))⟩

theorem drawSub_any (A : Option Addr) (n c : Nat) (w : World) (hn : n ≤ 4611686018427387904) (hB : Bytes w w.heap.size A n) :
    Calls Try.prog 20 #[.slice A n c] w (TwoF ItvN w) := by
  go_enter Try.func20, Try.ntmps20
  go_wp2_with fail
  have hW0 : Below w.heap.size w ((w.alloc (.cells #[.int .i64 0, .int .i64 0] 28)).alloc (.cells #[.int .i64 0, .int .i64 0] 28)) := ((Below.refl _ w).alloc (Nat.le_refl _) _).alloc (by simp) _
  refine (itvTwo_any A n c _ hn (hB.later hW0)).mono ?_
  rintro e w1 ⟨a, s, b, t, rfl, h1, h2, hb⟩
  obtain ⟨k, os, rfl⟩ := Gr.of_below hb
  clear hb hW0
  go_wp2_with fail
  ((try simp only [Exit.inBlock, Exit.then]); refine bodyPost_ret (v := .tuple #[.agg #[.int .i64 a, .int .i64 s], .agg #[.int .i64 b, .int .i64 t]]) (by simp [results, Try.results20, go_sem]) rfl ?_)
  exact ⟨a, s, b, t, rfl, h1, h2, Gr.below (by repeat (first | with_reducible exact Gr.refl _ | with_reducible refine Gr.alloc ?_ _ | with_reducible refine Gr.gr ?_ _ _ | with_reducible refine Gr.drew ?_ | with_reducible refine Gr.drewN ?_ _))⟩

def LogN (x : Int) : Prop := 0 ≤ x ∧ x ≤ 1000000000
theorem drawLogarithm_any (A : Option Addr) (n c : Nat) (w : World) (hn : n ≤ 4611686018427387904) (hB : Bytes w w.heap.size A n) :
    Calls Try.prog 10 #[.slice A n c] w (One LogN w) := by
  go_enter Try.func10, Try.ntmps10
  go_wp2_with fail
  refine (from_any A n c w hn hB).mono ?_
  rintro e w1 ⟨b, rfl, hb, hS1, hl1⟩
  go_wp2_with fail
  refine (next_any A n c b _ _ hS1).mono ?_
  rintro e w2 ⟨x, rfl, x0, x1, -, hS2, hd2⟩
  have x1 := x1 (by omega)
  go_wp2_with fail
  refine (next_any A n c b _ _ hS2).mono ?_
  rintro e w3 ⟨y, rfl, y0, y1, -, hS3, hd3⟩
  have y1 := y1 (by omega)
  go_wp2_with fail
  refine (next_any A n c b _ _ hS3).mono ?_
  rintro e w4 ⟨z, rfl, z0, z1, -, hS4, hd4⟩
  have z1 := z1 (by omega)
  go_wp2_with fail
  refine (pick_any LogN A n c b _ 8 8 _ (hS4.alloc _) (by have := hS4.lt; omega) (by omega) (by omega) (allP_alloc LogN w4 _ _ _ [100000000, 200000000, 999999999, 1000000000, 99999999, 100000000 + x, 100000000 + y, 100000000 + z] rfl rfl (by simp [LogN]; omega))).mono ?_
  rintro e w5 ⟨u, rfl, hu, hS5, hd5⟩
  go_wp2_with fail
  go_ret
  exact ⟨u, rfl, hu, hl1.trans ((((hd2.trans (hd3.trans hd4)).alloc _).trans hd5).below hb hl1.size)⟩
end Go.Proofs.Ytondomnepipelaa
