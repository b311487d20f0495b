/- Draws of chapter 2: figures, pairs of figures, terms of fractions. -/
import Derived.Test.YtondomnepipelaaD3
import Derived.Deep.RegionHeld3
import Derived.RegionTactic
import Derived.BigRegion
import Derived.Test.YtondomnepipelaaMm
import Derived.Test.YtondomnepipelaaGr
import Derived.IntWalk
namespace Go.Proofs.Ytondomnepipelaa
open Go.RowKit
set_option linter.unusedVariables false
set_option linter.unusedSimpArgs false

attribute [local go_sem high] run_imin run_imax

theorem Blk.dr {w w' : World} {b g : Nat} {t : TypeId} {cs : Array Value} (h : Blk w g t cs) (hd : Dr b w w') (hg : g ≠ b) : Blk w' g t cs := (hd.block g h.lt hg).trans h
theorem Src.far {A : Option Addr} {n c b : Nat} {w : World} (h : Src A n c b w) {a : Addr} (ha : b < a.block) (x : Value) : Src A n c b (w.setCell a x) := by
  obtain ⟨p, s, hp, hn, hs, hb, hB⟩ := h
  exact ⟨p, s, hp, hn, hs, (heap_setCell_other w a b x (by omega)).trans hb, hB.keep fun k hk => heap_setCell_other w a k x (by omega)⟩
theorem Dr.src {A : Option Addr} {n c b : Nat} {w w' : World} (h : Src A n c b w) (o : Obj) : Src A n c b (w.alloc o) := h.alloc o


/-- A drawn figure of a kind. -/
def GotF (P : Int → Int → Prop) (A : Option Addr) (n c b : Nat) (w : World) (e : Ending) (w' : World) : Prop :=
  ∃ d t : Int, e = .returned (.agg #[.int .i64 d, .int .i64 t]) ∧ P d t ∧ Src A n c b w' ∧ Dr b w w'
def FigV (d t : Int) : Prop := (1000 ≤ d ∧ d ≤ 9999) ∧ -3 ≤ t ∧ t ≤ 3
def FigN (d t : Int) : Prop := (999 ≤ d ∧ d ≤ 10000) ∧ -31 ≤ t ∧ t ≤ 31

theorem valid_any (A : Option Addr) (n c b : Nat) (w : World) (hS : Src A n c b w) :
    Calls Try.prog 52 #[.pointer (some ⟨b, 0, none⟩)] w (GotF FigV A n c b w) := by
  have hlt := hS.lt
  go_enter Try.func52, Try.ntmps52
  go_wp2_with fail
  have T0 := Blk.new w 25 #[.int .i64 0, .int .i64 0]
  refine (next_any A n c b _ _ (hS.alloc _)).mono ?_
  rintro e w1 ⟨x1, rfl, a1, b1, -, hS1, hd1⟩
  have b1 := b1 (by omega)
  go_wp2_with fail
  refine (next_any A n c b _ _ hS1).mono ?_
  rintro e w2 ⟨x2, rfl, a2, b2, -, hS2, hd2⟩
  have b2 := b2 (by omega)
  go_wp2_with fail
  refine (next_any A n c b _ _ hS2).mono ?_
  rintro e w3 ⟨x3, rfl, a3, b3, -, hS3, hd3⟩
  have b3 := b3 (by omega)
  go_wp2_with fail
  refine (next_any A n c b _ _ hS3).mono ?_
  rintro e w4 ⟨x4, rfl, a4, b4, -, hS4, hd4⟩
  have b4 := b4 (by omega)
  go_wp2_with fail
  refine (pick_any (fun x => 1000 ≤ x ∧ x ≤ 9999) A n c b _ 4 4 _ (hS4.alloc _) (by have := hS4.lt; omega) (by omega) (by omega) (allP_alloc (fun x => 1000 ≤ x ∧ x ≤ 9999) w4 _ _ _ [1000 + x1, 1000 + x2, 100 * (10 + x3), 1000 * (1 + x4)] rfl rfl (by simp; omega))).mono ?_
  rintro e w5 ⟨x5, rfl, ⟨a5, b5⟩, hS5, hd5⟩
  go_wp2_with fail
  refine (next_any A n c b _ _ hS5).mono ?_
  rintro e w6 ⟨x6, rfl, a6, b6, -, hS6, hd6⟩
  have b6 := b6 (by omega)
  have T := ((((hd1.trans (hd2.trans (hd3.trans hd4))).alloc (.cells #[.int .i64 (1000 + x1), .int .i64 (1000 + x2), .int .i64 (100 * (10 + x3)), .int .i64 (1000 * (1 + x4))] 2)).trans hd5).trans hd6)
  have hT := ((Dr.refl b w).alloc (.cells #[.int .i64 0, .int .i64 0] 25)).trans T
  obtain ⟨c0, c1, f0⟩ := (T0.dr T (by omega)).two
  clear T0 T hd1 hd2 hd3 hd4 hd5 hd6 hS1 hS2 hS3 hS4 hS5 a1 b1 a2 b2 a3 b3 a4 b4
  go_wp2_with fail
  ((try simp only [Exit.inBlock, Exit.then]); refine bodyPost_ret (v := .agg #[.int .i64 x5, .int .i64 (x6 - 3)]) (by simp [results, Try.results52, go_sem, c0, c1, World.cell?_setCell_same']) rfl ?_)
  exact ⟨x5, x6 - 3, rfl, ⟨⟨a5, b5⟩, by omega, by omega⟩, (hS6.far (by exact hlt) _).far (by exact hlt) _, (hT.setCell (.inr (Nat.le_refl _)) _).setCell (.inr (Nat.le_refl _)) _⟩

theorem figDraw_any (A : Option Addr) (n c b : Nat) (w : World) (hS : Src A n c b w) :
    Calls Try.prog 26 #[.pointer (some ⟨b, 0, none⟩)] w (GotF FigN A n c b w) := by
  have hlt := hS.lt
  go_enter Try.func26, Try.ntmps26
  go_wp2_with fail
  have R0 := Blk.new w 25 #[.int .i64 0, .int .i64 0]
  refine (valid_any A n c b _ (hS.alloc _)).mono ?_
  rintro e w1 ⟨d, t, rfl, ⟨⟨d1, d2⟩, t1, t2⟩, hS1, hd1⟩
  have R1 := R0.dr hd1 (by omega)
  have F1 := Blk.new w1 25 #[.int .i64 d, .int .i64 t]
  have l1 := hS1.lt
  have r1 := R1.lt
  have hT1 : Dr b w (w1.alloc (.cells #[.int .i64 d, .int .i64 t] 25)) := (((Dr.refl b w).alloc _).trans hd1).alloc _
  have R1' := R1.alloc (.cells #[.int .i64 d, .int .i64 t] 25)
  go_wp2_with fail
  refine (next_any A n c b _ _ (hS1.alloc _)).mono ?_
  rintro e w2 ⟨x, rfl, x0, x1, -, hS2, hd2⟩
  have x1 := x1 (by omega)
  have R2 := R1'.dr hd2 (by omega)
  have F2 := F1.dr hd2 (by omega)
  have hT2 := hT1.trans hd2
  have l2 := hS2.lt
  have s2 : w1.heap.size < w2.heap.size := F2.lt
  clear R0 R1 R1' F1 hd1 hd2 hT1 hS1
  have hx : x = 0 ∨ (x = 1 ∧ ((1 : Int) == 0) = false) ∨ (((x : Int) == 0) = false ∧ ((x : Int) == 1) = false) := by
    by_cases h0 : x = 0
    · exact .inl h0
    · by_cases h1 : x = 1
      · exact .inr (.inl ⟨h1, rfl⟩)
      · exact .inr (.inr ⟨by simp [h0], by simp [h1]⟩)
  rcases hx with rfl | ⟨rfl, hb1⟩ | ⟨hb0, hb1⟩
  · clear x0 x1
    go_wp2_with fail
    refine (pick_any (fun x => 999 ≤ x ∧ x ≤ 10000) A n c b _ 4 4 _ (hS2.alloc _) (by omega) (by omega) (by omega) (allP_alloc (fun x => 999 ≤ x ∧ x ≤ 10000) w2 _ _ _ [999, 1000, 9999, 10000] rfl rfl (by simp))).mono ?_
    rintro e w3 ⟨y, rfl, ⟨y1, y2⟩, hS3, hd3⟩
    have hT3 := (hT2.alloc (.cells #[.int .i64 999, .int .i64 1000, .int .i64 9999, .int .i64 10000] 2)).trans hd3
    obtain ⟨k0, k1, kf⟩ := ((F2.alloc _).dr hd3 (by omega)).two
    obtain ⟨c0, c1, f0⟩ := ((R2.alloc _).dr hd3 (by omega)).two
    have ne1 : w.heap.size ≠ w1.heap.size := by omega
    have ne2 : w1.heap.size ≠ w.heap.size := by omega
    clear R2 F2 hT2 hd3 hS2
    go_wp2_with fail
    ((try simp only [Exit.inBlock, Exit.then]); refine bodyPost_ret (v := .agg #[.int .i64 y, .int .i64 t]) (by simp [results, Try.results26, go_sem, c0, c1, World.cell?_setCell_same']) rfl ?_)
    exact ⟨y, t, rfl, ⟨⟨y1, y2⟩, by omega, by omega⟩, ((hS3.far (by exact l1) _).far (by exact hlt) _).far (by exact hlt) _, ((hT3.setCell (.inr (Nat.le_of_lt r1)) _).setCell (.inr (Nat.le_refl _)) _).setCell (.inr (Nat.le_refl _)) _⟩
  · clear x0 x1
    go_wp2_with fail
    refine (pick_any (fun x => -31 ≤ x ∧ x ≤ 31) A n c b _ 4 4 _ (hS2.alloc _) (by omega) (by omega) (by omega) (allP_alloc (fun x => -31 ≤ x ∧ x ≤ 31) w2 _ _ _ [-30, 30, 31, -31] rfl rfl (by simp))).mono ?_
    rintro e w3 ⟨y, rfl, ⟨y1, y2⟩, hS3, hd3⟩
    have hT3 := (hT2.alloc (.cells #[.int .i64 (-30), .int .i64 30, .int .i64 31, .int .i64 (-31)] 2)).trans hd3
    obtain ⟨k0, k1, kf⟩ := ((F2.alloc _).dr hd3 (by omega)).two
    obtain ⟨c0, c1, f0⟩ := ((R2.alloc _).dr hd3 (by omega)).two
    have ne1 : w.heap.size ≠ w1.heap.size := by omega
    have ne2 : w1.heap.size ≠ w.heap.size := by omega
    clear R2 F2 hT2 hd3 hS2
    go_wp2_with fail
    ((try simp only [Exit.inBlock, Exit.then]); refine bodyPost_ret (v := .agg #[.int .i64 d, .int .i64 y]) (by simp [results, Try.results26, go_sem, c0, c1, World.cell?_setCell_same']) rfl ?_)
    exact ⟨d, y, rfl, ⟨⟨by omega, by omega⟩, y1, y2⟩, ((hS3.far (by exact l1) _).far (by exact hlt) _).far (by exact hlt) _, ((hT3.setCell (.inr (Nat.le_of_lt r1)) _).setCell (.inr (Nat.le_refl _)) _).setCell (.inr (Nat.le_refl _)) _⟩
  · obtain ⟨k0, k1, kf⟩ := F2.two
    obtain ⟨c0, c1, f0⟩ := R2.two
    clear R2 F2
    go_wp2_with fail
    ((try simp only [Exit.inBlock, Exit.then]); refine bodyPost_ret (v := .agg #[.int .i64 d, .int .i64 t]) (by simp [results, Try.results26, go_sem, c0, c1, World.cell?_setCell_same']) rfl ?_)
    exact ⟨d, t, rfl, ⟨⟨by omega, by omega⟩, by omega, by omega⟩, (hS2.far (by exact hlt) _).far (by exact hlt) _, (hT2.setCell (.inr (Nat.le_refl _)) _).setCell (.inr (Nat.le_refl _)) _⟩

/-- Two drawn figures. -/
def TwoF (P : Int → Int → Prop) (w : World) (e : Ending) (w' : World) : Prop :=
  ∃ a s b t : Int, e = .returned (.tuple #[.agg #[.int .i64 a, .int .i64 s], .agg #[.int .i64 b, .int .i64 t]]) ∧ P a s ∧ P b t ∧ Below w.heap.size w w'

theorem clampF (x : Int) : 1000 ≤ imax 1000 (imin 9999 x) ∧ imax 1000 (imin 9999 x) ≤ 9999 := by
  have := imin_bd 9999 x
  have := imax_bd 1000 (imin 9999 x)
  omega

/-- The end of a draw of two figures: both are stored into the results. -/
theorem drawTwo_any (A : Option Addr) (n c : Nat) (w : World) (hn : n ≤ 4611686018427387904) (hB : Bytes w w.heap.size A n) :
    Calls Try.prog 38 #[.slice A n c] w (TwoF FigN w) := by
  go_enter Try.func38, Try.ntmps38
  go_wp2_with fail
  have P0 := (Blk.new w 25 #[.int .i64 0, .int .i64 0]).alloc (.cells #[.int .i64 0, .int .i64 0] 25)
  have Q0 := Blk.new (w.alloc (.cells #[.int .i64 0, .int .i64 0] 25)) 25 #[.int .i64 0, .int .i64 0]
  rw [World.size_alloc] at Q0
  have hW0 : Below w.heap.size w ((w.alloc (.cells #[.int .i64 0, .int .i64 0] 25)).alloc (.cells #[.int .i64 0, .int .i64 0] 25)) := ((Below.refl _ w).alloc (Nat.le_refl _) _).alloc (by simp) _
  refine (from_any A n c _ hn (hB.later hW0)).mono ?_
  rintro e w1 ⟨b, rfl, hb, hS1, hl1⟩
  rw [World.size_alloc, World.size_alloc] at hb
  have P1 : Blk w1 w.heap.size 25 #[.int .i64 0, .int .i64 0] := (hl1.block _ P0.lt).trans P0
  have Q1 : Blk w1 (w.heap.size + 1) 25 #[.int .i64 0, .int .i64 0] := (hl1.block _ Q0.lt).trans Q0
  have hW1 := hW0.trans (hl1.mono (by simp; omega))
  clear P0 Q0 hl1 hW0
  go_wp2_with fail
  refine (figDraw_any A n c b _ hS1).mono ?_
  rintro e w2 ⟨a, s, rfl, ⟨⟨a1, a2⟩, s1, s2⟩, hS2, hd2⟩
  have P2 := (P1.dr hd2 (by omega)).alloc (.cells #[.int .i64 a, .int .i64 s] 25)
  have Q2 := (Q1.dr hd2 (by omega)).alloc (.cells #[.int .i64 a, .int .i64 s] 25)
  have E2 := Blk.new w2 25 #[.int .i64 a, .int .i64 s]
  have l2 := hS2.lt
  have hT2 := hd2.alloc (.cells #[.int .i64 a, .int .i64 s] 25)
  clear P1 Q1 hd2
  go_wp2_with fail
  refine (figDraw_any A n c b _ (hS2.alloc _)).mono ?_
  rintro e w3 ⟨d, t, rfl, ⟨⟨d1, d2⟩, t1, t2⟩, hS3, hd3⟩
  have P3 := (P2.dr hd3 (by omega)).alloc (.cells #[.int .i64 d, .int .i64 t] 25)
  have Q3 := (Q2.dr hd3 (by omega)).alloc (.cells #[.int .i64 d, .int .i64 t] 25)
  have E3 := (E2.dr hd3 (by omega)).alloc (.cells #[.int .i64 d, .int .i64 t] 25)
  have G3 := Blk.new w3 25 #[.int .i64 d, .int .i64 t]
  have l3 := hS3.lt
  have hT3 := (hT2.trans hd3).alloc (.cells #[.int .i64 d, .int .i64 t] 25)
  have e3 : w2.heap.size < w3.heap.size := (E2.dr hd3 (by omega)).lt
  clear P2 Q2 E2 hd3 hT2
  go_wp2_with fail
  refine (next_any A n c b _ _ (hS3.alloc _)).mono ?_
  rintro e w4 ⟨x, rfl, x0, x1, -, hS4, hd4⟩
  have x1 := x1 (by omega)
  have P4 := P3.dr hd4 (by omega)
  have Q4 := Q3.dr hd4 (by omega)
  have E4 := E3.dr hd4 (by omega)
  have G4 := G3.dr hd4 (by omega)
  have hT4 := hT3.trans hd4
  have g4 := G4.lt
  clear P3 Q3 E3 G3 hd4 hT3
  have n1 : w.heap.size ≠ w2.heap.size := by omega
  have n2 : w.heap.size + 1 ≠ w2.heap.size := by omega
  have n3 : w.heap.size ≠ w3.heap.size := by omega
  have n4 : w.heap.size + 1 ≠ w3.heap.size := by omega
  have n5 : w2.heap.size ≠ w3.heap.size := by omega
  by_cases hx : x = 0
  · subst hx
    obtain ⟨k0, k1, kf⟩ := E4.two
    go_wp2_with fail
    go_region_held3 (fun w' => w'.cell? ⟨w2.heap.size, 0, none⟩ = some (.int .i64 a) ∧ w'.cell? ⟨w2.heap.size, 1, none⟩ = some (.int .i64 s)) (first | exact ⟨k0, k1⟩ | exact ⟨h0, h1⟩ | (go_simp; done)) (first
      | (go_at_call 33; refine (next_any A n c b _ _ hS4.drew).mono ?_; rintro e w5 ⟨y, rfl, y0, y1, -, hS5, hd5⟩; obtain ⟨h0, h1, hf⟩ := (Blk.dr (w := w4.drew) E4 hd5 (by omega)).two; have y1 := y1 (by omega); obtain ⟨g0, g1, gf⟩ := (Blk.dr (w := w4.drew) G4 hd5 (by omega)).two; have q1 : IntKind.i64.wrap (a + y) = a + y := IntWalk.i64_in _ (by omega); have q2 : IntKind.i64.wrap (a + y - 10) = a + y - 10 := IntWalk.i64_in _ (by omega)))
    all_goals
      go_wp2
      have cl := clampF (a + y - 10)
      obtain ⟨z, hz⟩ : ∃ z, imax 1000 (imin 9999 (a + y - 10)) = z := ⟨_, rfl⟩
      rw [hz] at cl ⊢
      have P6 := ((Blk.dr (w := w4.drew) P4 hd5 (by omega)).far (a := ⟨w3.heap.size, 0, none⟩) (by exact n3.symm) (.int .i64 z)).far (a := ⟨w3.heap.size, 1, none⟩) (by exact n3.symm) (.int .i64 s)
      have Q6 := ((Blk.dr (w := w4.drew) Q4 hd5 (by omega)).far (a := ⟨w3.heap.size, 0, none⟩) (by exact n4.symm) (.int .i64 z)).far (a := ⟨w3.heap.size, 1, none⟩) (by exact n4.symm) (.int .i64 s)
      have E6 := ((Blk.dr (w := w4.drew) E4 hd5 (by omega)).far (a := ⟨w3.heap.size, 0, none⟩) (by exact n5.symm) (.int .i64 z)).far (a := ⟨w3.heap.size, 1, none⟩) (by exact n5.symm) (.int .i64 s)
      have G6 : Blk _ _ _ #[.int .i64 z, .int .i64 s] := ((Blk.dr (w := w4.drew) G4 hd5 (by omega)).set 0 (.int .i64 z)).set 1 (.int .i64 s)
      have lt3 : w.heap.size ≤ w3.heap.size := by omega
      have hW6 := ((hW1.trans ((hT4.drew.trans hd5).below (B := w.heap.size) (by omega) hW1.size)).setCell (p := ⟨w3.heap.size, 0, none⟩) lt3 (.int .i64 z)).setCell (p := ⟨w3.heap.size, 1, none⟩) lt3 (.int .i64 s)
      generalize (w5.setCell ⟨w3.heap.size, 0, none⟩ (.int .i64 z)).setCell ⟨w3.heap.size, 1, none⟩ (.int .i64 s) = w6 at *
      clear hz h0 h1 hf k0 k1 kf g0 g1 gf P4 Q4 E4 G4 hT4 hd5 hS5 hS4
      obtain ⟨p0, p1, pf⟩ := P6.two
      obtain ⟨q0, q1, qf⟩ := Q6.two
      obtain ⟨k0, k1, kf⟩ := E6.two
      obtain ⟨g0, g1, gf⟩ := G6.two
      clear P6 Q6 E6 G6
      go_region
      go_wp2
      ((try simp only [Exit.inBlock, Exit.then]); refine bodyPost_ret (v := .tuple #[.agg #[.int .i64 a, .int .i64 s], .agg #[.int .i64 z, .int .i64 s]]) (by simp [results, Try.results38, go_sem, p0, p1, q0, q1, World.cell?_setCell_same']) rfl ?_)
      exact ⟨a, s, z, s, rfl, ⟨⟨a1, a2⟩, s1, s2⟩, by unfold FigN; omega, ((((hW6.setCell (p := ⟨w.heap.size, 0, none⟩) (Nat.le_refl _) _).setCell (p := ⟨w.heap.size, 1, none⟩) (Nat.le_refl _) _).setCell (p := ⟨w.heap.size + 1, 0, none⟩) (by simp) _).setCell (p := ⟨w.heap.size + 1, 1, none⟩) (by simp) _).drew⟩
  · have hx : ((x : Int) == 0) = false := by simp [hx]
    go_wp2_with fail
    have hW6 := hW1.trans (hT4.below (B := w.heap.size) (by omega) hW1.size)
    have P6 := P4
    have Q6 := Q4
    have E6 := E4
    have G6 := G4
    clear P4 Q4 E4 G4 hT4
    generalize w4 = w6 at *
    obtain ⟨p0, p1, pf⟩ := P6.two
    obtain ⟨q0, q1, qf⟩ := Q6.two
    obtain ⟨k0, k1, kf⟩ := E6.two
    obtain ⟨g0, g1, gf⟩ := G6.two
    clear P6 Q6 E6 G6
    go_region
    go_wp2
    ((try simp only [Exit.inBlock, Exit.then]); refine bodyPost_ret (v := .tuple #[.agg #[.int .i64 a, .int .i64 s], .agg #[.int .i64 d, .int .i64 t]]) (by simp [results, Try.results38, go_sem, p0, p1, q0, q1, World.cell?_setCell_same']) rfl ?_)
    exact ⟨a, s, d, t, rfl, ⟨⟨a1, a2⟩, s1, s2⟩, by unfold FigN; omega, ((((hW6.setCell (p := ⟨w.heap.size, 0, none⟩) (Nat.le_refl _) _).setCell (p := ⟨w.heap.size, 1, none⟩) (Nat.le_refl _) _).setCell (p := ⟨w.heap.size + 1, 0, none⟩) (by simp) _).setCell (p := ⟨w.heap.size + 1, 1, none⟩) (by simp) _).drew⟩

theorem drawMultiply_any (A : Option Addr) (n c : Nat) (w : World) (hn : n ≤ 4611686018427387904) (hB : Bytes w w.heap.size A n) :
    Calls Try.prog 14 #[.slice A n c] w (TwoF FigN w) := by
  go_enter Try.func14, Try.ntmps14
  go_wp2_with fail
  have hW0 : Below w.heap.size w ((w.alloc (.cells #[.int .i64 0, .int .i64 0] 25)).alloc (.cells #[.int .i64 0, .int .i64 0] 25)) := ((Below.refl _ w).alloc (Nat.le_refl _) _).alloc (by simp) _
  refine (drawTwo_any A n c _ hn (hB.later hW0)).mono ?_
  rintro e w1 ⟨a, s, b, t, rfl, h1, h2, hb⟩
  obtain ⟨k, os, rfl⟩ := Gr.of_below hb
  clear hb hW0
  go_wp2_with fail
  ((try simp only [Exit.inBlock, Exit.then]); refine bodyPost_ret (v := .tuple #[.agg #[.int .i64 a, .int .i64 s], .agg #[.int .i64 b, .int .i64 t]]) (by simp [results, Try.results14, go_sem]) rfl ?_)
  exact ⟨a, s, b, t, rfl, h1, h2, Gr.below (by repeat (first | with_reducible exact Gr.refl _ | with_reducible refine Gr.alloc ?_ _ | with_reducible refine Gr.gr ?_ _ _ | with_reducible refine Gr.drew ?_ | with_reducible refine Gr.drewN ?_ _))⟩

/-- One drawn figure. -/
def OneF (P : Int → Int → Prop) (w : World) (e : Ending) (w' : World) : Prop :=
  ∃ a s : Int, e = .returned (.agg #[.int .i64 a, .int .i64 s]) ∧ P a s ∧ Below w.heap.size w w'

theorem drawFigureLog_any (A : Option Addr) (n c : Nat) (w : World) (hn : n ≤ 4611686018427387904) (hB : Bytes w w.heap.size A n) :
    Calls Try.prog 7 #[.slice A n c] w (OneF FigN w) := by
  go_enter Try.func7, Try.ntmps7
  go_wp2_with fail
  have hW0 : Below w.heap.size w (w.alloc (.cells #[.int .i64 0, .int .i64 0] 25)) := (Below.refl _ w).alloc (Nat.le_refl _) _
  refine (from_any A n c _ hn (hB.later hW0)).mono ?_
  rintro e w1 ⟨b, rfl, hb, hS1, hl1⟩
  go_wp2_with fail
  refine (figDraw_any A n c b _ hS1).mono ?_
  rintro e w2 ⟨a, s, rfl, h1, hS2, hd2⟩
  obtain ⟨k, os, rfl⟩ := Gr.of_below (hl1.trans (hd2.below hb hl1.size))
  clear hS1 hS2 hd2 hl1 hW0
  go_wp2_with fail
  ((try simp only [Exit.inBlock, Exit.then]); refine bodyPost_ret (v := .agg #[.int .i64 a, .int .i64 s]) (by simp [results, Try.results7, go_sem]) rfl ?_)
  exact ⟨a, s, rfl, h1, Gr.below (by repeat (first | with_reducible exact Gr.refl _ | with_reducible refine Gr.alloc ?_ _ | with_reducible refine Gr.gr ?_ _ _ | with_reducible refine Gr.drew ?_ | with_reducible refine Gr.drewN ?_ _))⟩

/-- A term of a fraction, or just beyond. -/
def Term (x : Int) : Prop := 0 ≤ x ∧ x ≤ 1000000001
end Go.Proofs.Ytondomnepipelaa
