/- Draws of chapter 2: figures, pairs of figures, terms of fractions. -/
import Derived.Test.YtgadkpkpdpphbaaDoorD3
import Derived.Deep.RegionHeld3
import Derived.RegionTactic
import Derived.BigRegion
import Derived.Test.YtgadkpkpdpphbaaDoorMm
import Derived.Test.YtgadkpkpdpphbaaDoorGr
import Derived.IntWalk
namespace Go.Proofs.YtgadkpkpdpphbaaDoor
open Go.RowKit
set_option linter.unusedVariables false
set_option linter.unusedSimpArgs false

attribute [local go_sem high] run_imin run_imax

theorem Blk.dr {w w' : World} {b g : Nat} {t : TypeId} {cs : Array Value} (h : Blk w g t cs) (hd : Dr b w w') (hg : g ≠ b) : Blk w' g t cs := (hd.block g h.lt hg).trans h
theorem Src.far {A : Option Addr} {n c b : Nat} {w : World} (h : Src A n c b w) {a : Addr} (ha : b < a.block) (x : Value) : Src A n c b (w.setCell a x) := by
  obtain ⟨p, s, hp, hn, hs, hb, hB⟩ := h
  exact ⟨p, s, hp, hn, hs, (heap_setCell_other w a b x (by omega)).trans hb, hB.keep fun k hk => heap_setCell_other w a k x (by omega)⟩
theorem Dr.src {A : Option Addr} {n c b : Nat} {w w' : World} (h : Src A n c b w) (o : Obj) : Src A n c b (w.alloc o) := h.alloc o


/-- A drawn figure of a kind. -/
def GotF (P : Int → Int → Prop) (A : Option Addr) (n c b : Nat) (w : World) (e : Ending) (w' : World) : Prop :=
  ∃ d t : Int, e = .returned (.agg #[.int .i64 d, .int .i64 t]) ∧ P d t ∧ Src A n c b w' ∧ Dr b w w'
def FigV (d t : Int) : Prop := (1000 ≤ d ∧ d ≤ 9999) ∧ -3 ≤ t ∧ t ≤ 3
def FigN (d t : Int) : Prop := (999 ≤ d ∧ d ≤ 10000) ∧ -31 ≤ t ∧ t ≤ 31

theorem valid_any (A : Option Addr) (n c b : Nat) (w : World) (hS : Src A n c b w) :
    Calls Tryd.prog 119 #[.pointer (some ⟨b, 0, none⟩)] w (GotF FigV A n c b w) := by
  have hlt := hS.lt
  go_enter Tryd.func119, Tryd.ntmps119
  go_wp2_with fail
  have T0 := Blk.new w 27 #[.int .i64 0, .int .i64 0]
  refine (next_any A n c b _ _ (hS.alloc _)).mono ?_
  rintro e w1 ⟨x1, rfl, a1, b1, -, hS1, hd1⟩
  have b1 := b1 (by omega)
  go_wp2_with fail
  refine (next_any A n c b _ _ hS1).mono ?_
  rintro e w2 ⟨x2, rfl, a2, b2, -, hS2, hd2⟩
  have b2 := b2 (by omega)
  go_wp2_with fail
  refine (next_any A n c b _ _ hS2).mono ?_
  rintro e w3 ⟨x3, rfl, a3, b3, -, hS3, hd3⟩
  have b3 := b3 (by omega)
  go_wp2_with fail
  refine (next_any A n c b _ _ hS3).mono ?_
  rintro e w4 ⟨x4, rfl, a4, b4, -, hS4, hd4⟩
  have b4 := b4 (by omega)
  go_wp2_with fail
  refine (pick_any (fun x => 1000 ≤ x ∧ x ≤ 9999) A n c b _ 4 4 _ (hS4.alloc _) (by have := hS4.lt; omega) (by omega) (by omega) (allP_alloc (fun x => 1000 ≤ x ∧ x ≤ 9999) w4 _ _ _ [1000 + x1, 1000 + x2, 100 * (10 + x3), 1000 * (1 + x4)] rfl rfl (by simp; omega))).mono ?_
  rintro e w5 ⟨x5, rfl, ⟨a5, b5⟩, hS5, hd5⟩
  go_wp2_with fail
  refine (next_any A n c b _ _ hS5).mono ?_
  rintro e w6 ⟨x6, rfl, a6, b6, -, hS6, hd6⟩
  have b6 := b6 (by omega)
  have T := ((((hd1.trans (hd2.trans (hd3.trans hd4))).alloc (.cells #[.int .i64 (1000 + x1), .int .i64 (1000 + x2), .int .i64 (100 * (10 + x3)), .int .i64 (1000 * (1 + x4))] 2)).trans hd5).trans hd6)
  have hT := ((Dr.refl b w).alloc (.cells #[.int .i64 0, .int .i64 0] 27)).trans T
  obtain ⟨c0, c1, f0⟩ := (T0.dr T (by omega)).two
  clear T0 T hd1 hd2 hd3 hd4 hd5 hd6 hS1 hS2 hS3 hS4 hS5 a1 b1 a2 b2 a3 b3 a4 b4
  go_wp2_with fail
  ((try simp only [Exit.inBlock, Exit.then]); refine bodyPost_ret (v := .agg #[.int .i64 x5, .int .i64 (x6 - 3)]) (by simp [results, Tryd.results119, go_sem, c0, c1, World.cell?_setCell_same']) rfl ?_)
  exact ⟨x5, x6 - 3, rfl, ⟨⟨a5, b5⟩, by omega, by omega⟩, (hS6.far (by exact hlt) _).far (by exact hlt) _, (hT.setCell (.inr (Nat.le_refl _)) _).setCell (.inr (Nat.le_refl _)) _⟩

theorem figDraw_any (A : Option Addr) (n c b : Nat) (w : World) (hS : Src A n c b w) :
    Calls Tryd.prog 97 #[.pointer (some ⟨b, 0, none⟩)] w (GotF FigN A n c b w) := by
  have hlt := hS.lt
  go_enter Tryd.func97, Tryd.ntmps97
  go_wp2_with fail
  have R0 := Blk.new w 27 #[.int .i64 0, .int .i64 0]
  refine (valid_any A n c b _ (hS.alloc _)).mono ?_
  rintro e w1 ⟨d, t, rfl, ⟨⟨d1, d2⟩, t1, t2⟩, hS1, hd1⟩
  have R1 := R0.dr hd1 (by omega)
  have F1 := Blk.new w1 27 #[.int .i64 d, .int .i64 t]
  have l1 := hS1.lt
  have r1 := R1.lt
  have hT1 : Dr b w (w1.alloc (.cells #[.int .i64 d, .int .i64 t] 27)) := (((Dr.refl b w).alloc _).trans hd1).alloc _
  have R1' := R1.alloc (.cells #[.int .i64 d, .int .i64 t] 27)
  go_wp2_with fail
  refine (next_any A n c b _ _ (hS1.alloc _)).mono ?_
  rintro e w2 ⟨x, rfl, x0, x1, -, hS2, hd2⟩
  have x1 := x1 (by omega)
  have R2 := R1'.dr hd2 (by omega)
  have F2 := F1.dr hd2 (by omega)
  have hT2 := hT1.trans hd2
  have l2 := hS2.lt
  have s2 : w1.heap.size < w2.heap.size := F2.lt
  clear R0 R1 R1' F1 hd1 hd2 hT1 hS1
  have hx : x = 0 ∨ (x = 1 ∧ ((1 : Int) == 0) = false) ∨ (((x : Int) == 0) = false ∧ ((x : Int) == 1) = false) := by
    by_cases h0 : x = 0
    · exact .inl h0
    · by_cases h1 : x = 1
      · exact .inr (.inl ⟨h1, rfl⟩)
      · exact .inr (.inr ⟨by simp [h0], by simp [h1]⟩)
  rcases hx with rfl | ⟨rfl, hb1⟩ | ⟨hb0, hb1⟩
  · clear x0 x1
    go_wp2_with fail
    refine (pick_any (fun x => 999 ≤ x ∧ x ≤ 10000) A n c b _ 4 4 _ (hS2.alloc _) (by omega) (by omega) (by omega) (allP_alloc (fun x => 999 ≤ x ∧ x ≤ 10000) w2 _ _ _ [999, 1000, 9999, 10000] rfl rfl (by simp))).mono ?_
    rintro e w3 ⟨y, rfl, ⟨y1, y2⟩, hS3, hd3⟩
    have hT3 := (hT2.alloc (.cells #[.int .i64 999, .int .i64 1000, .int .i64 9999, .int .i64 10000] 2)).trans hd3
    obtain ⟨k0, k1, kf⟩ := ((F2.alloc _).dr hd3 (by omega)).two
    obtain ⟨c0, c1, f0⟩ := ((R2.alloc _).dr hd3 (by omega)).two
    have ne1 : w.heap.size ≠ w1.heap.size := by omega
    have ne2 : w1.heap.size ≠ w.heap.size := by omega
    clear R2 F2 hT2 hd3 hS2
    go_wp2_with fail
    ((try simp only [Exit.inBlock, Exit.then]); refine bodyPost_ret (v := .agg #[.int .i64 y, .int .i64 t]) (by simp [results, Tryd.results97, go_sem, c0, c1, World.cell?_setCell_same']) rfl ?_)
    exact ⟨y, t, rfl, ⟨⟨y1, y2⟩, by omega, by omega⟩, ((hS3.far (by exact l1) _).far (by exact hlt) _).far (by exact hlt) _, ((hT3.setCell (.inr (Nat.le_of_lt r1)) _).setCell (.inr (Nat.le_refl _)) _).setCell (.inr (Nat.le_refl _)) _⟩
  · clear x0 x1
    go_wp2_with fail
    refine (pick_any (fun x => -31 ≤ x ∧ x ≤ 31) A n c b _ 4 4 _ (hS2.alloc _) (by omega) (by omega) (by omega) (allP_alloc (fun x => -31 ≤ x ∧ x ≤ 31) w2 _ _ _ [-30, 30, 31, -31] rfl rfl (by simp))).mono ?_
    rintro e w3 ⟨y, rfl, ⟨y1, y2⟩, hS3, hd3⟩
    have hT3 := (hT2.alloc (.cells #[.int .i64 (-30), .int .i64 30, .int .i64 31, .int .i64 (-31)] 2)).trans hd3
    obtain ⟨k0, k1, kf⟩ := ((F2.alloc _).dr hd3 (by omega)).two
    obtain ⟨c0, c1, f0⟩ := ((R2.alloc _).dr hd3 (by omega)).two
    have ne1 : w.heap.size ≠ w1.heap.size := by omega
    have ne2 : w1.heap.size ≠ w.heap.size := by omega
    clear R2 F2 hT2 hd3 hS2
    go_wp2_with fail
    ((try simp only [Exit.inBlock, Exit.then]); refine bodyPost_ret (v := .agg #[.int .i64 d, .int .i64 y]) (by simp [results, Tryd.results97, go_sem, c0, c1, World.cell?_setCell_same']) rfl ?_)
    exact ⟨d, y, rfl, ⟨⟨by omega, by omega⟩, y1, y2⟩, ((hS3.far (by exact l1) _).far (by exact hlt) _).far (by exact hlt) _, ((hT3.setCell (.inr (Nat.le_of_lt r1)) _).setCell (.inr (Nat.le_refl _)) _).setCell (.inr (Nat.le_refl _)) _⟩
  · obtain ⟨k0, k1, kf⟩ := F2.two
    obtain ⟨c0, c1, f0⟩ := R2.two
    clear R2 F2
    go_wp2_with fail
    ((try simp only [Exit.inBlock, Exit.then]); refine bodyPost_ret (v := .agg #[.int .i64 d, .int .i64 t]) (by simp [results, Tryd.results97, go_sem, c0, c1, World.cell?_setCell_same']) rfl ?_)
    exact ⟨d, t, rfl, ⟨⟨by omega, by omega⟩, by omega, by omega⟩, (hS2.far (by exact hlt) _).far (by exact hlt) _, (hT2.setCell (.inr (Nat.le_refl _)) _).setCell (.inr (Nat.le_refl _)) _⟩

/-- Two drawn figures. -/
def TwoF (P : Int → Int → Prop) (w : World) (e : Ending) (w' : World) : Prop :=
  ∃ a s b t : Int, e = .returned (.tuple #[.agg #[.int .i64 a, .int .i64 s], .agg #[.int .i64 b, .int .i64 t]]) ∧ P a s ∧ P b t ∧ Below w.heap.size w w'

theorem clampF (x : Int) : 1000 ≤ imax 1000 (imin 9999 x) ∧ imax 1000 (imin 9999 x) ≤ 9999 := by
  have := imin_bd 9999 x
  have := imax_bd 1000 (imin 9999 x)
  omega

/-- One drawn figure. -/
def OneF (P : Int → Int → Prop) (w : World) (e : Ending) (w' : World) : Prop :=
  ∃ a s : Int, e = .returned (.agg #[.int .i64 a, .int .i64 s]) ∧ P a s ∧ Below w.heap.size w w'

/-- A term of a fraction, or just beyond. -/
def Term (x : Int) : Prop := 0 ≤ x ∧ x ≤ 1000000001
end Go.Proofs.YtgadkpkpdpphbaaDoor
