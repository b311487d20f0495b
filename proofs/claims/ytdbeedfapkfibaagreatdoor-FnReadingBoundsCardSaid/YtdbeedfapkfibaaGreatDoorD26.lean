/- Draws of chapter 10: errors, scales of all sizes, what ErrorUnits and LengthFor are asked. -/
import Derived.Test.YtdbeedfapkfibaaGreatDoorD12
import Derived.Test.YtdbeedfapkfibaaGreatDoorC10b
namespace Go.Proofs.YtdbeedfapkfibaaGreatDoor
open Go.RowKit
set_option linter.unusedVariables false
set_option linter.unusedSimpArgs false

/-- Drawn errors. -/
def GotE (A : Option Addr) (n c b : Nat) (w : World) (e : Ending) (w' : World) : Prop :=
  ∃ x y z : Int, e = .returned (.agg #[.int .i64 (x), .int .i64 (y), .int .i64 (z)]) ∧ Src A n c b w' ∧ Dr b w w'
def AnyN (x : Int) : Prop := -10000000 ≤ x ∧ x ≤ 10000000

set_option maxRecDepth 100000 in
set_option maxHeartbeats 4000000 in
theorem drawE_any (A : Option Addr) (n c b : Nat) (w : World) (hS : Src A n c b w) :
    Calls Tryz.prog 38 #[.pointer (some ⟨b, 0, none⟩)] w (GotE A n c b w) := by
  have hlt := hS.lt
  go_enter Tryz.func38, Tryz.ntmps38
  go_wp2_with fail
  have R0 := Blk.new w 31 #[.int .i64 0, .int .i64 0, .int .i64 0]
  refine (next_any A n c b _ _ (hS.alloc _)).mono ?_
  rintro e w1 ⟨x1, rfl, a1, b1, -, hS1, hd1⟩
  go_wp2_with fail
  refine (next_any A n c b _ _ hS1).mono ?_
  rintro e w2 ⟨x2, rfl, a2, b2, -, hS2, hd2⟩
  go_wp2_with fail
  refine (next_any A n c b _ _ hS2).mono ?_
  rintro e w3 ⟨x3, rfl, a3, b3, -, hS3, hd3⟩
  have T := hd1.trans (hd2.trans hd3)
  have R3 := R0.dr T (by omega)
  have hT3 := (((Dr.refl b w).alloc (.cells #[.int .i64 0, .int .i64 0, .int .i64 0] 31)).trans T).alloc (.cells #[.int .i64 x1, .int .i64 x2, .int .i64 x3] 31)
  have E3 := Blk.new w3 31 #[.int .i64 x1, .int .i64 x2, .int .i64 x3]
  have r3 := R3.lt
  have b3' : b < w3.heap.size := hS3.lt
  have R3' := R3.alloc (.cells #[.int .i64 x1, .int .i64 x2, .int .i64 x3] 31)
  clear T R0 R3 hd1 hd2 hd3 hS1 hS2 a1 b1 a2 b2 a3 b3
  go_wp2_with fail
  refine (next_any A n c b _ _ (hS3.alloc _)).mono ?_
  rintro e w4 ⟨q, rfl, q0, q1, -, hS4, hd4⟩
  have R4 := R3'.dr hd4 (by omega)
  have E4 := E3.dr hd4 (by omega)
  have hT4 := hT3.trans hd4
  have ne1 : w.heap.size ≠ w3.heap.size := by omega
  have ne2 : w3.heap.size ≠ w.heap.size := by omega
  have l4 := hS4.lt
  have e4 := E4.lt
  clear R3' E3 hd4 hT3 hS3 q1
  have hq : q = 0 ∨ q = 1 ∨ q = 2 ∨ (((q : Int) == 0) = false ∧ ((q : Int) == 1) = false ∧ ((q : Int) == 2) = false) := by
    by_cases h0 : q = 0
    · exact .inl h0
    · by_cases h1 : q = 1
      · exact .inr (.inl h1)
      · by_cases h2 : q = 2
        · exact .inr (.inr (.inl h2))
        · exact .inr (.inr (.inr ⟨by simp [h0], by simp [h1], by simp [h2]⟩))
  rcases hq with rfl | rfl | rfl | ⟨hb0, hb1, hb2⟩
  · clear q0
    go_wp2_with fail
    refine (pick_any AnyN A n c b _ 3 3 _ (hS4.alloc _) (by omega) (by omega) (by omega) (allP_alloc AnyN w4 _ _ _ [-1, 200, 201] rfl rfl (by simp [AnyN]))).mono ?_
    rintro e w5 ⟨y, rfl, -, hS5, hd5⟩
    have T5 := (Dr.alloc (Dr.refl b w4) (.cells #[.int .i64 (-1), .int .i64 200, .int .i64 201] 2)).trans hd5
    have hT5 := hT4.trans T5
    obtain ⟨k0, k1, k2, kf⟩ := (E4.dr T5 (by omega)).tri
    obtain ⟨r0, r1, r2, rf⟩ := (R4.dr T5 (by omega)).tri
    have lr : w.heap.size < w5.heap.size := by have := T5.size; omega
    have lt5 : w3.heap.size < w5.heap.size := by have := T5.size; omega
    clear R4 E4 hT4 hd5 hS4 T5
    go_wp2_with fail
    ((try simp only [Exit.inBlock, Exit.then]); refine bodyPost_ret (v := .agg #[.int .i64 (x1), .int .i64 (x2), .int .i64 (y)]) (by simp [results, Tryz.results38, go_sem, r0, r1, r2, World.cell?_setCell_same']) rfl ?_)
    exact ⟨x1, x2, y, rfl, (((hS5.far (by exact b3') _).far (by exact hlt) _).far (by exact hlt) _).far (by exact hlt) _, (((hT5.setCell (.inr (Nat.le_of_lt r3)) _).setCell (.inr (Nat.le_refl _)) _).setCell (.inr (Nat.le_refl _)) _).setCell (.inr (Nat.le_refl _)) _⟩
  · clear q0
    go_wp2_with fail
    refine (pick_any AnyN A n c b _ 3 3 _ (hS4.alloc _) (by omega) (by omega) (by omega) (allP_alloc AnyN w4 _ _ _ [-1, 200, 201] rfl rfl (by simp [AnyN]))).mono ?_
    rintro e w5 ⟨y, rfl, -, hS5, hd5⟩
    have T5 := (Dr.alloc (Dr.refl b w4) (.cells #[.int .i64 (-1), .int .i64 200, .int .i64 201] 2)).trans hd5
    have hT5 := hT4.trans T5
    obtain ⟨k0, k1, k2, kf⟩ := (E4.dr T5 (by omega)).tri
    obtain ⟨r0, r1, r2, rf⟩ := (R4.dr T5 (by omega)).tri
    have lr : w.heap.size < w5.heap.size := by have := T5.size; omega
    have lt5 : w3.heap.size < w5.heap.size := by have := T5.size; omega
    clear R4 E4 hT4 hd5 hS4 T5
    go_wp2_with fail
    ((try simp only [Exit.inBlock, Exit.then]); refine bodyPost_ret (v := .agg #[.int .i64 (y), .int .i64 (x2), .int .i64 (x3)]) (by simp [results, Tryz.results38, go_sem, r0, r1, r2, World.cell?_setCell_same']) rfl ?_)
    exact ⟨y, x2, x3, rfl, (((hS5.far (by exact b3') _).far (by exact hlt) _).far (by exact hlt) _).far (by exact hlt) _, (((hT5.setCell (.inr (Nat.le_of_lt r3)) _).setCell (.inr (Nat.le_refl _)) _).setCell (.inr (Nat.le_refl _)) _).setCell (.inr (Nat.le_refl _)) _⟩
  · clear q0
    obtain ⟨k0, k1, k2, kf⟩ := E4.tri
    obtain ⟨r0, r1, r2, rf⟩ := R4.tri
    have lr : w.heap.size < w4.heap.size := by omega
    clear R4 E4
    go_wp2_with fail
    ((try simp only [Exit.inBlock, Exit.then]); refine bodyPost_ret (v := .agg #[.int .i64 (0), .int .i64 (0), .int .i64 (0)]) (by simp [results, Tryz.results38, go_sem, r0, r1, r2, World.cell?_setCell_same']) rfl ?_)
    exact ⟨0, 0, 0, rfl, (((((hS4.far (by exact b3') _).far (by exact b3') _).far (by exact b3') _).far (by exact hlt) _).far (by exact hlt) _).far (by exact hlt) _, (((((hT4.setCell (.inr (Nat.le_of_lt r3)) _).setCell (.inr (Nat.le_of_lt r3)) _).setCell (.inr (Nat.le_of_lt r3)) _).setCell (.inr (Nat.le_refl _)) _).setCell (.inr (Nat.le_refl _)) _).setCell (.inr (Nat.le_refl _)) _⟩
  · clear q0
    obtain ⟨k0, k1, k2, kf⟩ := E4.tri
    obtain ⟨r0, r1, r2, rf⟩ := R4.tri
    have lr : w.heap.size < w4.heap.size := by omega
    clear R4 E4
    go_wp2_with fail
    ((try simp only [Exit.inBlock, Exit.then]); refine bodyPost_ret (v := .agg #[.int .i64 (x1), .int .i64 (x2), .int .i64 (x3)]) (by simp [results, Tryz.results38, go_sem, r0, r1, r2, World.cell?_setCell_same']) rfl ?_)
    exact ⟨x1, x2, x3, rfl, ((hS4.far (by exact hlt) _).far (by exact hlt) _).far (by exact hlt) _, ((hT4.setCell (.inr (Nat.le_refl _)) _).setCell (.inr (Nat.le_refl _)) _).setCell (.inr (Nat.le_refl _)) _⟩

theorem drawScale10_any (A : Option Addr) (n c b : Nat) (w : World) (hS : Src A n c b w) :
    Calls Tryz.prog 54 #[.pointer (some ⟨b, 0, none⟩)] w (Got AnyN A n c b w) := by
  have hlt := hS.lt
  go_enter Tryz.func54, Tryz.ntmps54
  go_wp2_with fail
  refine (next_any A n c b _ _ hS).mono ?_
  rintro e w1 ⟨x, rfl, x0, x1, -, hS1, hd1⟩
  have l1 := hS1.lt
  by_cases h0 : x = 0
  · subst h0
    go_wp2_with fail
    refine (pick_any AnyN A n c b _ 3 3 _ (hS1.alloc _) (by omega) (by omega) (by omega) (allP_alloc AnyN w1 _ _ _ [5, -1, 6] rfl rfl (by simp [AnyN]))).mono ?_
    rintro e w2 ⟨y, rfl, hy, hS2, hd2⟩
    go_wp2_with fail
    go_ret
    exact ⟨y, rfl, hy, hS2, (hd1.alloc _).trans hd2⟩
  · have hb : ((x : Int) == 0) = false := by simp [h0]
    go_wp2_with fail
    refine (next_any A n c b _ _ hS1).mono ?_
    rintro e w2 ⟨y, rfl, y0, y1, -, hS2, hd2⟩
    have y1 := y1 (by omega)
    go_wp2_with fail
    go_ret
    exact ⟨y, rfl, by unfold AnyN; omega, hS2, hd1.trans hd2⟩

/-- A drawn scale, a length and errors. -/
def EuN (w : World) (e : Ending) (w' : World) : Prop := ∃ s l x y z : Int, e = .returned (.tuple #[.int .i64 s, .int .i64 l, .agg #[.int .i64 (x), .int .i64 (y), .int .i64 (z)]]) ∧ LenN l ∧ Below w.heap.size w w'
set_option maxHeartbeats 1000000 in
theorem drawErrorUnits_any (A : Option Addr) (n c : Nat) (w : World) (hn : n ≤ 4611686018427387904) (hB : Bytes w w.heap.size A n) :
    Calls Tryz.prog 29 #[.slice A n c] w (EuN w) := by
  go_enter Tryz.func29, Tryz.ntmps29
  go_wp2_with fail
  have R0 := Blk.new w 31 #[.int .i64 0, .int .i64 0, .int .i64 0]
  have hW0 : Below w.heap.size w (w.alloc (.cells #[.int .i64 0, .int .i64 0, .int .i64 0] 31)) := (Below.refl _ w).alloc (Nat.le_refl _) _
  refine (from_any A n c _ hn (hB.later hW0)).mono ?_
  rintro e w1 ⟨b, rfl, hb, hS1, hl1⟩
  rw [World.size_alloc] at hb
  have R1 : Blk w1 w.heap.size 31 #[.int .i64 0, .int .i64 0, .int .i64 0] := (hl1.block _ R0.lt).trans R0
  have hW1 := hW0.trans (hl1.mono (by simp))
  clear R0 hl1 hW0
  go_wp2_with fail
  refine (drawScale10_any A n c b _ hS1).mono ?_
  rintro e w2 ⟨s, rfl, hs, hS2, hd2⟩
  have R2 := R1.dr hd2 (by omega)
  have hW2 := hW1.trans (hd2.below (by omega) hW1.size)
  clear R1 hd2 hW1 hS1
  go_wp2_with fail
  refine (drawLength_any A n c b _ hS2).mono ?_
  rintro e w3 ⟨l, rfl, hl, hS3, hd3⟩
  have R3 := R2.dr hd3 (by omega)
  have hW3 := hW2.trans (hd3.below (by omega) hW2.size)
  clear R2 hd3 hW2 hS2
  go_wp2_with fail
  refine (drawE_any A n c b _ hS3).mono ?_
  rintro e w4 ⟨x, y, z, rfl, hS4, hd4⟩
  obtain ⟨r0, r1, r2, rf⟩ := (R3.dr hd4 (by omega)).tri
  have lr := (R3.dr hd4 (by omega)).lt
  have hW4 := hW3.trans (hd4.below (by omega) hW3.size)
  clear R3 hd4 hW3 hS3
  go_wp2_with fail
  ((try simp only [Exit.inBlock, Exit.then]); refine bodyPost_ret (v := .tuple #[.int .i64 s, .int .i64 l, .agg #[.int .i64 (x), .int .i64 (y), .int .i64 (z)]]) (by simp [results, Tryz.results29, go_sem, r0, r1, r2, World.cell?_setCell_same']) rfl ?_)
  exact ⟨s, l, x, y, z, rfl, hl, ((hW4.setCell (Nat.le_refl _) _).setCell (Nat.le_refl _) _).setCell (Nat.le_refl _) _⟩

/-- A drawn scale, errors, units. -/
def LfN (w : World) (e : Ending) (w' : World) : Prop := ∃ s x y z u : Int, e = .returned (.tuple #[.int .i64 s, .agg #[.int .i64 (x), .int .i64 (y), .int .i64 (z)], .int .i64 u]) ∧ Below w.heap.size w w'
end Go.Proofs.YtdbeedfapkfibaaGreatDoor
