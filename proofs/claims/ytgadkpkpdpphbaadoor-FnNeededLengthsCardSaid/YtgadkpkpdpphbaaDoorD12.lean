/- Draws of chapter 5: scales, figures for a scale, lengths, names. -/
import Derived.Test.YtgadkpkpdpphbaaDoorD4
import Derived.Test.YtgadkpkpdpphbaaDoorD5
import Derived.Test.YtgadkpkpdpphbaaDoorD7
import Derived.Test.YtgadkpkpdpphbaaDoorC05e
namespace Go.Proofs.YtgadkpkpdpphbaaDoor
open Go.RowKit
set_option linter.unusedVariables false
set_option linter.unusedSimpArgs false

/-- A drawn scale, a drawn length. -/
def ScaN (x : Int) : Prop := -1 ≤ x ∧ x ≤ 6
def LenN (x : Int) : Prop := 0 ≤ x ∧ x ≤ 100001

theorem div29 (x : Int) (h1 : 0 ≤ x) (h2 : x ≤ 29) : 0 ≤ x.tdiv 29 ∧ x.tdiv 29 ≤ 1 := by
  rw [Int.tdiv_eq_ediv_of_nonneg h1]
  omega

theorem drawScl_any (A : Option Addr) (n c b : Nat) (w : World) (hS : Src A n c b w) :
    Calls Tryd.prog 39 #[.pointer (some ⟨b, 0, none⟩)] w (Got ScaN A n c b w) := by
  have hlt := hS.lt
  go_enter Tryd.func39, Tryd.ntmps39
  go_wp2_with fail
  refine (next_any A n c b _ _ hS).mono ?_
  rintro e w1 ⟨x, rfl, x0, x1, -, hS1, hd1⟩
  have x1 := x1 (by omega)
  go_wp2_with fail
  refine (next_any A n c b _ _ hS1).mono ?_
  rintro e w2 ⟨y, rfl, y0, y1, -, hS2, hd2⟩
  have y1 := y1 (by omega)
  obtain ⟨q1, q2⟩ := div29 y y0 (by omega)
  go_wp2_with fail
  refine (next_any A n c b _ _ hS2).mono ?_
  rintro e w3 ⟨z, rfl, z0, z1, -, hS3, hd3⟩
  have z1 := z1 (by omega)
  obtain ⟨r1, r2⟩ := div29 z z0 (by omega)
  have hT := hd1.trans (hd2.trans hd3)
  go_wp2_with fail
  go_ret
  exact ⟨_, rfl, by unfold ScaN; omega, hS3, hT⟩

theorem drawFigure5_any (A : Option Addr) (n c b : Nat) (s : Int) (w : World) (hS : Src A n c b w) :
    Calls Tryd.prog 56 #[.pointer (some ⟨b, 0, none⟩), .int .i64 s] w (GotF FigN A n c b w) := by
  have hlt := hS.lt
  go_enter Tryd.func56, Tryd.ntmps56
  go_wp2_with fail
  have R0 := Blk.new w 27 #[.int .i64 0, .int .i64 0]
  refine (figDraw_any A n c b _ (hS.alloc _)).mono ?_
  rintro e w1 ⟨d, t, rfl, ⟨⟨d1, d2⟩, t1, t2⟩, hS1, hd1⟩
  have RW := R0.dr hd1 (by omega)
  have R1 := RW.alloc (.cells #[.int .i64 d, .int .i64 t] 27)
  have F1 := Blk.new w1 27 #[.int .i64 d, .int .i64 t]
  have l1 := hS1.lt
  have r1 := RW.lt
  have hTW := ((Dr.refl b w).alloc (.cells #[.int .i64 0, .int .i64 0] 27)).trans hd1
  have hT1 : Dr b w (w1.alloc (.cells #[.int .i64 d, .int .i64 t] 27)) := (((Dr.refl b w).alloc _).trans hd1).alloc _
  have ne1 : w.heap.size ≠ w1.heap.size := by omega
  have ne2 : w1.heap.size ≠ w.heap.size := by omega
  clear R0 hd1
  by_cases h5 : s = 5
  · subst h5
    go_wp2_with fail
    refine (next_any A n c b _ _ (hS1.alloc _)).mono ?_
    rintro e w2 ⟨x, rfl, x0, x1, -, hS2, hd2⟩
    have R2 := R1.dr hd2 (by omega)
    have F2 := F1.dr hd2 (by omega)
    have hT2 := hT1.trans hd2
    have l2 := hS2.lt
    clear R1 F1 hd2 hT1 hS1 x1
    obtain ⟨k0, k1, kf⟩ := F2.two
    obtain ⟨c0, c1, f0⟩ := R2.two
    clear R2 F2
    by_cases hx : 0 < x
    · clear x0
      go_wp2_with fail
      ((try simp only [Exit.inBlock, Exit.then]); refine bodyPost_ret (v := .agg #[.int .i64 d, .int .i64 0]) (by simp [results, Tryd.results56, go_sem, c0, c1, World.cell?_setCell_same']) rfl ?_)
      exact ⟨d, 0, rfl, ⟨⟨d1, d2⟩, by omega, by omega⟩, ((hS2.far (by exact l1) _).far (by exact hlt) _).far (by exact hlt) _, ((hT2.setCell (.inr (Nat.le_of_lt r1)) _).setCell (.inr (Nat.le_refl _)) _).setCell (.inr (Nat.le_refl _)) _⟩
    · obtain rfl : x = 0 := by omega
      go_wp2_with fail
      ((try simp only [Exit.inBlock, Exit.then]); refine bodyPost_ret (v := .agg #[.int .i64 d, .int .i64 t]) (by simp [results, Tryd.results56, go_sem, c0, c1, World.cell?_setCell_same']) rfl ?_)
      exact ⟨d, t, rfl, ⟨⟨d1, d2⟩, t1, t2⟩, (hS2.far (by exact hlt) _).far (by exact hlt) _, (hT2.setCell (.inr (Nat.le_refl _)) _).setCell (.inr (Nat.le_refl _)) _⟩
  · have h5 : (s == 5) = false := by simp [h5]
    obtain ⟨c0, c1, f0⟩ := RW.two
    have Q : Blk _ _ _ #[.int .i64 d, .int .i64 t] := ((RW.set 0 (.int .i64 d)).set 1 (.int .i64 t)).alloc (.cells #[.int .i64 d, .int .i64 t] 27)
    obtain ⟨q0, q1, -⟩ := Q.two
    clear R1 F1 RW hT1 Q
    go_wp2_with fail
    ((try simp only [Exit.inBlock, Exit.then]); refine bodyPost_ret (v := .agg #[.int .i64 d, .int .i64 t]) (by simp [results, Tryd.results56, go_sem, q0, q1, World.cell?_setCell_same']) rfl ?_)
    exact ⟨d, t, rfl, ⟨⟨d1, d2⟩, t1, t2⟩, ((hS1.far (by exact hlt) _).far (by exact hlt) _).alloc _, ((hTW.setCell (.inr (Nat.le_refl _)) _).setCell (.inr (Nat.le_refl _)) _).alloc _⟩

theorem drawLength_any (A : Option Addr) (n c b : Nat) (w : World) (hS : Src A n c b w) :
    Calls Tryd.prog 40 #[.pointer (some ⟨b, 0, none⟩)] w (Got LenN A n c b w) := by
  have hlt := hS.lt
  go_enter Tryd.func40, Tryd.ntmps40
  go_wp2_with fail
  refine (next_any A n c b _ _ hS).mono ?_
  rintro e w1 ⟨x, rfl, x0, x1, -, hS1, hd1⟩
  have x1 := x1 (by omega)
  go_wp2_with fail
  refine (pick_any LenN A n c b _ 8 8 _ (hS1.alloc _) (by have := hS1.lt; omega) (by omega) (by omega) (allP_alloc LenN w1 _ _ _ [25000, 12500, 1 + x, 25000, 1, 100000, 100001, 0] rfl rfl (by simp [LenN]; omega))).mono ?_
  rintro e w2 ⟨y, rfl, hy, hS2, hd2⟩
  go_wp2_with fail
  go_ret
  exact ⟨y, rfl, hy, hS2, (hd1.alloc _).trans hd2⟩

/-- A drawn scale alone, with a figure, with a figure and a length, with two figures and a length. -/
def ScaF (w : World) (e : Ending) (w' : World) : Prop := ∃ s a t : Int, e = .returned (.tuple #[.int .i64 s, .agg #[.int .i64 a, .int .i64 t]]) ∧ ScaN s ∧ FigN a t ∧ Below w.heap.size w w'
def ScaFL (w : World) (e : Ending) (w' : World) : Prop := ∃ s a t l : Int, e = .returned (.tuple #[.int .i64 s, .agg #[.int .i64 a, .int .i64 t], .int .i64 l]) ∧ ScaN s ∧ FigN a t ∧ LenN l ∧ Below w.heap.size w w'
def ScaFFL (w : World) (e : Ending) (w' : World) : Prop := ∃ s a t b u l : Int, e = .returned (.tuple #[.int .i64 s, .agg #[.int .i64 a, .int .i64 t], .agg #[.int .i64 b, .int .i64 u], .int .i64 l]) ∧ ScaN s ∧ FigN a t ∧ FigN b u ∧ LenN l ∧ Below w.heap.size w w'

end Go.Proofs.YtgadkpkpdpphbaaDoor
