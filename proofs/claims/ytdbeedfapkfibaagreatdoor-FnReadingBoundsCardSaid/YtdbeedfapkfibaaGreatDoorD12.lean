/- Draws of chapter 5: scales, figures for a scale, lengths, names. -/
import Derived.Test.YtdbeedfapkfibaaGreatDoorDA
import Derived.Test.YtdbeedfapkfibaaGreatDoorD5
import Derived.Test.YtdbeedfapkfibaaGreatDoorD7
import Derived.Test.YtdbeedfapkfibaaGreatDoorC05e
namespace Go.Proofs.YtdbeedfapkfibaaGreatDoor
open Go.RowKit
set_option linter.unusedVariables false
set_option linter.unusedSimpArgs false

/-- A drawn scale, a drawn length. -/
def ScaN (x : Int) : Prop := -1 ≤ x ∧ x ≤ 6
def LenN (x : Int) : Prop := 0 ≤ x ∧ x ≤ 100001

theorem div29 (x : Int) (h1 : 0 ≤ x) (h2 : x ≤ 29) : 0 ≤ x.tdiv 29 ∧ x.tdiv 29 ≤ 1 := by
  rw [Int.tdiv_eq_ediv_of_nonneg h1]
  omega

theorem drawLength_any (A : Option Addr) (n c b : Nat) (w : World) (hS : Src A n c b w) :
    Calls Tryz.prog 55 #[.pointer (some ⟨b, 0, none⟩)] w (Got LenN A n c b w) := by
  have hlt := hS.lt
  go_enter Tryz.func55, Tryz.ntmps55
  go_wp2_with fail
  refine (next_any A n c b _ _ hS).mono ?_
  rintro e w1 ⟨x, rfl, x0, x1, -, hS1, hd1⟩
  have x1 := x1 (by omega)
  go_wp2_with fail
  refine (pick_any LenN A n c b _ 8 8 _ (hS1.alloc _) (by have := hS1.lt; omega) (by omega) (by omega) (allP_alloc LenN w1 _ _ _ [25000, 12500, 1 + x, 25000, 1, 100000, 100001, 0] rfl rfl (by simp [LenN]; omega))).mono ?_
  rintro e w2 ⟨y, rfl, hy, hS2, hd2⟩
  go_wp2_with fail
  go_ret
  exact ⟨y, rfl, hy, hS2, (hd1.alloc _).trans hd2⟩

/-- A drawn scale alone, with a figure, with a figure and a length, with two figures and a length. -/
def ScaF (w : World) (e : Ending) (w' : World) : Prop := ∃ s a t : Int, e = .returned (.tuple #[.int .i64 s, .agg #[.int .i64 a, .int .i64 t]]) ∧ ScaN s ∧ FigN a t ∧ Below w.heap.size w w'
def ScaFL (w : World) (e : Ending) (w' : World) : Prop := ∃ s a t l : Int, e = .returned (.tuple #[.int .i64 s, .agg #[.int .i64 a, .int .i64 t], .int .i64 l]) ∧ ScaN s ∧ FigN a t ∧ LenN l ∧ Below w.heap.size w w'
def ScaFFL (w : World) (e : Ending) (w' : World) : Prop := ∃ s a t b u l : Int, e = .returned (.tuple #[.int .i64 s, .agg #[.int .i64 a, .int .i64 t], .agg #[.int .i64 b, .int .i64 u], .int .i64 l]) ∧ ScaN s ∧ FigN a t ∧ FigN b u ∧ LenN l ∧ Below w.heap.size w w'

end Go.Proofs.YtdbeedfapkfibaaGreatDoor
