/- Plain mathematics, merged. -/
import Derived.Test.YtphebmbapllinaaDoor2A
import Derived.Test.YtphebmbapllinaaDoorMA
import Derived.IntWalk
import Derived.Deep.RegionHeld3
import Derived.RangeFuncNested
import Derived.RangeFuncFrom
import Derived.RangeFuncBound
import Derived.RangeFuncCalls
import Derived.RangeFuncLeaves
import Derived.Shelf.Abstract
import Derived.Shelf.RegionOpen
import Derived.WalkKit
import Derived.OwnWalkIn
import Derived.TacticsInMore
import Derived.LoopNIn
import Derived.LoopIn
/- Contracts of chapter 3: intervals, in the program, in the model and in the law. -/
namespace Go.Proofs.YtphebmbapllinaaDoor
open Go.RowKit
set_option linter.unusedVariables false
set_option linter.unusedSimpArgs false

theorem mul_lim (a n : Int) (a1 : -1000000000000 ≤ a) (a2 : a ≤ 1000000000000) (n1 : -12 ≤ n) (n2 : n ≤ 12) : -12000000000000 ≤ a * n ∧ a * n ≤ 12000000000000 := by
  have hn : n = -12 ∨ n = -11 ∨ n = -10 ∨ n = -9 ∨ n = -8 ∨ n = -7 ∨ n = -6 ∨ n = -5 ∨ n = -4 ∨ n = -3 ∨ n = -2 ∨ n = -1 ∨ n = 0 ∨ n = 1 ∨ n = 2 ∨ n = 3 ∨ n = 4 ∨ n = 5 ∨ n = 6 ∨ n = 7 ∨ n = 8 ∨ n = 9 ∨ n = 10 ∨ n = 11 ∨ n = 12 := by omega
  rcases hn with h | h | h | h | h | h | h | h | h | h | h | h | h | h | h | h | h | h | h | h | h | h | h | h | h <;> subst h <;> omega

/-- The bounds of an interval times n, in the order of numbers. -/
def tms (a b n : Int) : Int × Int := if n < 0 then (b * n, a * n) else (a * n, b * n)
theorem tms_neg (a b n : Int) (h : n < 0) : tms a b n = (b * n, a * n) := if_pos h
theorem tms_pos (a b n : Int) (h : 0 ≤ n) : tms a b n = (a * n, b * n) := if_neg (by omega)

theorem tms_one (a b : Int) : (tms a b (-1)).1 = -b ∧ (tms a b (-1)).2 = -a := by
  rw [tms_neg a b (-1) (by omega)]
  exact ⟨by simp, by simp⟩

end Go.Proofs.YtphebmbapllinaaDoor

/- Contracts of chapter 3: what the public functions of intervals return, in the program and in the model. -/
namespace Go.Proofs.YtphebmbapllinaaDoor
open Go.RowKit
set_option linter.unusedVariables false
set_option linter.unusedSimpArgs false

theorem iv_two (a b c d : Int) : ((iv a b && iv c d) = true ∧ iv a b = true ∧ iv c d = true) ∨ ((iv a b && iv c d) = false ∧ (iv a b = false ∨ (iv a b = true ∧ iv c d = false))) := by
  cases iv a b <;> cases iv c d <;> simp

theorem ret_three {a b c d e f : Int} (h : a = d) (h' : b = e) (h'' : c = f) : Ending.returned (.tuple #[.int .i64 a, .int .i64 b, .int .i64 c]) = .returned (.tuple #[.int .i64 d, .int .i64 e, .int .i64 f]) := by rw [h, h', h'']

end Go.Proofs.YtphebmbapllinaaDoor

/- Contracts of chapter 3: an interval times a fraction. -/
namespace Go.Proofs.YtphebmbapllinaaDoor
open Go.RowKit
set_option linter.unusedVariables false
set_option linter.unusedSimpArgs false

theorem scl_bd (a b n d : Int) (a1 : -1000000000000 ≤ a) (a2 : a ≤ 1000000000000) (b1 : -1000000000000 ≤ b) (b2 : b ≤ 1000000000000) (n1 : -12 ≤ n) (n2 : n ≤ 12) :
    -12000000000000 ≤ (tms a b n).1 ∧ (tms a b n).1 ≤ 12000000000000 ∧ -12000000000000 ≤ (tms a b n).2 ∧ (tms a b n).2 ≤ 12000000000000 := by
  have p := mul_lim a n a1 a2 n1 n2
  have q := mul_lim b n b1 b2 n1 n2
  by_cases h : n < 0
  · rw [tms_neg a b n h]; simp only; omega
  · rw [tms_pos a b n (by omega)]; simp only; omega
theorem scl_tms (a b n d : Int) : scl a b n d = ((tms a b n).1.fdiv d, cd (tms a b n).2 d) := by
  by_cases h : n < 0
  · rw [tms_neg a b n h, scl_neg a b n d h]
  · rw [tms_pos a b n (by omega), scl_pos a b n d (by omega)]

theorem sc_cases (a b n d : Int) : (iv a b = false) ∨ (iv a b = true ∧ (n < -12 ∨ (-12 ≤ n ∧ 12 < n) ∨ (-12 ≤ n ∧ n ≤ 12 ∧ d < 1) ∨ (-12 ≤ n ∧ n ≤ 12 ∧ 1 ≤ d ∧ 12 < d)) ∧ ¬ ((-12 ≤ n ∧ n ≤ 12) ∧ (1 ≤ d ∧ d ≤ 12))) ∨ (iv a b = true ∧ (-12 ≤ n ∧ n ≤ 12) ∧ (1 ≤ d ∧ d ≤ 12)) := by
  cases h : iv a b
  · exact .inl rfl
  · right
    by_cases hc : (-12 ≤ n ∧ n ≤ 12) ∧ (1 ≤ d ∧ d ≤ 12)
    · exact .inr ⟨rfl, hc⟩
    · exact .inl ⟨rfl, by omega, hc⟩

/-- A world that has grown from one with two new blocks: what the walk asks of it. -/
theorem at2 {w w1 : World} {x y p q : Value} {t u : TypeId} {k : Nat} {os : Array Obj} (hg : Gr (gr ((w.alloc (.cells #[x, y] t)).alloc (.cells #[p, q] u)) k os) w1) :
    Gr w w1 ∧ w.heap.size < w1.heap.size ∧ w.heap.size + 1 < w1.heap.size ∧ w1.cell? ⟨w.heap.size + 1, 0, none⟩ = some p ∧ w1.cell? ⟨w.heap.size + 1, 1, none⟩ = some q ∧ (∀ i, w1.frozen? ⟨w.heap.size + 1, i, none⟩ = false) := by
  obtain ⟨k', os', rfl⟩ := hg
  refine ⟨(by repeat (first | with_reducible exact Gr.refl _ | with_reducible refine Gr.alloc ?_ _ | with_reducible refine Gr.gr ?_ _ _ | with_reducible refine Gr.drew ?_ | with_reducible refine Gr.drewN ?_ _)), ?_, ?_, ?_, ?_, ?_⟩
  · simp [gr_size]; omega
  · simp [gr_size]; omega
  · simp [gr_size, go_sem]
  · simp [gr_size, go_sem]
  · intro i; simp [gr_size, go_sem]

theorem scl_x (a b n d x y : Int) (ab : a ≤ b) (hx : a * n = x) (hy : b * n = y) : (x < y → scl a b n d = (x.fdiv d, cd y d)) ∧ (x = y → scl a b n d = (x.fdiv d, cd x d)) ∧ (y < x → scl a b n d = (y.fdiv d, cd x d)) := by
  by_cases h : n < 0
  · have := Int.mul_le_mul_of_nonpos_right ab (show n ≤ 0 by omega)
    rw [scl_neg a b n d h, hx, hy]
    exact ⟨fun _ => by omega, fun e => by rw [e], fun _ => rfl⟩
  · have := Int.mul_le_mul_of_nonneg_right ab (show 0 ≤ n by omega)
    rw [scl_pos a b n d (by omega), hx, hy]
    exact ⟨fun _ => rfl, fun e => by rw [e], fun _ => by omega⟩

end Go.Proofs.YtphebmbapllinaaDoor

/- Contracts of chapter 3: a step of squaring, the iterator over the bits, and the number that they spell. -/
namespace Go.Proofs.YtphebmbapllinaaDoor
open Go.RowKit Go.Shelf
set_option linter.unusedVariables false
set_option linter.unusedSimpArgs false
attribute [local go_sem] Oper.semAt_some

theorem cell_of_box_b {W : World} {B : Nat} {v : Value} {t : TypeId} (h : W.heap[B]? = some (.cells #[v] t (0, 0))) : W.cell? ⟨B, 0, none⟩ = some v ∧ W.frozen? ⟨B, 0, none⟩ = false := by
  constructor <;> simp [World.cell?, World.frozen?, h]
theorem cell_new_b (W : World) (v : Value) (t : TypeId) : (W.alloc (.cells #[v] t)).cell? ⟨W.heap.size, 0, none⟩ = some v ∧ (W.alloc (.cells #[v] t)).frozen? ⟨W.heap.size, 0, none⟩ = false :=
  cell_of_box_b (World.alloc_heap_new W _)

end Go.Proofs.YtphebmbapllinaaDoor

/- Contracts of chapter 3: logarithms of numbers and of figures, in the program and in the model. -/
namespace Go.Proofs.YtphebmbapllinaaDoor
open Go.RowKit
set_option linter.unusedVariables false
set_option linter.unusedSimpArgs false

end Go.Proofs.YtphebmbapllinaaDoor
