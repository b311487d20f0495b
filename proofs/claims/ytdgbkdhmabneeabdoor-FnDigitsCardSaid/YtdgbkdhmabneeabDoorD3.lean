/- Draws of chapter 1: exponents, numbers to count, pairs with a common divisor. -/
import Derived.Test.YtdgbkdhmabneeabDoorD2
namespace Go.Proofs.YtdgbkdhmabneeabDoor
open Go.RowKit
set_option linter.unusedVariables false
set_option linter.unusedSimpArgs false

/-- One drawn number of a kind. -/
def One (P : Int → Prop) (w : World) (e : Ending) (w' : World) : Prop := ∃ x : Int, e = .returned (.int .i64 x) ∧ P x ∧ Below w.heap.size w w'

theorem drawPower_any (A : Option Addr) (n c : Nat) (w : World) (hn : n ≤ 4611686018427387904) (hB : Bytes w w.heap.size A n) :
    Calls Tryd.prog 8 #[.slice A n c] w (One (fun x => -1 ≤ x ∧ x ≤ 14) w) := by
  go_enter Tryd.func8, Tryd.ntmps8
  go_wp2_with fail
  refine (from_any A n c w hn hB).mono ?_
  rintro e w1 ⟨b, rfl, hb, hS1, hl1⟩
  go_wp2_with fail
  refine (next_any A n c b _ _ hS1).mono ?_
  rintro e w2 ⟨x, rfl, h0, h1, -, hS2, hd2⟩
  have h2 := h1 (by omega)
  clear h1
  go_wp2_with fail
  go_ret
  exact ⟨x - 1, rfl, ⟨by omega, by omega⟩, hl1.trans (hd2.below hb hl1.size)⟩

theorem drawCount_any (A : Option Addr) (n c : Nat) (w : World) (hn : n ≤ 4611686018427387904) (hB : Bytes w w.heap.size A n) :
    Calls Tryd.prog 11 #[.slice A n c] w (One Near w) := by
  go_enter Tryd.func11, Tryd.ntmps11
  go_wp2_with fail
  refine (from_any A n c w hn hB).mono ?_
  rintro e w1 ⟨b, rfl, hb, hS1, hl1⟩
  go_wp2_with fail
  refine (next_any A n c b _ _ hS1).mono ?_
  rintro e w2 ⟨x, rfl, h0, h1, -, hS2, hd2⟩
  have h2 := h1 (by omega)
  clear h1
  go_wp2_with fail
  refine (pick_any Near A n c b _ 9 9 _ (hS2.alloc _) (by have := hS2.lt; omega) (by omega) (by omega) (allP_alloc Near w2 _ _ _ [0, 9, 10, 99, 100, x, 1000000000000, 1000000000001, -1] rfl rfl (by simp [Near]; omega))).mono ?_
  rintro e w3 ⟨u, rfl, hu, hS3, hd3⟩
  go_wp2_with fail
  go_ret
  exact ⟨u, rfl, hu, hl1.trans (((hd2.alloc _).trans hd3).below hb hl1.size)⟩

theorem mul_bd (k y : Int) (k1 : 1 ≤ k) (k2 : k ≤ 40) (y1 : -100 ≤ y) (y2 : y ≤ 100) : -4000 ≤ k * y ∧ k * y ≤ 4000 := by
  have h1 : 0 ≤ k * (y + 100) := Int.mul_nonneg (by omega) (by omega)
  have h2 : 0 ≤ k * (100 - y) := Int.mul_nonneg (by omega) (by omega)
  rw [Int.mul_add] at h1
  rw [Int.mul_sub] at h2
  omega

theorem drawCommon_any (A : Option Addr) (n c : Nat) (w : World) (hn : n ≤ 4611686018427387904) (hB : Bytes w w.heap.size A n) :
    Calls Tryd.prog 14 #[.slice A n c] w (Two Near w) := by
  go_enter Tryd.func14, Tryd.ntmps14
  go_wp2_with fail
  refine (from_any A n c w hn hB).mono ?_
  rintro e w1 ⟨b, rfl, hb, hS1, hl1⟩
  go_wp2_with fail
  refine (next_any A n c b _ _ hS1).mono ?_
  rintro e w2 ⟨x, rfl, x0, x1, -, hS2, hd2⟩
  have x2 := x1 (by omega)
  clear x1
  go_wp2_with fail
  refine (next_any A n c b _ _ hS2).mono ?_
  rintro e w3 ⟨y, rfl, y0, y1, -, hS3, hd3⟩
  have y2 := y1 (by omega)
  clear y1
  obtain ⟨m1, m2⟩ := mul_bd (1 + x) (y - 100) (by omega) (by omega) (by omega) (by omega)
  go_wp2_with fail
  refine (next_any A n c b _ _ hS3).mono ?_
  rintro e w4 ⟨z, rfl, z0, z1, -, hS4, hd4⟩
  have z2 := z1 (by omega)
  clear z1
  obtain ⟨m3, m4⟩ := mul_bd (1 + x) (z - 100) (by omega) (by omega) (by omega) (by omega)
  go_wp2_with fail
  refine (drawValue_any A n c b _ hS4).mono ?_
  rintro e w5 ⟨v, rfl, hv, hS5, hd5⟩
  go_wp2_with fail
  refine (pick_any Near A n c b _ 3 3 _ (hS5.alloc _) (by have := hS5.lt; omega) (by omega) (by omega) (allP_alloc Near w5 _ _ _ [(1 + x) * (z - 100), v, 0] rfl rfl (by unfold Near at *; simp; omega))).mono ?_
  rintro e w6 ⟨u, rfl, hu, hS6, hd6⟩
  go_wp2_with fail
  go_ret2
  exact ⟨(1 + x) * (y - 100), u, rfl, by unfold Near; omega, hu, hl1.trans ((((hd2.trans (hd3.trans (hd4.trans hd5))).alloc _).trans hd6).below hb hl1.size)⟩
end Go.Proofs.YtdgbkdhmabneeabDoor
