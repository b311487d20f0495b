/- Contracts of chapter 3: what the public functions of intervals return, in the program and in the model. -/
import Derived.Test.YtggflladheemoaaC03a
import Derived.Test.YtggflladheemoaaC02c
import Derived.Deep.RegionHeld3
namespace Go.Proofs.Ytggflladheemoaa
open Go.RowKit
set_option linter.unusedVariables false
set_option linter.unusedSimpArgs false

theorem iv_two (a b c d : Int) : ((iv a b && iv c d) = true ∧ iv a b = true ∧ iv c d = true) ∨ ((iv a b && iv c d) = false ∧ (iv a b = false ∨ (iv a b = true ∧ iv c d = false))) := by
  cases iv a b <;> cases iv c d <;> simp

theorem ret_three {a b c d e f : Int} (h : a = d) (h' : b = e) (h'' : c = f) : Ending.returned (.tuple #[.int .i64 a, .int .i64 b, .int .i64 c]) = .returned (.tuple #[.int .i64 d, .int .i64 e, .int .i64 f]) := by rw [h, h', h'']

theorem mod_spec (a m : Int) (w : World) (a1 : -1000000000000000 ≤ a) (a2 : a ≤ 1000000000000000) (m1 : 1 ≤ m) (m2 : m ≤ 1000000000000000) :
    Calls Try.prog 87 #[.int .i64 a, .int .i64 m] w fun e w' => e = .returned (.int .i64 (a % m)) ∧ Gr w w' := by
  obtain ⟨t1, t2, t3, t4⟩ := mod_bds a m m1
  by_cases h : 0 ≤ a
  all_goals
    go_enter Try.func87, Try.ntmps87
    go_wp2
    go_ret
    exact ⟨ret_int (by first | exact mod_1 a m | exact mod_2 a m | exact tmod_emod' a m | exact Int.emod_emod _ _), (by repeat (first | with_reducible exact Gr.refl _ | with_reducible refine Gr.alloc ?_ _ | with_reducible refine Gr.gr ?_ _ _ | with_reducible refine Gr.drew ?_ | with_reducible refine Gr.drewN ?_ _))⟩

end Go.Proofs.Ytggflladheemoaa
