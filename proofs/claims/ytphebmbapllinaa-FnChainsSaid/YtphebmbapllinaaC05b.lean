/- Contracts of chapter 5: positions, in the program and in the model. -/
import Derived.Test.YtphebmbapllinaaC05a
import Derived.Test.Ytphebmbapllinaa3A
namespace Go.Proofs.Ytphebmbapllinaa
open Go.RowKit
set_option linter.unusedVariables false
set_option linter.unusedSimpArgs false

theorem gr_of_drew (w : World) (k : Nat) (os : Array Obj) : gr w.drew k os = gr w k os := rfl
attribute [local go_sem] gr_of_drew
theorem flg_zero (d : Int) : flg d 0 = (lgb false (d * 100000), lgb true (d * 100000) + 1) := by
  unfold flg
  rw [Int.zero_mul, Int.add_zero, Int.add_zero]
theorem fg_zero {d t : Int} (h : fg d t = true) : fg d 0 = true := (fg_iff d 0).2 ⟨((fg_iff d t).1 h).1, by omega⟩

theorem scl_one (a b k : Int) : scl a b 1 k = (a.fdiv k, cd b k) := by rw [scl_pos a b 1 k (by omega), Int.mul_one, Int.mul_one]

end Go.Proofs.Ytphebmbapllinaa
