/- Contracts of chapter 4: spans of products, quotients and powers, in the program and in the model. -/
import Derived.Test.YtefhhigcplemaaaGreatDoorC04d
import Derived.Test.YtefhhigcplemaaaGreatDoorC02d
import Derived.Test.YtefhhigcplemaaaGreatDoor3A
namespace Go.Proofs.YtefhhigcplemaaaGreatDoor
open Go.RowKit Go.Shelf
set_option linter.unusedVariables false
set_option linter.unusedSimpArgs false

theorem fg_two (a s b t : Int) : ((fg a s && fg b t) = true ∧ fg a s = true ∧ fg b t = true) ∨ ((fg a s && fg b t) = false ∧ (fg a s = false ∨ (fg a s = true ∧ fg b t = false))) := by
  cases fg a s <;> cases fg b t <;> simp
/-- The logarithm of a valid figure is a valid interval; so are sums and differences of two. -/
theorem flg_iv (a s : Int) (h : fg a s = true) : (flg a s).1 < (flg a s).2 := by
  have := flg_width a s h
  omega
theorem iv_sum (a s b t : Int) (h1 : fg a s = true) (h2 : fg b t = true) : iv ((flg a s).1 + (flg b t).1) ((flg a s).2 + (flg b t).2) = true := by
  have b1 := flg_bd a s h1
  have b2 := flg_bd b t h2
  have w1 := flg_iv a s h1
  have w2 := flg_iv b t h2
  exact (iv_iff _ _).2 (by omega)
theorem iv_dif (a s b t : Int) (h1 : fg a s = true) (h2 : fg b t = true) : iv ((flg a s).1 - (flg b t).2) ((flg a s).2 - (flg b t).1) = true := by
  have b1 := flg_bd a s h1
  have b2 := flg_bd b t h2
  have w1 := flg_iv a s h1
  have w2 := flg_iv b t h2
  exact (iv_iff _ _).2 (by omega)

end Go.Proofs.YtefhhigcplemaaaGreatDoor
