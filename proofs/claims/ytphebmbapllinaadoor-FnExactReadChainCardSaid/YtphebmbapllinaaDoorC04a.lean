/- Contracts of chapter 4: figures by their numbers, and the search for them, in the program and in the model. -/
import Derived.Test.YtphebmbapllinaaDoor3A
import Derived.Test.YtphebmbapllinaaDoorMB
import Derived.Deep.Draws
import Derived.Deep.QuietTactic
import Derived.Sort.Walk0
import Derived.Shelf.Abstract
import Derived.WalkKit
import Derived.IntWalk
namespace Go.Proofs.YtphebmbapllinaaDoor
open Go.RowKit Go.Shelf
set_option linter.unusedVariables false
set_option linter.unusedSimpArgs false

theorem nfR_at (n : Int) (h : -270000 ≤ n ∧ n ≤ 278999) (i : Int) (hi : i = n + 270000) : nfR n = ((1000 + i.tmod 9000, i.tdiv 9000 - 30), 0) := by
  rw [nfR_ok n h, Int.tmod_eq_emod_of_nonneg (by omega), Int.tdiv_eq_ediv_of_nonneg (by omega)]
  have e1 : n % 9000 = i % 9000 := by omega
  have e2 : n / 9000 = i / 9000 - 30 := by omega
  rw [e1, e2]
end Go.Proofs.YtphebmbapllinaaDoor
