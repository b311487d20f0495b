/- Plain mathematics, merged. -/
import Derived.Test.Ytddcdodbmbmdnaa1A
import Derived.Test.YtddcdodbmbmdnaaMA
import Derived.Test.YtddcdodbmbmdnaaGr
import Derived.Deep.RegionHeld3
import Derived.IntWalk
/- Contracts of chapter 2: figures, in the program, in the model and in the law. -/
namespace Go.Proofs.Ytddcdodbmbmdnaa
open Go.RowKit
set_option linter.unusedVariables false
set_option linter.unusedSimpArgs false

/-- A figure and a code, as a result. -/
theorem ret_fig {a b c d e f : Int} (h : a = b) (h1 : c = d) (h2 : e = f) : Ending.returned (.tuple #[.agg #[.int .i64 a, .int .i64 c], .int .i64 e]) = .returned (.tuple #[.agg #[.int .i64 b, .int .i64 d], .int .i64 f]) := by rw [h, h1, h2]
theorem ret_agg {a b c d : Int} (h : a = b) (h1 : c = d) : Ending.returned (.agg #[.int .i64 a, .int .i64 c]) = .returned (.agg #[.int .i64 b, .int .i64 d]) := by rw [h, h1]

end Go.Proofs.Ytddcdodbmbmdnaa

/- A figure is equal to itself. -/
namespace Go.Proofs.Ytddcdodbmbmdnaa
open Go.RowKit
end Go.Proofs.Ytddcdodbmbmdnaa

/- Contracts of chapter 2: fractions rounded to a figure. -/
namespace Go.Proofs.Ytddcdodbmbmdnaa
open Go.RowKit
set_option linter.unusedVariables false
set_option linter.unusedSimpArgs false

end Go.Proofs.Ytddcdodbmbmdnaa

/- Contracts of chapter 2: what the public functions return, in the program and in the model. -/
namespace Go.Proofs.Ytddcdodbmbmdnaa
open Go.RowKit
set_option linter.unusedVariables false
set_option linter.unusedSimpArgs false

/-- Two figures: both valid, or the first or the second not. -/
theorem two_cases (a s b t : Int) : ((fg a s && fg b t) = true ∧ fg a s = true ∧ fg b t = true) ∨ ((fg a s && fg b t) = false ∧ (fg a s = false ∨ (fg a s = true ∧ fg b t = false))) := by
  cases fg a s <;> cases fg b t <;> simp

end Go.Proofs.Ytddcdodbmbmdnaa
