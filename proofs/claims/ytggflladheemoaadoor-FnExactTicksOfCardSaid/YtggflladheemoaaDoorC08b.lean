/- Contracts of chapter 8: the code of ticks, the nearest one, how many between two bounds. -/
import Derived.Test.YtggflladheemoaaDoorC08a
import Derived.Test.YtggflladheemoaaDoorC01b
import Derived.BigQuiet
namespace Go.Proofs.YtggflladheemoaaDoor
open Go.RowKit
set_option linter.unusedVariables false
set_option linter.unusedSimpArgs false

/-- The answer of the nearest tick, by cases. -/
theorem nt_cases (zs : List P3) (p : Int) : (tkE zs (vl p) ≠ 0 ∧ ntE zs p = tkE zs (vl p) ∧ ntV zs p = 0) ∨ (tkE zs (vl p) = 0 ∧ zs.length = 0 ∧ ntE zs p = 4 ∧ ntV zs p = 0) ∨
    (tkE zs (vl p) = 0 ∧ 0 < zs.length ∧ ntE zs p = 0 ∧ ntV zs p = (argm (tkD zs p) zs.length : Int)) := by
  by_cases h : tkE zs (vl p) = 0
  · by_cases h2 : zs.length = 0
    · have e : ntE zs p = 4 := by unfold ntE; rw [if_pos h, if_pos h2]
      exact .inr (.inl ⟨h, h2, e, by unfold ntV; rw [if_neg (by omega)]⟩)
    · have e : ntE zs p = 0 := by unfold ntE; rw [if_pos h, if_neg h2]
      exact .inr (.inr ⟨h, by omega, e, by unfold ntV; rw [if_pos e]⟩)
  · have e : ntE zs p = tkE zs (vl p) := by unfold ntE; rw [if_neg h]
    exact .inl ⟨h, e, by unfold ntV; rw [if_neg (by omega)]⟩
theorem tkE_zero {zs : List P3} {q : Bool} (h : tkE zs q = 0) : zs.length ≤ 150 ∧ q = true ∧ allP zs = true ∧ tkE zs true = 0 := by
  rcases tkE_cases zs q with ⟨-, e⟩ | ⟨h1, rfl, h3, e⟩ | ⟨-, -, e⟩
  · omega
  · exact ⟨h1, rfl, h3, e⟩
  · omega

end Go.Proofs.YtggflladheemoaaDoor
