/- Contracts of chapter 11: the model's search for the nearest figure. -/
import Derived.Test.YtefhhigcplemaaaDoorC11d
import Derived.Test.YtefhhigcplemaaaDoor1A
import Derived.Test.YtefhhigcplemaaaDoorMm
namespace Go.Proofs.YtefhhigcplemaaaDoor
open Go.RowKit
set_option linter.unusedVariables false
set_option linter.unusedSimpArgs false
attribute [local go_sem high] run_imin run_imax

/-- A position is reached. -/
def rchd (f : Nat → Int) (p : Int) (falls : Bool) (i : Nat) : Bool := if falls then decide (f i ≤ p) else decide (p ≤ f i)
theorem rchd_up {f : Nat → Int} {p : Int} {a b : Nat} {falls : Bool} (hm : ∀ i j, a ≤ i → i < j → j < b → if falls then f j < f i else f i < f j) {i j : Nat} (h1 : a ≤ i) (h2 : i ≤ j) (h3 : j < b) (h : rchd f p falls i = true) : rchd f p falls j = true := by
  rcases (show i = j ∨ i < j by omega) with rfl | g
  · exact h
  · have := hm i j h1 g h3
    unfold rchd at *
    cases falls <;> simp at * <;> omega
theorem rchd_lo {f : Nat → Int} {p : Int} {falls : Bool} {i : Nat} (h : rchd f p falls i = false) : if falls then p < f i else f i < p := by
  unfold rchd at h
  cases falls <;> simp at * <;> omega
theorem rchd_hi {f : Nat → Int} {p : Int} {falls : Bool} {i : Nat} (h : rchd f p falls i = true) : if falls then f i ≤ p else p ≤ f i := by
  unfold rchd at h
  cases falls <;> simp at * <;> omega
/-- The best of the first k numbers from st on. -/
def Bst (f : Nat → Int) (p : Int) (st k m : Nat) : Prop := st ≤ m ∧ m < st + k ∧ (∀ j, st ≤ j → j < st + k → gap p (f m) ≤ gap p (f j)) ∧ ∀ j, st ≤ j → j < m → gap p (f m) < gap p (f j)
theorem Bst.one (f : Nat → Int) (p : Int) (st : Nat) : Bst f p st 1 st := ⟨by omega, by omega, fun j h1 h2 => by rw [show j = st by omega]; exact Int.le_refl _, fun j h1 h2 => by omega⟩
theorem Bst.keep {f : Nat → Int} {p : Int} {st k m : Nat} (h : Bst f p st k m) (hg : gap p (f m) ≤ gap p (f (st + k))) : Bst f p st (k + 1) m :=
  ⟨h.1, by have := h.2.1; omega, fun j h1 h2 => by
    rcases (show j < st + k ∨ j = st + k by omega) with g | rfl
    · exact h.2.2.1 j h1 g
    · exact hg, h.2.2.2⟩
theorem Bst.new {f : Nat → Int} {p : Int} {st k m : Nat} (h : Bst f p st k m) (hg : gap p (f (st + k)) < gap p (f m)) : Bst f p st (k + 1) (st + k) :=
  ⟨by omega, by omega, fun j h1 h2 => by
    rcases (show j < st + k ∨ j = st + k by omega) with g | rfl
    · have := h.2.2.1 j h1 g; omega
    · exact Int.le_refl _, fun j h1 h2 => by have := h.2.2.1 j h1 (by omega); omega⟩

end Go.Proofs.YtefhhigcplemaaaDoor
