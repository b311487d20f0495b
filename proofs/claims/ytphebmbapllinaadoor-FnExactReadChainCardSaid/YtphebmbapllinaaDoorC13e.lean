/- Contracts of chapter 13: chains sorted, in the program; lists of terms put behind one another. -/
import Derived.Test.YtphebmbapllinaaDoorC13d
import Derived.Test.YtphebmbapllinaaDoorC13b
import Derived.Test.YtphebmbapllinaaDoor1A
import Derived.Lib.AppendZeros
namespace Go.Proofs.YtphebmbapllinaaDoor
open Go.RowKit Go.Shelf Go.ChangeShapes Go.WideShapes Go.ChangeAt
set_option linter.unusedVariables false
set_option linter.unusedSimpArgs false

/-- A slice of terms: its address, length and capacity; its terms. -/
abbrev SlT : Type := (Option Addr × Nat × Nat) × List Tm
def slV (p : SlT) : Value := .slice p.1.1 p.1.2.1 p.1.2.2
def catT (ps : List SlT) : List Tm := ps.flatMap fun p => p.2
theorem catT_snoc {ps : List SlT} {k : Nat} {p : SlT} (h : ps[k]? = some p) : catT (ps.take (k + 1)) = catT (ps.take k) ++ p.2 := by
  obtain ⟨h1, e⟩ := List.getElem?_eq_some_iff.1 h
  unfold catT
  rw [List.take_succ_eq_append_getElem h1, e, List.flatMap_append]
  simp
theorem catT_le (ps : List SlT) (k : Nat) : (catT (ps.take k)).length ≤ (catT ps).length := by
  unfold catT
  conv => rhs; rw [← List.take_append_drop k ps, List.flatMap_append, List.length_append]
  omega
/-- What is asked of a slice of terms in a world. -/
structure IsSlT (w : World) (p : SlT) : Prop where
  len : p.2.length = p.1.2.1
  reads : Reads w w.heap.size p.1.1 (tcells p.2)
  nil : p.1.1 = none → p.1.2.2 = 0 ∧ p.1.2.1 = 0
/-- The terms of one kind. -/
theorem wth_app (b : Bool) (l : List Tm) (m : Tm) : wth b (l ++ [m]) = wth b l ++ (if m.2.2 == b then [m] else []) := by
  unfold wth
  rw [List.filter_append]
  congr 1
  cases hc : (m.2.2 == b) <;> simp [List.filter, hc]
end Go.Proofs.YtphebmbapllinaaDoor
