/- Contracts of chapter 7: the model's marks within bounds. -/
import Derived.Test.YtphebmbapllinaaC07d
import Derived.Deep.Onto
namespace Go.Proofs.Ytphebmbapllinaa
open Go.RowKit
set_option linter.unusedVariables false
set_option linter.unusedSimpArgs false

theorem flt_take (p : Int → Bool) {l : List Int} {k : Nat} {x : Int} (h : l[k]? = some x) : (l.take (k + 1)).filter p = (l.take k).filter p ++ (if p x = true then [x] else []) := by
  obtain ⟨hk, e⟩ := List.getElem?_eq_some_iff.1 h
  rw [List.take_succ_eq_append_getElem hk, e, List.filter_append]
  congr 1
  cases hp : p x <;> simp [hp]
theorem flt_len (p : Int → Bool) (l : List Int) (k : Nat) : ((l.take k).filter p).length ≤ l.length := by
  have h1 := List.length_filter_le p (l.take k)
  have h2 := List.length_take_le' k l
  omega
/-- The list that is answered. -/
def moL (zs : List P3) (f t : Int) : List Int := if mrC zs f t = 0 then mrL zs f t else []

end Go.Proofs.Ytphebmbapllinaa
