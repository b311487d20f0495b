/- Contracts of chapter 7: the model's nearest mark. -/
import Derived.Test.Ytphebmbapllinaa7C
import Derived.Test.Ytphebmbapllinaa1A
namespace Go.Proofs.Ytphebmbapllinaa
open Go.RowKit
set_option linter.unusedVariables false
set_option linter.unusedSimpArgs false

/-- What a walk over all marks needs of them. -/
theorem mks_facts {zs : List P3} (h : gd zs = true) : (mks zs)[0]? = some 1000 ∧ (∀ x ∈ mks zs, 1000 ≤ x ∧ x < 10000) ∧ 1 ≤ (mks zs).length ∧ (mks zs).length ≤ 9000 := by
  obtain ⟨-, h2⟩ := (gd_iff zs).1 h
  obtain ⟨u1, u2⟩ := mks_bd _ _ _ h2
  obtain ⟨l1, l2⟩ := cntM_len _ _ _ h2
  have h0 := mks_head zs h
  obtain ⟨hk, -⟩ := List.getElem?_eq_some_iff.1 h0
  exact ⟨h0, u2, by omega, by omega⟩
theorem nrS_in (m : Int) (l : List Int) (h : ∀ x ∈ l, 1000 ≤ x ∧ x < 10000) : 1000 ≤ nrS m 1000 l ∧ nrS m 1000 l < 10000 := by
  rcases (nrS_spec m l 1000).1 with e | e
  · omega
  · exact h _ e
theorem nrS_take (m : Int) {l : List Int} {k : Nat} {x : Int} (h : l[k]? = some x) : nrS m 1000 (l.take (k + 1)) = if (x - m).natAbs < (nrS m 1000 (l.take k) - m).natAbs then x else nrS m 1000 (l.take k) := by
  obtain ⟨hk, e⟩ := List.getElem?_eq_some_iff.1 h
  rw [List.take_succ_eq_append_getElem hk, e, nrS_snoc]
theorem decb7 (p : Prop) [Decidable p] : decide p = true ∨ decide p = false := by cases decide p <;> simp
def inD (m : Int) : Bool := decide (1000 ≤ m ∧ m ≤ 9999)
def nmV (zs : List P3) (m : Int) : Int := if gd zs = true then if inD m = true then nrM zs m else 0 else 0
def nmE (zs : List P3) (m : Int) : Int := if gd zs = true then if inD m = true then 0 else 2 else 1

end Go.Proofs.Ytphebmbapllinaa
