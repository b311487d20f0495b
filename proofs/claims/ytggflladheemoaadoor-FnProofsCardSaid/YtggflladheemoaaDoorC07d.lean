/- Contracts of chapter 7: the model's nearest mark. -/
import Derived.Test.YtggflladheemoaaDoorC07c
import Derived.Test.YtggflladheemoaaDoor1A
namespace Go.Proofs.YtggflladheemoaaDoor
open Go.RowKit
set_option linter.unusedVariables false
set_option linter.unusedSimpArgs false

/-- What a walk over all marks needs of them. -/
theorem mks_facts {zs : List P3} (h : gd zs = true) : (mks zs)[0]? = some 1000 ∧ (∀ x ∈ mks zs, 1000 ≤ x ∧ x < 10000) ∧ 1 ≤ (mks zs).length ∧ (mks zs).length ≤ 9000 := by
  obtain ⟨-, h2⟩ := (gd_iff zs).1 h
  obtain ⟨u1, u2⟩ := mks_bd _ _ _ h2
  obtain ⟨l1, l2⟩ := cntM_len _ _ _ h2
  have h0 := mks_head zs h
  obtain ⟨hk, -⟩ := List.getElem?_eq_some_iff.1 h0
  exact ⟨h0, u2, by omega, by omega⟩
theorem nrS_in (m : Int) (l : List Int) (h : ∀ x ∈ l, 1000 ≤ x ∧ x < 10000) : 1000 ≤ nrS m 1000 l ∧ nrS m 1000 l < 10000 := by
  rcases (nrS_spec m l 1000).1 with e | e
  · omega
  · exact h _ e
theorem nrS_take (m : Int) {l : List Int} {k : Nat} {x : Int} (h : l[k]? = some x) : nrS m 1000 (l.take (k + 1)) = if (x - m).natAbs < (nrS m 1000 (l.take k) - m).natAbs then x else nrS m 1000 (l.take k) := by
  obtain ⟨hk, e⟩ := List.getElem?_eq_some_iff.1 h
  rw [List.take_succ_eq_append_getElem hk, e, nrS_snoc]
theorem decb7 (p : Prop) [Decidable p] : decide p = true ∨ decide p = false := by cases decide p <;> simp
def inD (m : Int) : Bool := decide (1000 ≤ m ∧ m ≤ 9999)
def nmV (zs : List P3) (m : Int) : Int := if gd zs = true then if inD m = true then nrM zs m else 0 else 0
def nmE (zs : List P3) (m : Int) : Int := if gd zs = true then if inD m = true then 0 else 2 else 1

/-- The marks of a valid graduation lie in blocks of the call's own, behind a world that has grown. -/
theorem marks_row (A : Option Addr) (n c : Nat) (zs : List P3) (w w1 : World) (hw : Gr w w1) (hn : zs.length = n) (hN : n ≤ 16777216) (hA : Reads w w.heap.size A (cells3 zs)) (hv : gd zs = true) :
    Calls Tryd.prog 92 #[.slice A n c] w1 fun e w2 => ∃ g cp : Nat, e = .returned (.slice (some ⟨g, 0, none⟩) (mks zs).length cp) ∧ g < w2.heap.size ∧ w2.cell? ⟨g, 0, none⟩ = some (vi 1000) ∧ Hid (∀ k x, (mks zs)[k]? = some x → w2.cell? ⟨g, k, none⟩ = some (vi x)) ∧ Hid (Below w.heap.size w w2) := by
  obtain ⟨f0, f1, f2, f3⟩ := mks_facts hv
  refine (marks_spec A n c zs w1 hn hN (hA.gr hw) hv).mono ?_
  rintro e w2 ⟨⟨v, rfl, hown⟩, hb⟩
  obtain ⟨g, cp, rfl, hg1, hg2, hcs⟩ := Lst.form hown (by omega)
  exact ⟨g, cp, rfl, hg2, hcs 0 1000 f0, Lib.hid hcs, Lib.hid (hw.below.trans (hb.mono hw.below.size))⟩

end Go.Proofs.YtggflladheemoaaDoor
