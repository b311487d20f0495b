/- Slices of structs of three integers that a law makes. -/
import Derived.Test.YtdbeedfapkfibaaDoorSA
import Derived.Test.YtdbeedfapkfibaaDoor1A
namespace Go.Proofs.YtdbeedfapkfibaaDoor
open Go.RowKit
set_option linter.unusedVariables false
set_option linter.unusedSimpArgs false

/-- A slice of the call's own was returned, and its elements are these. -/
def Made3 (t : TypeId) (zs : List P3) (w : World) (e : Ending) (w' : World) : Prop :=
  ∃ b : Nat, e = .returned (.slice (some ⟨b, 0, none⟩) zs.length zs.length) ∧ w.heap.size ≤ b ∧ Row w' b t (cells3 zs) ∧ Below w.heap.size w w'

theorem below_grew {B : Nat} {a w : World} (h : Below B a w) (hB : B ≤ w.heap.size) (k : Nat) (os : Array Obj) : Below B a (gr w k os) := h.trans ((Gr.below ⟨k, os, rfl⟩).mono hB)
end Go.Proofs.YtdbeedfapkfibaaDoor
