/- Draws of chapter 3: intervals, numbers for logarithms, scalings. -/
import Derived.Test.YtdbeedfapkfibaaGreatDoorDA
import Derived.Test.YtdbeedfapkfibaaGreatDoor3A
namespace Go.Proofs.YtdbeedfapkfibaaGreatDoor
open Go.RowKit
set_option linter.unusedVariables false
set_option linter.unusedSimpArgs false

theorem Src.below {A : Option Addr} {n c b : Nat} {w w' : World} (h : Src A n c b w) (hb : Below w.heap.size w w') : Src A n c b w' := by
  have hlt := h.lt
  obtain ⟨p, s, hp, hn, hs, hbk, hB⟩ := h
  exact ⟨p, s, hp, hn, hs, (hb.block b hlt).trans hbk, hB.keep fun k hk => hb.block k (by omega)⟩
theorem Dr.of_below {b : Nat} {w w' : World} (hb : Below w.heap.size w w') : Dr b w w' := ⟨hb.os, hb.tape, hb.output, hb.size, fun k hk _ => hb.block k hk⟩

/-- The bounds of a drawn interval: moderate, or at the limit. -/
def ItvN (l h : Int) : Prop := (-2000000000000 ≤ l ∧ l ≤ 2000000000000) ∧ (-2000000000000 ≤ h ∧ h ≤ 2000000000000)

def LogN (x : Int) : Prop := 0 ≤ x ∧ x ≤ 1000000000
end Go.Proofs.YtdbeedfapkfibaaGreatDoor
