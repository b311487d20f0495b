/- Contracts of chapter 8: ticks by falling heights; whether a tick is apart from those that have been kept. -/
import Derived.Test.Ytphebmbapllinaa8B
import Derived.Test.YtphebmbapllinaaC08g
import Derived.Test.YtphebmbapllinaaMC
namespace Go.Proofs.Ytphebmbapllinaa
open Go.RowKit Go.Shelf
set_option linter.unusedVariables false
set_option linter.unusedSimpArgs false

theorem th_at {zs : List P3} {k : Nat} (h : k < zs.length) : ∃ za zb, zs[k]? = some (za, zb, tkH zs k) := by
  obtain ⟨⟨za, zb, zc⟩, hz⟩ := some_at h
  exact ⟨za, zb, by rw [tkH_at hz]; exact hz⟩
abbrev natI (L : List Nat) : List Int := L.map fun (i : Nat) => (i : Int)
theorem natI_mem {L : List Nat} {y : Int} (h : y ∈ natI L) : ∃ j, j ∈ L ∧ y = (j : Int) := by
  obtain ⟨j, hj, rfl⟩ := List.mem_map.1 h
  exact ⟨j, hj, rfl⟩
def bfZ (zs : List P3) (a b : Int) : Bool := bfH zs a.toNat b.toNat
theorem byH_ins {zs : List P3} (ha : allH zs = true) (k : Nat) : insB (bfZ zs) (k : Int) (natI (byH zs k)) = natI (byH zs (k + 1)) := by
  rw [byH_succ ha]
  exact insB_map (fun (i : Nat) => (i : Int)) (bfH zs) (bfZ zs) k (byH zs k) (fun y _ => rfl)
end Go.Proofs.Ytphebmbapllinaa
