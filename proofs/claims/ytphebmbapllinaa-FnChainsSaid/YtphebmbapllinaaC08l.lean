/- Contracts of chapter 8: which ticks stay, in the program. -/
import Derived.Test.YtphebmbapllinaaC08k
namespace Go.Proofs.Ytphebmbapllinaa
open Go.RowKit Go.Shelf
set_option linter.unusedVariables false
set_option linter.unusedSimpArgs false

theorem ka_cases (zs : List P3) (d : Int) : (tkE zs true ≠ 0 ∧ kaE zs d = tkE zs true ∧ kaL zs d = []) ∨ (tkE zs true = 0 ∧ ¬ (allH zs = true ∧ (0 ≤ d ∧ d ≤ 100000)) ∧ kaE zs d = 2 ∧ kaL zs d = []) ∨
    (tkE zs true = 0 ∧ allH zs = true ∧ (0 ≤ d ∧ d ≤ 100000) ∧ kaE zs d = 0 ∧ kaL zs d = natI (lsS zs.length (kpS zs zs.length (nrD zs d) (byH zs zs.length)))) := by
  by_cases h : tkE zs true = 0
  · by_cases h2 : allH zs = true ∧ (0 ≤ d ∧ d ≤ 100000)
    · have e : kaE zs d = 0 := by unfold kaE; rw [if_pos h, if_pos h2]
      exact .inr (.inr ⟨h, h2.1, h2.2, e, by unfold kaL; rw [if_pos e]⟩)
    · have e : kaE zs d = 2 := by unfold kaE; rw [if_pos h, if_neg h2]
      exact .inr (.inl ⟨h, h2, e, by unfold kaL; rw [if_neg (by omega)]⟩)
  · have e : kaE zs d = tkE zs true := by unfold kaE; rw [if_neg h]
    exact .inl ⟨h, e, by unfold kaL; rw [if_neg (by omega)]⟩
theorem lsS_lt {n k : Nat} {S : Nat → Bool} (h : k ∈ lsS n S) : k < n := List.mem_range.1 (List.mem_filter.1 h).1
theorem lsS_len (n : Nat) (S : Nat → Bool) : (lsS n S).length ≤ n := by
  have := List.length_filter_le S (List.range n)
  unfold lsS
  rw [List.length_range] at this
  exact this
def ltZ (a b : Int) : Bool := decide (a < b)
theorem lsS_insZ (n : Nat) (S : Nat → Bool) (i : Nat) (h : i < n) (hS : S i = false) : insB ltZ (i : Int) (natI (lsS n S)) = natI (lsS n (fun j => S j || j == i)) := by
  rw [← lsS_ins n S i h hS]
  exact insB_map (fun (i : Nat) => (i : Int)) (fun a b => decide (a < b)) ltZ i (lsS n S) (fun y _ => by unfold ltZ; exact decide_eq_decide.2 ⟨fun h => by omega, fun h => by omega⟩)

end Go.Proofs.Ytphebmbapllinaa
