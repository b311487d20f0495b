/- Plain mathematics, merged. -/
import Derived.Test.YtggflladheemoaaDoorC08l
import Derived.BigQuiet
/- Contracts of chapter 8: which ticks stay, in the model. -/
namespace Go.Proofs.YtggflladheemoaaDoor
open Go.RowKit Go.Shelf
set_option linter.unusedVariables false
set_option linter.unusedSimpArgs false

theorem natI_snoc (L : List Nat) (m : Nat) : natI (L ++ [m]) = natI L ++ [(m : Int)] := List.map_append
theorem mkBools (n : Nat) (hn : n ≤ 16777216) (w : World) :
    (Instr.makeSlice 137 (.int .i64 (n : Int)) (.int .i64 (n : Int))).run Tryd.prog w = .ok (.slice (some ⟨w.heap.size, 0, none⟩) n n) (w.alloc (.cells (List.replicate n (.bool false)).toArray 4)) :=
  run_mk (b := 1) Tryd.underlying137 (by kernel_rfl) rfl (by omega) n hn w
/-- A row of flags. -/
def flS (n : Nat) (S : Nat → Bool) : List Value := (List.range n).map fun i => .bool (S i)
theorem flS_none (n : Nat) : flS n (fun _ => false) = List.replicate n (.bool false) := by unfold flS; rw [List.map_const', List.length_range]
theorem flS_at (n : Nat) (S : Nat → Bool) (k : Nat) (h : k < n) : (flS n S)[k]? = some (.bool (S k)) := by unfold flS; rw [List.getElem?_map, List.getElem?_range h]; rfl
theorem flS_set (n : Nat) (S : Nat → Bool) (i : Nat) (h : i < n) : (flS n S).set i (.bool true) = flS n (fun j => S j || j == i) := by
  apply List.ext_getElem?
  intro k
  rw [List.getElem?_set]
  have hl : (flS n S).length = n := by unfold flS; simp
  by_cases hk : i = k
  · subst hk
    rw [if_pos rfl, if_pos (by omega), flS_at _ _ _ h]
    simp
  · rw [if_neg hk]
    by_cases h2 : k < n
    · rw [flS_at _ _ _ h2, flS_at _ _ _ h2, show (k == i) = false by simp; omega, Bool.or_false]
    · rw [List.getElem?_eq_none (by omega), List.getElem?_eq_none (by unfold flS; simp; omega)]

end Go.Proofs.YtggflladheemoaaDoor

/- Contracts of chapter 8: which ticks stay, in the model: every case. -/
namespace Go.Proofs.YtggflladheemoaaDoor
open Go.RowKit Go.Shelf
set_option linter.unusedVariables false
set_option linter.unusedSimpArgs false

end Go.Proofs.YtggflladheemoaaDoor

/- Contracts of chapter 8: which ticks stay, in the program: every case. -/
namespace Go.Proofs.YtggflladheemoaaDoor
open Go.RowKit Go.Shelf
set_option linter.unusedVariables false
set_option linter.unusedSimpArgs false

end Go.Proofs.YtggflladheemoaaDoor
