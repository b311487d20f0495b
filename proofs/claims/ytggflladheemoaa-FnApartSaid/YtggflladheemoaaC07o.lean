/- Contracts of chapter 7: the model's finest step. -/
import Derived.Test.YtggflladheemoaaC07m
import Derived.Test.YtggflladheemoaaC07b
import Derived.Test.YtggflladheemoaaC07c
import Derived.Maps.AppendAt
namespace Go.Proofs.Ytggflladheemoaa
open Go.RowKit
set_option linter.unusedVariables false
set_option linter.unusedSimpArgs false

def stpObj : Obj := .cells #[.int .i64 1, .int .i64 2, .int .i64 5, .int .i64 10, .int .i64 20, .int .i64 50, .int .i64 100, .int .i64 200, .int .i64 500] 2
theorem stpObj_cell (w : World) (i : Nat) (x : Int) (h : usual[i]? = some x) : (w.alloc stpObj).cell? ⟨w.heap.size, i, none⟩ = some (.int .i64 x) := by
  have hi : i < 9 := by
    obtain ⟨hk, -⟩ := List.getElem?_eq_some_iff.1 h
    exact hk
  have hr := cell_of_row (w.alloc stpObj) w.heap.size i _ _ _ (World.alloc_heap_new w stpObj)
  rw [hr]
  rcases (show i = 0 ∨ i = 1 ∨ i = 2 ∨ i = 3 ∨ i = 4 ∨ i = 5 ∨ i = 6 ∨ i = 7 ∨ i = 8 by omega) with rfl | rfl | rfl | rfl | rfl | rfl | rfl | rfl | rfl <;> (simp [usual] at h; subst h; rfl)
theorem find_at {p : Int → Bool} {k : Nat} {x : Int} (h : usual[k]? = some x) (h0 : (usual.take k).find? p = none) :
    (p x = true → usual.find? p = some x) ∧ (p x = false → (usual.take (k + 1)).find? p = none) := by
  obtain ⟨hk, e⟩ := List.getElem?_eq_some_iff.1 h
  have e4 : usual = usual.take k ++ (x :: usual.drop (k + 1)) := by rw [← e, ← List.drop_eq_getElem_cons hk, List.take_append_drop]
  refine ⟨fun hp => ?_, fun hp => ?_⟩
  · rw [e4, List.find?_append, h0]
    simp [hp]
  · rw [List.take_succ_eq_append_getElem hk, e, List.find?_append, h0]
    simp [hp]

end Go.Proofs.Ytggflladheemoaa
