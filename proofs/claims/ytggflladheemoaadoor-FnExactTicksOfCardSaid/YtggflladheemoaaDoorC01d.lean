/- Contracts: lists of integers in the law (copied, compared), in the program and in the model (all values). -/
import Derived.Test.YtggflladheemoaaDoorSl
import Derived.Test.YtggflladheemoaaDoorC01a
namespace Go.Proofs.YtggflladheemoaaDoor
open Go.RowKit
set_option linter.unusedVariables false
set_option linter.unusedSimpArgs false

theorem mkInts (n : Nat) (hn : n ≤ 16777216) (w : World) :
    (Instr.makeSlice 52 (.int .i64 (n : Int)) (.int .i64 (n : Int))).run Tryd.prog w = .ok (.slice (some ⟨w.heap.size, 0, none⟩) n n) (w.alloc (.cells (List.replicate n (vi 0)).toArray 2)) :=
  run_mk (b := 8) Tryd.underlying52 (by kernel_rfl) rfl (by omega) n hn w

/-- A slice of the call's own was returned, and its cells are these. -/
def MadeS (t : TypeId) (vs : List Value) (w : World) (e : Ending) (w' : World) : Prop :=
  ∃ b : Nat, e = .returned (.slice (some ⟨b, 0, none⟩) vs.length vs.length) ∧ w.heap.size ≤ b ∧ Row w' b t vs ∧ Below w.heap.size w w'

/-- All elements are values. -/
def allv (zs : List Int) : Bool := zs.all vl
theorem allv_take {zs : List Int} {k : Nat} {z : Int} (h : zs[k]? = some z) (ha : allv (zs.take k) = true) (hz : vl z = true) : allv (zs.take (k + 1)) = true := by
  obtain ⟨hk, e⟩ := List.getElem?_eq_some_iff.1 h
  unfold allv at *
  rw [List.take_succ_eq_append_getElem hk, List.all_append, ha, e]
  simp [hz]
theorem allv_bad {zs : List Int} {k : Nat} {z : Int} (h : zs[k]? = some z) (hz : vl z = false) : allv zs = false := by
  unfold allv
  cases ha : zs.all vl
  · rfl
  · rw [List.all_eq_true] at ha
    rw [ha z (List.mem_of_getElem? h)] at hz; cases hz
theorem allv_at {zs : List Int} {k : Nat} {z : Int} (h : zs[k]? = some z) (ha : allv zs = true) : vl z = true := by
  unfold allv at ha
  rw [List.all_eq_true] at ha
  exact ha z (List.mem_of_getElem? h)

end Go.Proofs.YtggflladheemoaaDoor
