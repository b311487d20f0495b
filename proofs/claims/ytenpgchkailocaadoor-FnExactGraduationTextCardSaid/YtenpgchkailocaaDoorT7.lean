/- Contracts: ListText, in the program and in the model. -/
import Derived.Test.YtenpgchkailocaaDoorT6
namespace Go.Proofs.YtenpgchkailocaaDoor
open Go.RowKit
set_option linter.unusedVariables false
set_option linter.unusedSimpArgs false

/-- The text of a list and its code. -/
def lt0 (zs : List Int) : Bool := allv zs && decide ((zs.length : Int) ≤ 100)
def ltS (zs : List Int) : ByteArray := if lt0 zs = true then (if zs = [] then ⟨#[45]⟩ else jB zs zs.length) else ⟨#[]⟩
def ltC (zs : List Int) : Int := if lt0 zs = true then 0 else 2
theorem lt_no (zs : List Int) (h : lt0 zs = false) : ltS zs = ⟨#[]⟩ ∧ ltC zs = 2 := ⟨if_neg (by rw [h]; simp), if_neg (by rw [h]; simp)⟩
theorem lt_nil (zs : List Int) (h : zs.length = 0) : ltS zs = ⟨#[45]⟩ ∧ ltC zs = 0 ∧ lt0 zs = true := by
  have e := List.length_eq_zero_iff.1 h
  subst e
  exact ⟨rfl, rfl, rfl⟩
theorem lt_ok (zs : List Int) (h : lt0 zs = true) (h1 : 0 < zs.length) : ltS zs = jB zs zs.length ∧ ltC zs = 0 := by
  have hne : zs ≠ [] := by intro e; rw [e] at h1; simp at h1
  exact ⟨by unfold ltS; rw [if_pos h, if_neg hne], if_pos h⟩

def vs (z : Int) : Value := .string (itoaB z)
theorem mkStrs (n : Nat) (hn : n ≤ 16777216) (w : World) :
    (Instr.makeSlice 90 (.int .i64 (n : Int)) (.int .i64 (n : Int))).run Tryd.prog w = .ok (.slice (some ⟨w.heap.size, 0, none⟩) n n) (w.alloc (.cells (List.replicate n (.string ⟨#[]⟩)).toArray 9)) :=
  run_mk (b := 16) Tryd.underlying90 (by kernel_rfl) rfl (by omega) n hn w
theorem itoa_data (z : Int) : (itoaB z).data.toList = Lib.itoa z := rfl

end Go.Proofs.YtenpgchkailocaaDoor
