/- Plain mathematics, merged. -/
import Derived.Test.YtphebmbapllinaaDoorRows
import Derived.Test.YtphebmbapllinaaDoorMA
import Derived.WalkKit
import Derived.ProofKit
import Derived.OpenShut
import Derived.Outline
import Derived.BigQuiet
import Derived.Deep.QuietTactic
import Derived.Lib.Hide
import Derived.Test.YtphebmbapllinaaDoorSA
/- Contracts of the functions of chapter 1 that compute with integers alone, in the program and in the model. -/
namespace Go.Proofs.YtphebmbapllinaaDoor
open Go.RowKit
set_option linter.unusedVariables false
set_option linter.unusedSimpArgs false

theorem grown_drewN {W w : World} (h : Grown W w) (n : Nat) : Grown W (w.drewN n) := h
theorem ret_int {k : IntKind} {a b : Int} (h : a = b) : Ending.returned (.int k a) = .returned (.int k b) := by rw [h]
theorem ret_bool {a b : Bool} (h : a = b) : Ending.returned (.bool a) = .returned (.bool b) := by rw [h]
theorem ret_two {a b c d : Int} (h : a = c) (h' : b = d) : Ending.returned (.tuple #[.int .i64 a, .int .i64 b]) = .returned (.tuple #[.int .i64 c, .int .i64 d]) := by rw [h, h']

theorem in_any (n lo hi : Int) (w : World) :
    Calls Tryd.prog 39 #[.int .i64 n, .int .i64 lo, .int .i64 hi] w fun e w' => e = .returned (.bool (decide (lo ≤ n ∧ n ≤ hi))) ∧ w = w' := by
  by_cases h1 : lo ≤ n <;> by_cases h2 : n ≤ hi
  all_goals
    go_enter Tryd.func39, Tryd.ntmps39
    go_wp2
    go_ret
    exact ⟨by simp [h1, h2], rfl⟩

theorem isValue_any (n : Int) (w : World) :
    Calls Tryd.prog 63 #[.int .i64 n] w fun e w' => e = .returned (.bool (vl n)) ∧ w = w' := by
  by_cases h1 : -1000000000000 ≤ n <;> by_cases h2 : n ≤ 1000000000000
  all_goals
    go_enter Tryd.func63, Tryd.ntmps63
    go_wp2
    go_ret
    exact ⟨by simp [vl, h1, h2], rfl⟩

end Go.Proofs.YtphebmbapllinaaDoor

/- Contracts of chapter 1: powers of ten and divisors. -/
namespace Go.Proofs.YtphebmbapllinaaDoor
open Go.RowKit
set_option linter.unusedVariables false
set_option linter.unusedSimpArgs false

theorem areDigits_any (d : Int) (w : World) :
    Calls Tryd.prog 50 #[.int .i64 d] w fun e w' => e = .returned (.bool (decide (1000 ≤ d ∧ d ≤ 9999))) ∧ w = w' := by
  by_cases h1 : 1000 ≤ d <;> by_cases h2 : d ≤ 9999
  all_goals
    go_enter Tryd.func50, Tryd.ntmps50
    go_wp2
    go_ret
    exact ⟨ret_bool (by simp [h1, h2]), rfl⟩
theorem i64_bd {z : Int} (hw : (Lit.int .i64 z).wf = true) : -9223372036854775808 ≤ z ∧ z ≤ 9223372036854775807 := by
  simp only [Lit.wf, Bool.and_eq_true, decide_eq_true_eq] at hw
  have h1 : (-9223372036854775808 : Int) ≤ z := hw.1
  have h2 : z ≤ (9223372036854775807 : Int) := hw.2
  omega
end Go.Proofs.YtphebmbapllinaaDoor

/- Contracts of chapter 1: what the public functions return, in the program and in the model. -/
namespace Go.Proofs.YtphebmbapllinaaDoor
open Go.RowKit
set_option linter.unusedVariables false
set_option linter.unusedSimpArgs false

end Go.Proofs.YtphebmbapllinaaDoor

/- Contracts: lists of integers in the law (copied, compared), in the program and in the model (all values). -/
namespace Go.Proofs.YtphebmbapllinaaDoor
open Go.RowKit
set_option linter.unusedVariables false
set_option linter.unusedSimpArgs false

theorem mkInts (n : Nat) (hn : n ≤ 16777216) (w : World) :
    (Instr.makeSlice 80 (.int .i64 (n : Int)) (.int .i64 (n : Int))).run Tryd.prog w = .ok (.slice (some ⟨w.heap.size, 0, none⟩) n n) (w.alloc (.cells (List.replicate n (vi 0)).toArray 2)) :=
  run_mk (b := 8) Tryd.underlying80 (by kernel_rfl) rfl (by omega) n hn w

/-- A slice of the call's own was returned, and its cells are these. -/
def MadeS (t : TypeId) (vs : List Value) (w : World) (e : Ending) (w' : World) : Prop :=
  ∃ b : Nat, e = .returned (.slice (some ⟨b, 0, none⟩) vs.length vs.length) ∧ w.heap.size ≤ b ∧ Row w' b t vs ∧ Below w.heap.size w w'

/-- All elements are values. -/
def allv (zs : List Int) : Bool := zs.all vl
theorem allv_take {zs : List Int} {k : Nat} {z : Int} (h : zs[k]? = some z) (ha : allv (zs.take k) = true) (hz : vl z = true) : allv (zs.take (k + 1)) = true := by
  obtain ⟨hk, e⟩ := List.getElem?_eq_some_iff.1 h
  unfold allv at *
  rw [List.take_succ_eq_append_getElem hk, List.all_append, ha, e]
  simp [hz]
theorem allv_bad {zs : List Int} {k : Nat} {z : Int} (h : zs[k]? = some z) (hz : vl z = false) : allv zs = false := by
  unfold allv
  cases ha : zs.all vl
  · rfl
  · rw [List.all_eq_true] at ha
    rw [ha z (List.mem_of_getElem? h)] at hz; cases hz
theorem allv_at {zs : List Int} {k : Nat} {z : Int} (h : zs[k]? = some z) (ha : allv zs = true) : vl z = true := by
  unfold allv at ha
  rw [List.all_eq_true] at ha
  exact ha z (List.mem_of_getElem? h)

end Go.Proofs.YtphebmbapllinaaDoor
