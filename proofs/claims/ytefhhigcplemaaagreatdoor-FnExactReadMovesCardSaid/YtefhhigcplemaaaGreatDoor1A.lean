/- Plain mathematics, merged. -/
import Derived.Test.YtefhhigcplemaaaGreatDoorRows
import Derived.Test.YtefhhigcplemaaaGreatDoorMA
import Derived.WalkKit
import Derived.ProofKit
import Derived.OpenShut
import Derived.Outline
import Derived.BigQuiet
import Derived.Deep.QuietTactic
import Derived.Lib.Hide
import Derived.Test.YtefhhigcplemaaaGreatDoorSA
/- Contracts of the functions of chapter 1 that compute with integers alone, in the program and in the model. -/
namespace Go.Proofs.YtefhhigcplemaaaGreatDoor
open Go.RowKit
set_option linter.unusedVariables false
set_option linter.unusedSimpArgs false

theorem grown_drewN {W w : World} (h : Grown W w) (n : Nat) : Grown W (w.drewN n) := h
theorem ret_int {k : IntKind} {a b : Int} (h : a = b) : Ending.returned (.int k a) = .returned (.int k b) := by rw [h]
theorem ret_bool {a b : Bool} (h : a = b) : Ending.returned (.bool a) = .returned (.bool b) := by rw [h]
theorem ret_two {a b c d : Int} (h : a = c) (h' : b = d) : Ending.returned (.tuple #[.int .i64 a, .int .i64 b]) = .returned (.tuple #[.int .i64 c, .int .i64 d]) := by rw [h, h']

theorem in_any (n lo hi : Int) (w : World) :
    Calls Tryz.prog 144 #[.int .i64 n, .int .i64 lo, .int .i64 hi] w fun e w' => e = .returned (.bool (decide (lo ≤ n ∧ n ≤ hi))) ∧ w = w' := by
  by_cases h1 : lo ≤ n <;> by_cases h2 : n ≤ hi
  all_goals
    go_enter Tryz.func144, Tryz.ntmps144
    go_wp2
    go_ret
    exact ⟨by simp [h1, h2], rfl⟩

theorem isValue_any (n : Int) (w : World) :
    Calls Tryz.prog 150 #[.int .i64 n] w fun e w' => e = .returned (.bool (vl n)) ∧ w = w' := by
  by_cases h1 : -1000000000000 ≤ n <;> by_cases h2 : n ≤ 1000000000000
  all_goals
    go_enter Tryz.func150, Tryz.ntmps150
    go_wp2
    go_ret
    exact ⟨by simp [vl, h1, h2], rfl⟩

theorem quotientDown_any (a b : Int) (w : World) (a1 : -4000000000000000000 ≤ a) (a2 : a ≤ 4000000000000000000) (b1 : -4000000000000000000 ≤ b) (b2 : b ≤ 4000000000000000000) (hb : b ≠ 0) :
    Calls Tryz.prog 157 #[.int .i64 a, .int .i64 b] w fun e w' => e = .returned (.int .i64 (a.fdiv b)) ∧ w = w' := by
  obtain ⟨q1, q2⟩ := tdiv_bd a b 4000000000000000000 a1 a2
  by_cases h1 : a < 0 <;> by_cases h2 : b < 0
  all_goals
    go_enter Tryz.func157, Tryz.ntmps157
    go_wp2
    all_goals
      go_ret
      refine ⟨ret_int ?_, rfl⟩
      first
        | exact fd_neg a b h1 h2
        | exact fd_pos a b h1 h2
        | exact fd_m1 a b (by assumption) h1 h2 hb
        | exact fd_m2 a b (by rw [← tm_emod a b h1]; assumption) h1 h2
        | exact fd_eq0 a b (by assumption)
        | exact fd_eq0 a b (by rw [← tm_emod a b h1]; assumption)

theorem floor_any (a b : Int) (w : World) (a1 : -4000000000000000000 ≤ a) (a2 : a ≤ 4000000000000000000) (b1 : -4000000000000000000 ≤ b) (b2 : b ≤ 4000000000000000000) (hb : b ≠ 0) :
    Calls Tryz.prog 171 #[.int .i64 a, .int .i64 b] w fun e w' => e = .returned (.int .i64 (a.fdiv b)) ∧ w = w' := by
  obtain ⟨q1, q2⟩ := tdiv_bd a b 4000000000000000000 a1 a2
  by_cases h1 : a < 0 <;> by_cases h2 : b < 0
  all_goals
    go_enter Tryz.func171, Tryz.ntmps171
    go_wp2
    all_goals
      go_ret
      refine ⟨ret_int ?_, rfl⟩
      first
        | exact fl_1 a b h1 h2 (by assumption) _
        | exact fl_2 a b h1 h2 hb (by assumption)
        | exact fl_4 a b h1 h2 (by assumption)
        | exact fl_5 a b h1 h2 (by assumption)
        | exact fl_6 a b h1 h2 hb (by assumption) _
        | exact fd_pos a b h1 h2
        | exact fd_neg a b h1 h2
        | exact fl_3 a b h1 (by assumption)

theorem quotientUp_any (a b : Int) (w : World) (a1 : -2000000000000000000 ≤ a) (a2 : a ≤ 2000000000000000000) (b1 : -2000000000000000000 ≤ b) (b2 : b ≤ 2000000000000000000) (hb : b ≠ 0) :
    Calls Tryz.prog 261 #[.int .i64 a, .int .i64 b] w fun e w' => e = .returned (.int .i64 (cd a b)) ∧ w = w' := by
  obtain ⟨q1, q2⟩ := cd_bd a b 2000000000000000000 a1 a2
  go_enter Tryz.func261, Tryz.ntmps261
  go_wp2_with (go_at_call 157; refine (quotientDown_any _ _ _ (by omega) (by omega) (by omega) (by omega) hb).mono ?_; rintro e w' ⟨rfl, rfl⟩)
  go_ret
  exact ⟨rfl, rfl⟩

theorem ceil_any (a b : Int) (w : World) (a1 : -2000000000000000000 ≤ a) (a2 : a ≤ 2000000000000000000) (b1 : -2000000000000000000 ≤ b) (b2 : b ≤ 2000000000000000000) (hb : b ≠ 0) :
    Calls Tryz.prog 201 #[.int .i64 a, .int .i64 b] w fun e w' => e = .returned (.int .i64 (cd a b)) ∧ w = w' := by
  obtain ⟨q1, q2⟩ := cd_bd a b 2000000000000000000 a1 a2
  go_enter Tryz.func201, Tryz.ntmps201
  go_wp2_with (go_at_call 171; refine (floor_any _ _ _ (by omega) (by omega) (by omega) (by omega) hb).mono ?_; rintro e w' ⟨rfl, rfl⟩)
  go_ret
  exact ⟨rfl, rfl⟩

end Go.Proofs.YtefhhigcplemaaaGreatDoor

/- Contracts of chapter 1: powers of ten and divisors. -/
namespace Go.Proofs.YtefhhigcplemaaaGreatDoor
open Go.RowKit
set_option linter.unusedVariables false
set_option linter.unusedSimpArgs false

theorem max_any (a b : Int) (w : World) :
    Calls Tryz.prog 188 #[.int .i64 a, .int .i64 b] w fun e w' => e = .returned (.int .i64 (if a < b then b else a)) ∧ w = w' := by
  by_cases h : a < b
  all_goals
    go_enter Tryz.func188, Tryz.ntmps188
    go_wp2
    go_ret
    exact ⟨by simp [h], rfl⟩
theorem abs_any (n : Int) (w : World) (h1 : -4000000000000000000 ≤ n) (h2 : n ≤ 4000000000000000000) :
    Calls Tryz.prog 76 #[.int .i64 n] w fun e w' => e = .returned (.int .i64 n.natAbs) ∧ w = w' := by
  by_cases h : n < 0
  all_goals
    go_enter Tryz.func76, Tryz.ntmps76
    go_wp2
    go_ret
    exact ⟨ret_int (by omega), rfl⟩

theorem areDigits_any (d : Int) (w : World) :
    Calls Tryz.prog 141 #[.int .i64 d] w fun e w' => e = .returned (.bool (decide (1000 ≤ d ∧ d ≤ 9999))) ∧ w = w' := by
  by_cases h1 : 1000 ≤ d <;> by_cases h2 : d ≤ 9999
  all_goals
    go_enter Tryz.func141, Tryz.ntmps141
    go_wp2
    go_ret
    exact ⟨ret_bool (by simp [h1, h2]), rfl⟩
theorem distance_any (a b : Int) (w : World) (a1 : -4000000000000000000 ≤ a) (a2 : a ≤ 4000000000000000000) (b1 : -4000000000000000000 ≤ b) (b2 : b ≤ 4000000000000000000) :
    Calls Tryz.prog 159 #[.int .i64 a, .int .i64 b] w fun e w' => e = .returned (.int .i64 ((a - b).natAbs : Int)) ∧ w = w' := by
  have HM := Lib.hid (fun W => max_any (a - b) (b - a) W)
  have HE := Lib.hid (show (if a - b < b - a then b - a else a - b) = ((a - b).natAbs : Int) by split <;> omega)
  rw [HE.out] at HM
  go_enter Tryz.func159, Tryz.ntmps159
  go_wp2_with (go_at_call 188; refine (HM.out _).mono ?_; rintro e w' ⟨rfl, rfl⟩)
  go_ret
  exact ⟨rfl, rfl⟩

theorem i64_bd {z : Int} (hw : (Lit.int .i64 z).wf = true) : -9223372036854775808 ≤ z ∧ z ≤ 9223372036854775807 := by
  simp only [Lit.wf, Bool.and_eq_true, decide_eq_true_eq] at hw
  have h1 : (-9223372036854775808 : Int) ≤ z := hw.1
  have h2 : z ≤ (9223372036854775807 : Int) := hw.2
  omega
end Go.Proofs.YtefhhigcplemaaaGreatDoor

/- Contracts of chapter 1: what the public functions return, in the program and in the model. -/
namespace Go.Proofs.YtefhhigcplemaaaGreatDoor
open Go.RowKit
set_option linter.unusedVariables false
set_option linter.unusedSimpArgs false

end Go.Proofs.YtefhhigcplemaaaGreatDoor

/- Contracts: lists of integers in the law (copied, compared), in the program and in the model (all values). -/
namespace Go.Proofs.YtefhhigcplemaaaGreatDoor
open Go.RowKit
set_option linter.unusedVariables false
set_option linter.unusedSimpArgs false

theorem mkInts (n : Nat) (hn : n ≤ 16777216) (w : World) :
    (Instr.makeSlice 24 (.int .i64 (n : Int)) (.int .i64 (n : Int))).run Tryz.prog w = .ok (.slice (some ⟨w.heap.size, 0, none⟩) n n) (w.alloc (.cells (List.replicate n (vi 0)).toArray 2)) :=
  run_mk (b := 8) Tryz.underlying24 (by kernel_rfl) rfl (by omega) n hn w

/-- A slice of the call's own was returned, and its cells are these. -/
def MadeS (t : TypeId) (vs : List Value) (w : World) (e : Ending) (w' : World) : Prop :=
  ∃ b : Nat, e = .returned (.slice (some ⟨b, 0, none⟩) vs.length vs.length) ∧ w.heap.size ≤ b ∧ Row w' b t vs ∧ Below w.heap.size w w'

/-- All elements are values. -/
def allv (zs : List Int) : Bool := zs.all vl
theorem allv_take {zs : List Int} {k : Nat} {z : Int} (h : zs[k]? = some z) (ha : allv (zs.take k) = true) (hz : vl z = true) : allv (zs.take (k + 1)) = true := by
  obtain ⟨hk, e⟩ := List.getElem?_eq_some_iff.1 h
  unfold allv at *
  rw [List.take_succ_eq_append_getElem hk, List.all_append, ha, e]
  simp [hz]
theorem allv_bad {zs : List Int} {k : Nat} {z : Int} (h : zs[k]? = some z) (hz : vl z = false) : allv zs = false := by
  unfold allv
  cases ha : zs.all vl
  · rfl
  · rw [List.all_eq_true] at ha
    rw [ha z (List.mem_of_getElem? h)] at hz; cases hz
theorem allv_at {zs : List Int} {k : Nat} {z : Int} (h : zs[k]? = some z) (ha : allv zs = true) : vl z = true := by
  unfold allv at ha
  rw [List.all_eq_true] at ha
  exact ha z (List.mem_of_getElem? h)

end Go.Proofs.YtefhhigcplemaaaGreatDoor
