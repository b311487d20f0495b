/- Plain mathematics, merged. -/
import Derived.Test.YtggflladheemoaaRows
import Derived.Test.YtggflladheemoaaMA
import Derived.WalkKit
import Derived.ProofKit
import Derived.OpenShut
import Derived.Outline
import Derived.BigQuiet
import Derived.Deep.QuietTactic
import Derived.Lib.Hide
import Derived.Test.YtggflladheemoaaSA
/- Contracts of the functions of chapter 1 that compute with integers alone, in the program and in the model. -/
namespace Go.Proofs.Ytggflladheemoaa
open Go.RowKit
set_option linter.unusedVariables false
set_option linter.unusedSimpArgs false

theorem grown_drewN {W w : World} (h : Grown W w) (n : Nat) : Grown W (w.drewN n) := h
theorem ret_int {k : IntKind} {a b : Int} (h : a = b) : Ending.returned (.int k a) = .returned (.int k b) := by rw [h]
theorem ret_bool {a b : Bool} (h : a = b) : Ending.returned (.bool a) = .returned (.bool b) := by rw [h]
theorem ret_two {a b c d : Int} (h : a = c) (h' : b = d) : Ending.returned (.tuple #[.int .i64 a, .int .i64 b]) = .returned (.tuple #[.int .i64 c, .int .i64 d]) := by rw [h, h']

theorem in_any (n lo hi : Int) (w : World) :
    Calls Try.prog 49 #[.int .i64 n, .int .i64 lo, .int .i64 hi] w fun e w' => e = .returned (.bool (decide (lo ≤ n ∧ n ≤ hi))) ∧ w = w' := by
  by_cases h1 : lo ≤ n <;> by_cases h2 : n ≤ hi
  all_goals
    go_enter Try.func49, Try.ntmps49
    go_wp2
    go_ret
    exact ⟨by simp [h1, h2], rfl⟩

theorem is_any (n : Int) (w : World) :
    Calls Try.prog 57 #[.int .i64 n] w fun e w' => e = .returned (.bool (vl n)) ∧ w = w' := by
  go_enter Try.func57, Try.ntmps57
  go_wp2_with (go_at_call 49; refine (in_any _ _ _ _).mono ?_; rintro e w' ⟨rfl, rfl⟩)
  go_ret
  exact ⟨by simp [vl], rfl⟩

theorem isValue_any (n : Int) (w : World) :
    Calls Try.prog 69 #[.int .i64 n] w fun e w' => e = .returned (.bool (vl n)) ∧ w = w' := by
  by_cases h1 : -1000000000000 ≤ n <;> by_cases h2 : n ≤ 1000000000000
  all_goals
    go_enter Try.func69, Try.ntmps69
    go_wp2
    go_ret
    exact ⟨by simp [vl, h1, h2], rfl⟩

theorem floor_any (a b : Int) (w : World) (a1 : -4000000000000000000 ≤ a) (a2 : a ≤ 4000000000000000000) (b1 : -4000000000000000000 ≤ b) (b2 : b ≤ 4000000000000000000) (hb : b ≠ 0) :
    Calls Try.prog 84 #[.int .i64 a, .int .i64 b] w fun e w' => e = .returned (.int .i64 (a.fdiv b)) ∧ w = w' := by
  obtain ⟨q1, q2⟩ := tdiv_bd a b 4000000000000000000 a1 a2
  by_cases h1 : a < 0 <;> by_cases h2 : b < 0
  all_goals
    go_enter Try.func84, Try.ntmps84
    go_wp2
    all_goals
      go_ret
      refine ⟨ret_int ?_, rfl⟩
      first
        | exact fl_1 a b h1 h2 (by assumption) _
        | exact fl_2 a b h1 h2 hb (by assumption)
        | exact fl_4 a b h1 h2 (by assumption)
        | exact fl_5 a b h1 h2 (by assumption)
        | exact fl_6 a b h1 h2 hb (by assumption) _
        | exact fd_pos a b h1 h2
        | exact fd_neg a b h1 h2
        | exact fl_3 a b h1 (by assumption)

theorem ceil_any (a b : Int) (w : World) (a1 : -2000000000000000000 ≤ a) (a2 : a ≤ 2000000000000000000) (b1 : -2000000000000000000 ≤ b) (b2 : b ≤ 2000000000000000000) (hb : b ≠ 0) :
    Calls Try.prog 85 #[.int .i64 a, .int .i64 b] w fun e w' => e = .returned (.int .i64 (cd a b)) ∧ w = w' := by
  obtain ⟨q1, q2⟩ := cd_bd a b 2000000000000000000 a1 a2
  go_enter Try.func85, Try.ntmps85
  go_wp2_with (go_at_call 84; refine (floor_any _ _ _ (by omega) (by omega) (by omega) (by omega) hb).mono ?_; rintro e w' ⟨rfl, rfl⟩)
  go_ret
  exact ⟨rfl, rfl⟩

end Go.Proofs.Ytggflladheemoaa

/- Contracts of chapter 1: powers of ten and divisors. -/
namespace Go.Proofs.Ytggflladheemoaa
open Go.RowKit
set_option linter.unusedVariables false
set_option linter.unusedSimpArgs false

theorem max_any (a b : Int) (w : World) :
    Calls Try.prog 66 #[.int .i64 a, .int .i64 b] w fun e w' => e = .returned (.int .i64 (if a < b then b else a)) ∧ w = w' := by
  by_cases h : a < b
  all_goals
    go_enter Try.func66, Try.ntmps66
    go_wp2
    go_ret
    exact ⟨by simp [h], rfl⟩
theorem abs_any (n : Int) (w : World) (h1 : -4000000000000000000 ≤ n) (h2 : n ≤ 4000000000000000000) :
    Calls Try.prog 52 #[.int .i64 n] w fun e w' => e = .returned (.int .i64 n.natAbs) ∧ w = w' := by
  by_cases h : n < 0
  all_goals
    go_enter Try.func52, Try.ntmps52
    go_wp2
    go_ret
    exact ⟨ret_int (by omega), rfl⟩

theorem areDigits_any (d : Int) (w : World) :
    Calls Try.prog 47 #[.int .i64 d] w fun e w' => e = .returned (.bool (decide (1000 ≤ d ∧ d ≤ 9999))) ∧ w = w' := by
  by_cases h1 : 1000 ≤ d <;> by_cases h2 : d ≤ 9999
  all_goals
    go_enter Try.func47, Try.ntmps47
    go_wp2
    go_ret
    exact ⟨ret_bool (by simp [h1, h2]), rfl⟩
theorem distance_any (a b : Int) (w : World) (a1 : -4000000000000000000 ≤ a) (a2 : a ≤ 4000000000000000000) (b1 : -4000000000000000000 ≤ b) (b2 : b ≤ 4000000000000000000) :
    Calls Try.prog 51 #[.int .i64 a, .int .i64 b] w fun e w' => e = .returned (.int .i64 ((a - b).natAbs : Int)) ∧ w = w' := by
  have HM := Lib.hid (fun W => max_any (a - b) (b - a) W)
  have HE := Lib.hid (show (if a - b < b - a then b - a else a - b) = ((a - b).natAbs : Int) by split <;> omega)
  rw [HE.out] at HM
  go_enter Try.func51, Try.ntmps51
  go_wp2_with (go_at_call 66; refine (HM.out _).mono ?_; rintro e w' ⟨rfl, rfl⟩)
  go_ret
  exact ⟨rfl, rfl⟩

theorem i64_bd {z : Int} (hw : (Lit.int .i64 z).wf = true) : -9223372036854775808 ≤ z ∧ z ≤ 9223372036854775807 := by
  simp only [Lit.wf, Bool.and_eq_true, decide_eq_true_eq] at hw
  have h1 : (-9223372036854775808 : Int) ≤ z := hw.1
  have h2 : z ≤ (9223372036854775807 : Int) := hw.2
  omega
end Go.Proofs.Ytggflladheemoaa

/- Contracts of chapter 1: what the public functions return, in the program and in the model. -/
namespace Go.Proofs.Ytggflladheemoaa
open Go.RowKit
set_option linter.unusedVariables false
set_option linter.unusedSimpArgs false

end Go.Proofs.Ytggflladheemoaa

/- Contracts: lists of integers in the law (copied, compared), in the program and in the model (all values). -/
namespace Go.Proofs.Ytggflladheemoaa
open Go.RowKit
set_option linter.unusedVariables false
set_option linter.unusedSimpArgs false

theorem mkInts (n : Nat) (hn : n ≤ 16777216) (w : World) :
    (Instr.makeSlice 30 (.int .i64 (n : Int)) (.int .i64 (n : Int))).run Try.prog w = .ok (.slice (some ⟨w.heap.size, 0, none⟩) n n) (w.alloc (.cells (List.replicate n (vi 0)).toArray 2)) :=
  run_mk (b := 8) Try.underlying30 (by kernel_rfl) rfl (by omega) n hn w

/-- A slice of the call's own was returned, and its cells are these. -/
def MadeS (t : TypeId) (vs : List Value) (w : World) (e : Ending) (w' : World) : Prop :=
  ∃ b : Nat, e = .returned (.slice (some ⟨b, 0, none⟩) vs.length vs.length) ∧ w.heap.size ≤ b ∧ Row w' b t vs ∧ Below w.heap.size w w'

/-- Two slices with the same elements are equal. -/
theorem eqInts_same (A B : Option Addr) (n c d : Nat) (zs : List Int) (w : World) (hn : zs.length = n) (hN : n ≤ 16777216) (hA : Reads w w.heap.size A (zs.map vi)) (hB : Reads w w.heap.size B (zs.map vi)) :
    Calls Try.prog 38 #[.slice A n c, .slice B n d] w fun e w' => e = .returned (.bool true) ∧ Gr w w' := by
  have HL := Lib.hid hn
  clear hn
  go_enter Try.func38, Try.ntmps38
  go_wp2
  go_loopw [5] (fun i wr => ∃ k m : Nat, k ≤ n ∧ i = .int .i64 k ∧ wr = w.drewN m) (fun i _ => n - (intOf i).toNat)
  case atStart => exact ⟨0, 0, by omega, rfl, rfl⟩
  case round =>
    obtain ⟨k, m, hk, rfl, rfl⟩ := hrel
    by_cases hlt : k < n
    · obtain ⟨z, hz⟩ := some_at (l := zs) (k := k) (by rw [HL.out]; exact hlt)
      obtain ⟨g, o, rfl, hg, hc⟩ := hA.at_ (map_at hz)
      obtain ⟨g2, o2, rfl, hg2, hc2⟩ := hB.at_ (map_at hz)
      clear hz
      go_wp2
      go_quiet (fail)
      go_wp2
      go_roundw
      case rel => exact ⟨k + 1, _, by omega, by go_num, rfl⟩
      case measure => simp [intOf]; omega
    · go_wp2
      go_ret
      exact ⟨rfl, (Gr.refl w).drewN m⟩

/-- All elements are values. -/
def allv (zs : List Int) : Bool := zs.all vl
theorem allv_take {zs : List Int} {k : Nat} {z : Int} (h : zs[k]? = some z) (ha : allv (zs.take k) = true) (hz : vl z = true) : allv (zs.take (k + 1)) = true := by
  obtain ⟨hk, e⟩ := List.getElem?_eq_some_iff.1 h
  unfold allv at *
  rw [List.take_succ_eq_append_getElem hk, List.all_append, ha, e]
  simp [hz]
theorem allv_bad {zs : List Int} {k : Nat} {z : Int} (h : zs[k]? = some z) (hz : vl z = false) : allv zs = false := by
  unfold allv
  cases ha : zs.all vl
  · rfl
  · rw [List.all_eq_true] at ha
    rw [ha z (List.mem_of_getElem? h)] at hz; cases hz
theorem allv_at {zs : List Int} {k : Nat} {z : Int} (h : zs[k]? = some z) (ha : allv zs = true) : vl z = true := by
  unfold allv at ha
  rw [List.all_eq_true] at ha
  exact ha z (List.mem_of_getElem? h)

theorem areValues_any (A : Option Addr) (n c : Nat) (zs : List Int) (w : World) (hn : zs.length = n) (hN : n ≤ 16777216) (hA : Reads w w.heap.size A (zs.map vi)) :
    Calls Try.prog 68 #[.slice A n c] w fun e w' => e = .returned (.bool (allv zs)) ∧ w = w' := by
  have HL := Lib.hid hn
  clear hn
  go_enter Try.func68, Try.ntmps68
  go_wp2
  go_loop [7] (fun i => ∃ k : Nat, k ≤ n ∧ i = .int .i64 k ∧ Hid (allv (zs.take k) = true)) (fun i => n - (intOf i).toNat)
  case atStart => exact ⟨0, by omega, rfl, Lib.hid (by simp [allv])⟩
  case round =>
    obtain ⟨k, hk, rfl, ha⟩ := hrel
    by_cases hlt : k < n
    · obtain ⟨z, hz⟩ := some_at (l := zs) (k := k) (by rw [HL.out]; exact hlt)
      obtain ⟨g, o, rfl, hg, hc⟩ := hA.at_ (map_at hz)
      have HZ := Lib.hid hz
      clear hz
      by_cases hv : vl z = true
      · have HV := Lib.hid hv
        clear hv
        go_wp2_with (go_at_call 69; refine (isValue_any _ _).mono ?_; rw [HV.out]; rintro e w' ⟨rfl, rfl⟩)
        go_round
        case rel => exact ⟨k + 1, by omega, by go_num, Lib.hid (allv_take HZ.out ha.out HV.out)⟩
        case measure => simp [intOf]; omega
      · have HV := Lib.hid (show vl z = false by cases h : vl z <;> simp_all)
        clear hv
        go_wp2_with (go_at_call 69; refine (isValue_any _ _).mono ?_; rw [HV.out]; rintro e w' ⟨rfl, rfl⟩)
        go_ret
        exact ⟨ret_bool (allv_bad HZ.out HV.out).symm, rfl⟩
    · have HF := Lib.hid (show zs.take k = zs from List.take_of_length_le (by rw [HL.out]; omega))
      go_wp2
      go_ret
      exact ⟨ret_bool (by rw [← HF.out]; exact ha.out.symm), rfl⟩

end Go.Proofs.Ytggflladheemoaa
