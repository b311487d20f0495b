/- Contracts: lists of integers in the law (copied, compared), in the program and in the model (all values). -/
import Derived.Test.YtggflladheemoaaSl
import Derived.Test.YtggflladheemoaaC01a
namespace Go.Proofs.Ytggflladheemoaa
open Go.RowKit
set_option linter.unusedVariables false
set_option linter.unusedSimpArgs false

theorem mkInts (n : Nat) (hn : n ≤ 16777216) (w : World) :
    (Instr.makeSlice 30 (.int .i64 (n : Int)) (.int .i64 (n : Int))).run Try.prog w = .ok (.slice (some ⟨w.heap.size, 0, none⟩) n n) (w.alloc (.cells (List.replicate n (vi 0)).toArray 2)) :=
  run_mk (b := 8) Try.underlying30 (by kernel_rfl) rfl (by omega) n hn w

/-- A slice of the call's own was returned, and its cells are these. -/
def MadeS (t : TypeId) (vs : List Value) (w : World) (e : Ending) (w' : World) : Prop :=
  ∃ b : Nat, e = .returned (.slice (some ⟨b, 0, none⟩) vs.length vs.length) ∧ w.heap.size ≤ b ∧ Row w' b t vs ∧ Below w.heap.size w w'

/-- Two slices with the same elements are equal. -/
theorem eqInts_same (A B : Option Addr) (n c d : Nat) (zs : List Int) (w : World) (hn : zs.length = n) (hN : n ≤ 16777216) (hA : Reads w w.heap.size A (zs.map vi)) (hB : Reads w w.heap.size B (zs.map vi)) :
    Calls Try.prog 38 #[.slice A n c, .slice B n d] w fun e w' => e = .returned (.bool true) ∧ Gr w w' := by
  have HL := Lib.hid hn
  clear hn
  go_enter Try.func38, Try.ntmps38
  go_wp2
  go_loopw [5] (fun i wr => ∃ k m : Nat, k ≤ n ∧ i = .int .i64 k ∧ wr = w.drewN m) (fun i _ => n - (intOf i).toNat)
  case atStart => exact ⟨0, 0, by omega, rfl, rfl⟩
  case round =>
    obtain ⟨k, m, hk, rfl, rfl⟩ := hrel
    by_cases hlt : k < n
    · obtain ⟨z, hz⟩ := some_at (l := zs) (k := k) (by rw [HL.out]; exact hlt)
      obtain ⟨g, o, rfl, hg, hc⟩ := hA.at_ (map_at hz)
      obtain ⟨g2, o2, rfl, hg2, hc2⟩ := hB.at_ (map_at hz)
      clear hz
      go_wp2
      go_quiet (fail)
      go_wp2
      go_roundw
      case rel => exact ⟨k + 1, _, by omega, by go_num, rfl⟩
      case measure => simp [intOf]; omega
    · go_wp2
      go_ret
      exact ⟨rfl, (Gr.refl w).drewN m⟩

/-- All elements are values. -/
def allv (zs : List Int) : Bool := zs.all vl
theorem allv_take {zs : List Int} {k : Nat} {z : Int} (h : zs[k]? = some z) (ha : allv (zs.take k) = true) (hz : vl z = true) : allv (zs.take (k + 1)) = true := by
  obtain ⟨hk, e⟩ := List.getElem?_eq_some_iff.1 h
  unfold allv at *
  rw [List.take_succ_eq_append_getElem hk, List.all_append, ha, e]
  simp [hz]
theorem allv_bad {zs : List Int} {k : Nat} {z : Int} (h : zs[k]? = some z) (hz : vl z = false) : allv zs = false := by
  unfold allv
  cases ha : zs.all vl
  · rfl
  · rw [List.all_eq_true] at ha
    rw [ha z (List.mem_of_getElem? h)] at hz; cases hz
theorem allv_at {zs : List Int} {k : Nat} {z : Int} (h : zs[k]? = some z) (ha : allv zs = true) : vl z = true := by
  unfold allv at ha
  rw [List.all_eq_true] at ha
  exact ha z (List.mem_of_getElem? h)

theorem areValues_any (A : Option Addr) (n c : Nat) (zs : List Int) (w : World) (hn : zs.length = n) (hN : n ≤ 16777216) (hA : Reads w w.heap.size A (zs.map vi)) :
    Calls Try.prog 68 #[.slice A n c] w fun e w' => e = .returned (.bool (allv zs)) ∧ w = w' := by
  have HL := Lib.hid hn
  clear hn
  go_enter Try.func68, Try.ntmps68
  go_wp2
  go_loop [7] (fun i => ∃ k : Nat, k ≤ n ∧ i = .int .i64 k ∧ Hid (allv (zs.take k) = true)) (fun i => n - (intOf i).toNat)
  case atStart => exact ⟨0, by omega, rfl, Lib.hid (by simp [allv])⟩
  case round =>
    obtain ⟨k, hk, rfl, ha⟩ := hrel
    by_cases hlt : k < n
    · obtain ⟨z, hz⟩ := some_at (l := zs) (k := k) (by rw [HL.out]; exact hlt)
      obtain ⟨g, o, rfl, hg, hc⟩ := hA.at_ (map_at hz)
      have HZ := Lib.hid hz
      clear hz
      by_cases hv : vl z = true
      · have HV := Lib.hid hv
        clear hv
        go_wp2_with (go_at_call 69; refine (isValue_any _ _).mono ?_; rw [HV.out]; rintro e w' ⟨rfl, rfl⟩)
        go_round
        case rel => exact ⟨k + 1, by omega, by go_num, Lib.hid (allv_take HZ.out ha.out HV.out)⟩
        case measure => simp [intOf]; omega
      · have HV := Lib.hid (show vl z = false by cases h : vl z <;> simp_all)
        clear hv
        go_wp2_with (go_at_call 69; refine (isValue_any _ _).mono ?_; rw [HV.out]; rintro e w' ⟨rfl, rfl⟩)
        go_ret
        exact ⟨ret_bool (allv_bad HZ.out HV.out).symm, rfl⟩
    · have HF := Lib.hid (show zs.take k = zs from List.take_of_length_le (by rw [HL.out]; omega))
      go_wp2
      go_ret
      exact ⟨ret_bool (by rw [← HF.out]; exact ha.out.symm), rfl⟩

end Go.Proofs.Ytggflladheemoaa
