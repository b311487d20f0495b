/- Two lists with the same elements are alike. -/
import Derived.Test.YtggflladheemoaaDl
import Derived.RegionTactic
import Derived.Deep.RegionHeld3
namespace Go.Proofs.Ytggflladheemoaa
open Go.RowKit Go.ChangeShapes Go.WideShapes Go.ChangeAt
set_option linter.unusedVariables false
set_option linter.unusedSimpArgs false

/-- Two slices with the same elements are alike. -/
theorem likeInts_same (A B : Option Addr) (n c d : Nat) (zs : List Int) (w : World) (hn : zs.length = n) (hN : n ≤ 16777216) (hA : Reads w w.heap.size A (zs.map vi)) (hB : Reads w w.heap.size B (zs.map vi)) :
    Calls Try.prog 20 #[.slice A n c, .slice B n d] w fun e w' => e = .returned (.bool true) ∧ Gr w w' := by
  have HL := Lib.hid hn
  clear hn
  go_enter Try.func20, Try.ntmps20
  go_wp2
  go_loopw [5] (fun i wr => ∃ k m : Nat, k ≤ n ∧ i = .int .i64 k ∧ wr = w.drewN m) (fun i _ => n - (intOf i).toNat)
  case atStart => exact ⟨0, 0, by omega, rfl, rfl⟩
  case round =>
    obtain ⟨k, m, hk, rfl, rfl⟩ := hrel
    by_cases hlt : k < n
    · obtain ⟨z, hz⟩ := some_at (l := zs) (k := k) (by rw [HL.out]; exact hlt)
      obtain ⟨g, o, rfl, hg, hc⟩ := hA.at_ (map_at hz)
      obtain ⟨g2, o2, rfl, hg2, hc2⟩ := hB.at_ (map_at hz)
      clear hz
      go_wp2
      go_quiet (fail)
      go_wp2
      go_roundw
      case rel => exact ⟨k + 1, _, by omega, by go_num, rfl⟩
      case measure => simp [intOf]; omega
    · go_wp2
      go_ret
      exact ⟨rfl, (Gr.refl w).drewN m⟩
/-- Whether a number is in a list. -/
theorem hasInt_any (A : Option Addr) (n c : Nat) (zs : List Int) (x : Int) (w : World) (hn : zs.length = n) (hN : n ≤ 16777216) (hA : Reads w w.heap.size A (zs.map vi)) :
    Calls Try.prog 35 #[.slice A n c, .int .i64 x] w fun e w' => e = .returned (.bool (decide (x ∈ zs))) ∧ Gr w w' := by
  have HL := Lib.hid hn
  have HA := Lib.hid hA
  clear hn hA
  go_enter Try.func35, Try.ntmps35
  go_wp2
  go_loopw [5] (fun i wr => ∃ k : Nat, k ≤ n ∧ i = .int .i64 k ∧ Hid (x ∉ zs.take k) ∧ Gr w wr) (fun i _ => n - (intOf i).toNat)
  case atStart => exact ⟨0, by omega, rfl, Lib.hid (by simp), Gr.refl _⟩
  case round =>
    obtain ⟨k, hk, rfl, HX, hG⟩ := hrel
    by_cases hlt : k < n
    · obtain ⟨z, hz⟩ := some_at (l := zs) (k := k) (by rw [HL.out]; exact hlt)
      obtain ⟨g, o, rfl, hg, hc⟩ := (HA.out.gr hG).at_ (map_at hz)
      by_cases hzx : z = x
      · have HR := Lib.hid (show decide (x ∈ zs) = true from decide_eq_true (by rw [← hzx]; exact List.mem_of_getElem? hz))
        subst hzx
        clear hz
        go_wp2
        go_ret
        exact ⟨ret_bool HR.out.symm, hG⟩
      · have hb : (z == x) = false := by simpa using hzx
        have HR := Lib.hid (show x ∉ zs.take (k + 1) by
          obtain ⟨h1, e⟩ := List.getElem?_eq_some_iff.1 hz
          rw [List.take_succ_eq_append_getElem h1, e, List.mem_append, List.mem_singleton]
          intro h
          rcases h with h | h
          · exact HX.out h
          · exact hzx h.symm)
        clear hz
        go_wp2
        go_roundw
        case rel => exact ⟨k + 1, by omega, by go_num, HR, hG⟩
        case measure => simp [intOf]; omega
    · have HR := Lib.hid (show decide (x ∈ zs) = false from decide_eq_false (by have := HX.out; rwa [List.take_of_length_le (by rw [HL.out]; omega)] at this))
      go_wp2
      go_ret
      exact ⟨ret_bool HR.out.symm, hG⟩
end Go.Proofs.Ytggflladheemoaa
