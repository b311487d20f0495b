/- Two lists with the same elements are alike. -/
import Derived.Test.YtggflladheemoaaDoorDl
import Derived.RegionTactic
import Derived.Deep.RegionHeld3
namespace Go.Proofs.YtggflladheemoaaDoor
open Go.RowKit Go.ChangeShapes Go.WideShapes Go.ChangeAt
set_option linter.unusedVariables false
set_option linter.unusedSimpArgs false

/-- Two slices with the same elements are alike. -/
theorem likeInts_same (A B : Option Addr) (n c d : Nat) (zs : List Int) (w : World) (hn : zs.length = n) (hN : n ≤ 16777216) (hA : Reads w w.heap.size A (zs.map vi)) (hB : Reads w w.heap.size B (zs.map vi)) :
    Calls Tryd.prog 39 #[.slice A n c, .slice B n d] w fun e w' => e = .returned (.bool true) ∧ Gr w w' := by
  have HL := Lib.hid hn
  clear hn
  go_enter Tryd.func39, Tryd.ntmps39
  go_wp2
  go_loopw [5] (fun i wr => ∃ k m : Nat, k ≤ n ∧ i = .int .i64 k ∧ wr = w.drewN m) (fun i _ => n - (intOf i).toNat)
  case atStart => exact ⟨0, 0, by omega, rfl, rfl⟩
  case round =>
    obtain ⟨k, m, hk, rfl, rfl⟩ := hrel
    by_cases hlt : k < n
    · obtain ⟨z, hz⟩ := some_at (l := zs) (k := k) (by rw [HL.out]; exact hlt)
      obtain ⟨g, o, rfl, hg, hc⟩ := hA.at_ (map_at hz)
      obtain ⟨g2, o2, rfl, hg2, hc2⟩ := hB.at_ (map_at hz)
      clear hz
      go_wp2
      go_quiet (fail)
      go_wp2
      go_roundw
      case rel => exact ⟨k + 1, _, by omega, by go_num, rfl⟩
      case measure => simp [intOf]; omega
    · go_wp2
      go_ret
      exact ⟨rfl, (Gr.refl w).drewN m⟩
end Go.Proofs.YtggflladheemoaaDoor
