/- Contracts of chapter 10: units of errors, the digits that can be read, needed lengths; the program's table of decades is laid. -/
import Derived.Test.YtefhhigcplemaaaGreatDoorC10b
import Derived.Test.YtefhhigcplemaaaGreatDoorC05c
import Derived.Test.YtefhhigcplemaaaGreatDoor1A
namespace Go.Proofs.YtefhhigcplemaaaGreatDoor
open Go.RowKit Go.Shelf
set_option linter.unusedVariables false
set_option linter.unusedSimpArgs false

theorem logScale_impl (s : Int) (w : World) :
    Calls Tryz.prog 153 #[.int .i64 s] w fun e w' => e = .returned (.bool (lsc s)) ∧ w = w' := by
  have HS := Lib.hid (fun W => isScale_impl s W)
  have HR := Lib.hid (show lsc s = (sc s && decide (s ≠ 5)) from rfl)
  generalize lsc s = R at *
  generalize sc s = x at *
  by_cases h5 : s = 5
  · subst h5
    cases x
    all_goals
      go_enter Tryz.func153, Tryz.ntmps153
      go_wp2_with (go_at_call 155; refine (HS.out _).mono ?_; rintro e w' ⟨rfl, rfl⟩)
      go_ret
      exact ⟨ret_bool (by rw [HR.out]; rfl), rfl⟩
  · cases x
    all_goals
      go_enter Tryz.func153, Tryz.ntmps153
      go_wp2_with (go_at_call 155; refine (HS.out _).mono ?_; rintro e w' ⟨rfl, rfl⟩)
      go_ret
      exact ⟨ret_bool (by rw [HR.out]; simp [h5]), rfl⟩
theorem logScale_spec (s : Int) (w : World) :
    Calls Tryz.prog 158 #[.int .i64 s] w fun e w' => e = .returned (.bool (lsc s)) ∧ w = w' := by
  have HS := Lib.hid (fun W => isScale_spec s W)
  have HR := Lib.hid (show lsc s = (sc s && decide (s ≠ 5)) from rfl)
  generalize lsc s = R at *
  generalize sc s = x at *
  by_cases h5 : s = 5
  · subst h5
    cases x
    all_goals
      go_enter Tryz.func158, Tryz.ntmps158
      go_wp2_with (go_at_call 187; refine (HS.out _).mono ?_; rintro e w' ⟨rfl, rfl⟩)
      go_ret
      exact ⟨ret_bool (by rw [HR.out]; rfl), rfl⟩
  · cases x
    all_goals
      go_enter Tryz.func158, Tryz.ntmps158
      go_wp2_with (go_at_call 187; refine (HS.out _).mono ?_; rintro e w' ⟨rfl, rfl⟩)
      go_ret
      exact ⟨ret_bool (by rw [HR.out]; simp [h5]), rfl⟩

theorem dcs_at10 {w : World} (h : Dcs w) (s : Int) (hs : 0 ≤ s ∧ s ≤ 4) : w.cell? ⟨1, s.toNat, none⟩ = some (.int .i64 (dec s)) ∧ 1 < w.heap.size := by
  have hc := h s.toNat (by omega)
  rw [show ((s.toNat : Nat) : Int) = s by omega] at hc
  exact ⟨hc, World.block_lt_of_cell? w _ hc⟩

end Go.Proofs.YtefhhigcplemaaaGreatDoor
