/- Contract of the laws' own comparison of three figures. -/
import Derived.Test.YtdbeedfapkfibaaGreatDoorC02d
import Derived.Test.YtdbeedfapkfibaaGreatDoorMB
namespace Go.Proofs.YtdbeedfapkfibaaGreatDoor
open Go.RowKit
set_option linter.unusedVariables false
set_option linter.unusedSimpArgs false

theorem cm_le (a s b t : Int) (h1 : fg a s = true) (h2 : fg b t = true) (h : 10000 * s + a ≤ 10000 * t + b) : ∃ x : Int, cmR a s b t = (x, 0) ∧ x ≤ 0 := by
  refine ⟨_, cmR_ok a s b t h1 h2, ?_⟩
  unfold cmpI
  split <;> (try split) <;> omega
theorem between_any (a s b t c u : Int) (w : World) (h : btw a s b t c u) :
    Calls Tryz.prog 17 #[.agg #[.int .i64 a, .int .i64 s], .agg #[.int .i64 b, .int .i64 t], .agg #[.int .i64 c, .int .i64 u]] w fun e w' => e = .returned (.bool true) ∧ Gr w w' := by
  obtain ⟨⟨h1, h2, h3⟩, h4, h5⟩ := h
  obtain ⟨x, hx, x0⟩ := cm_le a s b t h1 h2 h4
  obtain ⟨y, hy, y0⟩ := cm_le b t c u h2 h3 h5
  have C1 := Lib.hid (fun W => cmR_impl a s b t W)
  have C2 := Lib.hid (fun W => cmR_impl b t c u W)
  rw [hx] at C1
  rw [hy] at C2
  simp only at C1 C2
  clear h1 h2 h3 h4 h5 hx hy
  go_enter Tryz.func17, Tryz.ntmps17
  go_wp2_with fail
  refine (C1.out _).mono ?_
  rintro e w' ⟨rfl, k, os, rfl⟩
  go_wp2_with fail
  refine (C2.out _).mono ?_
  rintro e w' ⟨rfl, k, os, rfl⟩
  go_wp2_with fail
  go_ret
  exact ⟨rfl, (by repeat (first | with_reducible exact Gr.refl _ | with_reducible refine Gr.alloc ?_ _ | with_reducible refine Gr.gr ?_ _ _ | with_reducible refine Gr.drew ?_ | with_reducible refine Gr.drewN ?_ _))⟩
end Go.Proofs.YtdbeedfapkfibaaGreatDoor
