/- Contracts of chapter 5: positions through the kinds of scale, places and distances, in the program and in the model. -/
import Derived.Test.YtefhhigcplemaaaDoorC05b
import Derived.Test.YtefhhigcplemaaaDoorMB
import Derived.Lib.LaidTab
namespace Go.Proofs.YtefhhigcplemaaaDoor
open Go.RowKit
set_option linter.unusedVariables false
set_option linter.unusedSimpArgs false

/-- The table of decades lies as the program's text lays it. -/
def Dcs (w : World) : Prop := ∀ i : Nat, i < 6 → w.cell? ⟨1, i, none⟩ = some (.int .i64 (dec i))
theorem Dcs.gr {w w' : World} (h : Dcs w) (hg : Gr w w') : Dcs w' := by
  obtain ⟨k, os, rfl⟩ := hg
  intro i hi
  have := h i hi
  rw [gr_cell _ _ _ _ _ (World.block_lt_of_cell? w _ this)]
  exact this
theorem dcs_of {w : World} (h : Lib.TabIs Tryd.prog w "loop.example/g00951/impl.scaleDecades" .i64 [1, 2, 3, 1, 1, 1]) : Dcs w := by
  intro i hi
  have := h.cell (g := 1) (by kernel_rfl) i hi
  rw [this]
  rcases (show i = 0 ∨ i = 1 ∨ i = 2 ∨ i = 3 ∨ i = 4 ∨ i = 5 by omega) with rfl | rfl | rfl | rfl | rfl | rfl <;> rfl

theorem printed_0 (w : World) (hD : Dcs w) :
    Calls Tryd.prog 135 #[.int .i64 0] w fun e w' => e = .returned (.iface 183 (.agg #[.int .i64 1])) ∧ w = w' := by
  have c0 := hD 0 (by omega)
  rw [show dec ((0 : Nat) : Int) = 1 from rfl] at c0
  clear hD
  go_enter Tryd.func135, Tryd.ntmps135
  go_wp2
  go_ret
  exact ⟨rfl, rfl⟩

theorem printed_1 (w : World) (hD : Dcs w) :
    Calls Tryd.prog 135 #[.int .i64 1] w fun e w' => e = .returned (.iface 183 (.agg #[.int .i64 2])) ∧ w = w' := by
  have c0 := hD 1 (by omega)
  rw [show dec ((1 : Nat) : Int) = 2 from rfl] at c0
  clear hD
  go_enter Tryd.func135, Tryd.ntmps135
  go_wp2
  go_ret
  exact ⟨rfl, rfl⟩

theorem printed_2 (w : World) (hD : Dcs w) :
    Calls Tryd.prog 135 #[.int .i64 2] w fun e w' => e = .returned (.iface 183 (.agg #[.int .i64 3])) ∧ w = w' := by
  have c0 := hD 2 (by omega)
  rw [show dec ((2 : Nat) : Int) = 3 from rfl] at c0
  clear hD
  go_enter Tryd.func135, Tryd.ntmps135
  go_wp2
  go_ret
  exact ⟨rfl, rfl⟩

theorem printed_3 (w : World) :
    Calls Tryd.prog 135 #[.int .i64 3] w fun e w' => e = .returned (.iface 178 (.agg #[])) ∧ w = w' := by
  go_enter Tryd.func135, Tryd.ntmps135
  go_wp2
  go_ret
  exact ⟨rfl, rfl⟩

theorem printed_4 (w : World) :
    Calls Tryd.prog 135 #[.int .i64 4] w fun e w' => e = .returned (.iface 179 (.agg #[])) ∧ w = w' := by
  go_enter Tryd.func135, Tryd.ntmps135
  go_wp2
  go_ret
  exact ⟨rfl, rfl⟩

theorem printed_5 (w : World) :
    Calls Tryd.prog 135 #[.int .i64 5] w fun e w' => e = .returned (.iface 180 (.agg #[])) ∧ w = w' := by
  go_enter Tryd.func135, Tryd.ntmps135
  go_wp2
  go_ret
  exact ⟨rfl, rfl⟩

theorem ps_ret (a b c : Int) (x : (Int × Int) × Int) (p : Int × Int) (h : x = (p, 0)) (h1 : a = p.1) (h2 : b = p.2) (h3 : c = 0) : Ending.returned (.tuple #[.agg #[.int .i64 a, .int .i64 b], .int .i64 c]) = .returned (.tuple #[.agg #[.int .i64 x.1.1, .int .i64 x.1.2], .int .i64 x.2]) := by rw [h, h1, h2, h3]
theorem ps_no (c : Int) (x : (Int × Int) × Int) (h : x = ((0, 0), c)) : Ending.returned (.tuple #[.agg #[.int .i64 0, .int .i64 0], .int .i64 c]) = .returned (.tuple #[.agg #[.int .i64 x.1.1, .int .i64 x.1.2], .int .i64 x.2]) := by rw [h]

theorem lgb_ok {d t : Int} (h : fg d t = true) : lgb false (d * 100000) ≤ lgb true (d * 100000) := by
  obtain ⟨⟨d1, d2⟩, -⟩ := (fg_iff d t).1 h
  exact lgb_le (d * 100000) (by omega) (by omega)

end Go.Proofs.YtefhhigcplemaaaDoor
