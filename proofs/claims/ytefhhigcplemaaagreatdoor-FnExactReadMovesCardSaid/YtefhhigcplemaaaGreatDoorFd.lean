/- Fields of a struct that is a value (what a call returned): by the kernel. -/
import Derived.Test.YtefhhigcplemaaaGreatDoorRows
import Derived.WalkKit
namespace Go.Proofs.YtefhhigcplemaaaGreatDoor
open Go.RowKit
theorem field_itv0 (a b : Value) (w : World) : (Instr.field 143 (.agg #[a, b]) 0).run Tryz.prog w = .ok a w := by kernel_rfl
theorem field_itv1 (a b : Value) (w : World) : (Instr.field 143 (.agg #[a, b]) 1).run Tryz.prog w = .ok b w := by kernel_rfl
theorem field_fig0 (a b : Value) (w : World) : (Instr.field 37 (.agg #[a, b]) 0).run Tryz.prog w = .ok a w := by kernel_rfl
theorem field_fig1 (a b : Value) (w : World) : (Instr.field 37 (.agg #[a, b]) 1).run Tryz.prog w = .ok b w := by kernel_rfl
attribute [go_sem] field_itv0 field_itv1 field_fig0 field_fig1
end Go.Proofs.YtefhhigcplemaaaGreatDoor
