/- Fields of a struct that is a value (what a call returned): by the kernel. -/
import Derived.Test.YtefhhigcplemaaaDoorRows
import Derived.WalkKit
namespace Go.Proofs.YtefhhigcplemaaaDoor
open Go.RowKit
theorem field_itv0 (a b : Value) (w : World) : (Instr.field 137 (.agg #[a, b]) 0).run Tryd.prog w = .ok a w := by kernel_rfl
theorem field_itv1 (a b : Value) (w : World) : (Instr.field 137 (.agg #[a, b]) 1).run Tryd.prog w = .ok b w := by kernel_rfl
theorem field_fig0 (a b : Value) (w : World) : (Instr.field 45 (.agg #[a, b]) 0).run Tryd.prog w = .ok a w := by kernel_rfl
theorem field_fig1 (a b : Value) (w : World) : (Instr.field 45 (.agg #[a, b]) 1).run Tryd.prog w = .ok b w := by kernel_rfl
attribute [go_sem] field_itv0 field_itv1 field_fig0 field_fig1
end Go.Proofs.YtefhhigcplemaaaDoor
