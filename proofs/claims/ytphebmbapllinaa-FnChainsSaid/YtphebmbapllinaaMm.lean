/- min and max of two integers as plain functions: the walk does not part on them. -/
import Derived.Laws.Small
namespace Go.Proofs.Ytphebmbapllinaa
def imin (x y : Int) : Int := if y < x then y else x
def imax (x y : Int) : Int := if x < y then y else x
theorem imin_bd (x y : Int) : (imin x y ≤ x ∧ imin x y ≤ y) ∧ (imin x y = x ∨ imin x y = y) := by unfold imin; split <;> omega
theorem imax_bd (x y : Int) : (x ≤ imax x y ∧ y ≤ imax x y) ∧ (imax x y = x ∨ imax x y = y) := by unfold imax; split <;> omega
theorem run_imin {P : Program} (w : World) (ts : Array TypeId) (t : TypeId) (k k' : IntKind) (x y : Int) : (Builtin.min_ ts t #[.int k x, .int k' y]).run P w = .ok (.int k (imin x y)) w := run_min_int2 w ts t k k' x y
theorem run_imax {P : Program} (w : World) (ts : Array TypeId) (t : TypeId) (k k' : IntKind) (x y : Int) : (Builtin.max_ ts t #[.int k x, .int k' y]).run P w = .ok (.int k (imax x y)) w := by
  rw [run_max_int2]; rfl
end Go.Proofs.Ytphebmbapllinaa
