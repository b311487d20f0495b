/- Plain mathematics of rounded fractions: where the three quotients lie. -/
import Derived.Test.YtgadkpkpdpphbaaDoorM01
namespace Go.Proofs.YtgadkpkpdpphbaaDoor
set_option linter.unusedSimpArgs false
set_option linter.unusedVariables false
theorem lt_of_mul {x y b : Int} (hb : 0 < b) (h : x * b < y * b) : x < y := by
  rcases Int.lt_or_le x y with h1 | h1
  · exact h1
  · have := Int.mul_le_mul_of_nonneg_right h1 (Int.le_of_lt hb); omega

/-- What the three quotients are for a positive divisor. -/
structure Frac (a b x y z : Int) : Prop where
  lo : x * b ≤ a
  lo' : a < x * b + b
  hi : a ≤ y * b
  hi' : y * b < a + b
  ne : 2 * (z * b) ≤ 2 * a + b
  ne' : 2 * a < 2 * (z * b) + b
  xy : x ≤ y
  yx : y ≤ x + 1
  zz : z = x ∨ z = y

theorem ediv_two (a b : Int) (hb : 0 < b) : a / b * b ≤ a ∧ a < a / b * b + b := by
  have h1 := Int.mul_ediv_add_emod a b
  have h2 := Int.emod_nonneg a (show b ≠ 0 by omega)
  have h3 := Int.emod_lt_of_pos a hb
  rw [Int.mul_comm] at h1
  omega

theorem frac_pos (a b : Int) (hb : 0 < b) : Frac a b (a.fdiv b) (cd a b) (nd a b) := by
  have hx : a.fdiv b = a / b := Int.fdiv_eq_ediv_of_nonneg a (by omega)
  have hy : cd a b = -((-a) / b) := by unfold cd; rw [Int.fdiv_eq_ediv_of_nonneg (-a) (by omega)]
  have hz : nd a b = (2 * a + b) / (2 * b) := by unfold nd; rw [Int.fdiv_eq_ediv_of_nonneg _ (by omega)]
  rw [hx, hy, hz]
  obtain ⟨x1, x2⟩ := ediv_two a b hb
  obtain ⟨y1, y2⟩ := ediv_two (-a) b hb
  obtain ⟨z1, z2⟩ := ediv_two (2 * a + b) (2 * b) (by omega)
  generalize a / b = x at *
  generalize (-a) / b = y at *
  generalize (2 * a + b) / (2 * b) = z at *
  have e1 : z * (2 * b) = 2 * (z * b) := by rw [Int.mul_left_comm]
  have e2 : -y * b = -(y * b) := Int.neg_mul _ _
  rw [e1] at z1 z2
  have xy : x ≤ -y := by
    have : x < -y + 1 := lt_of_mul hb (by rw [Int.add_mul, e2]; omega)
    omega
  have yx : -y ≤ x + 1 := by
    have : -y < x + 1 + 1 := lt_of_mul hb (by rw [Int.add_mul, Int.add_mul, e2]; omega)
    omega
  have zx : x ≤ z := by
    have : x < z + 1 := lt_of_mul hb (by rw [Int.add_mul]; omega)
    omega
  have zy : z ≤ -y := by
    have : z < -y + 1 := lt_of_mul hb (by rw [Int.add_mul, e2]; omega)
    omega
  exact ⟨x1, x2, by rw [e2]; omega, by rw [e2]; omega, by omega, by omega, xy, yx, by omega⟩

theorem dd_flip (a b : Int) : (-a).fdiv (-b) = a.fdiv b := Int.neg_fdiv_neg a b
theorem cd_flip (a b : Int) : cd (-a) (-b) = cd a b := by unfold cd; rw [show - -a = -(-a) from rfl, Int.neg_fdiv_neg (-a) b]

/-- The same of values, whichever sign the divisor has. -/
theorem frac_all (a b : Int) (h : dcode a b = 0) : ∃ x y z : Int, ddR a b = (x, 0) ∧ duR a b = (y, 0) ∧ dnR a b = (z, 0) ∧
    (0 < b → Frac a b x y z) ∧ (b < 0 → Frac (-a) (-b) x y z) ∧ (-1000000000004 ≤ x ∧ x ≤ 1000000000004) ∧ (-1000000000004 ≤ y ∧ y ≤ 1000000000004) ∧ (z = x ∨ z = y) := by
  obtain ⟨⟨a1, a2⟩, ⟨b1, b2⟩, hb⟩ := dcode0 a b h
  refine ⟨a.fdiv b, cd a b, nd a b, ddR_ok a b h, duR_ok a b h, dnR_ok a b h, fun hb => frac_pos a b hb, fun hb => ?_, ?_, ?_, ?_⟩
  · have := frac_pos (-a) (-b) (by omega)
    rw [dd_flip, cd_flip, nd_neg] at this
    exact this
  · have := fd_bd a b 1000000000000 (by omega) (by omega); omega
  · have := cd_bd a b 1000000000000 (by omega) (by omega); unfold cd; omega
  · rcases Int.lt_or_gt_of_ne hb with hb | hb
    · have := (frac_pos (-a) (-b) (by omega)).zz
      rw [dd_flip, cd_flip, nd_neg] at this
      exact this
    · exact (frac_pos a b hb).zz
end Go.Proofs.YtgadkpkpdpphbaaDoor
