/- Plain mathematics of the law over scaled intervals. No program is imported here. -/
import Derived.Test.YtgadkpkpdpphbaaDoorM05
namespace Go.Proofs.YtgadkpkpdpphbaaDoor
set_option linter.unusedSimpArgs false
set_option linter.unusedVariables false

theorem scl_back_pos (a b n d : Int) (hn : 0 < n) (hd : 0 < d) :
    (scl (scl a b n d).1 (scl a b n d).2 d n).1 ≤ a ∧ b ≤ (scl (scl a b n d).1 (scl a b n d).2 d n).2 := by
  rw [scl_pos a b n d (by omega)]
  simp only
  rw [scl_pos _ _ d n (by omega)]
  simp only
  have f1 := (frac_pos (a * n) d hd).lo
  have f2 := (frac_pos (b * n) d hd).hi
  have g1 := (frac_pos ((a * n).fdiv d * d) n hn).lo
  have g2 := (frac_pos (cd (b * n) d * d) n hn).hi
  exact ⟨Int.le_of_mul_le_mul_right (Int.le_trans g1 f1) hn, Int.le_of_mul_le_mul_right (Int.le_trans f2 g2) hn⟩
theorem scl_back_neg (a b n d : Int) (hn : n < 0) (hd : 0 < d) :
    (scl (scl a b n d).1 (scl a b n d).2 (-d) (-n)).1 ≤ a ∧ b ≤ (scl (scl a b n d).1 (scl a b n d).2 (-d) (-n)).2 := by
  rw [scl_neg a b n d hn]
  simp only
  rw [scl_neg _ _ (-d) (-n) (by omega)]
  simp only
  have f1 := (frac_pos (b * n) d hd).lo
  have f2 := (frac_pos (a * n) d hd).hi
  have g1 := (frac_pos (cd (a * n) d * -d) (-n) (by omega)).lo
  have g2 := (frac_pos ((b * n).fdiv d * -d) (-n) (by omega)).hi
  have e1 : cd (a * n) d * -d = -(cd (a * n) d * d) := Int.mul_neg _ _
  have e2 : (b * n).fdiv d * -d = -((b * n).fdiv d * d) := Int.mul_neg _ _
  have e3 : a * -n = -(a * n) := Int.mul_neg _ _
  have e4 : b * -n = -(b * n) := Int.mul_neg _ _
  exact ⟨Int.le_of_mul_le_mul_right (a := -n) (by omega) (by omega), Int.le_of_mul_le_mul_right (a := -n) (by omega) (by omega)⟩
theorem rsi_code (l h : Int) : ((rsi l h).2 = 0 ∧ (rsi l h).1 = (l, h) ∧ iv l h = true) ∨ ((rsi l h).2 = 3 ∧ (rsi l h).1 = (0, 0)) := by
  cases e : iv l h
  · rw [rsi_no l h e]; exact .inr ⟨rfl, rfl⟩
  · rw [rsi_ok l h e]; exact .inl ⟨rfl, rfl, rfl⟩
/-- What is known of a scaled interval. -/
theorem scR_facts (a b n d : Int) : ((scR a b n d).2 ≠ 0) ∨
    ((scR a b n d).2 = 0 ∧ iv a b = true ∧ (-12 ≤ n ∧ n ≤ 12) ∧ (1 ≤ d ∧ d ≤ 12) ∧ (scR a b n d).1 = scl a b n d ∧ iv (scR a b n d).1.1 (scR a b n d).1.2 = true) := by
  cases h : iv a b
  · left; rw [scR_no a b n d h]; simp
  · by_cases hr : (-12 ≤ n ∧ n ≤ 12) ∧ (1 ≤ d ∧ d ≤ 12)
    · rw [scR_ok a b n d h hr]
      rcases rsi_code (scl a b n d).1 (scl a b n d).2 with ⟨c, v, i⟩ | ⟨c, -⟩
      · right; rw [v]; exact ⟨c, rfl, hr.1, hr.2, rfl, i⟩
      · left; rw [c]; simp
    · left; rw [scR_rg a b n d h hr]; simp
/-- Scaling back encloses the interval, or is over the limit. -/
theorem scale_back (a b n d : Int) (h : (scR a b n d).2 = 0) :
    (0 < n → (scR (scR a b n d).1.1 (scR a b n d).1.2 d n).2 = 3 ∨ ((scR (scR a b n d).1.1 (scR a b n d).1.2 d n).2 = 0 ∧ (scR (scR a b n d).1.1 (scR a b n d).1.2 d n).1.1 ≤ a ∧ b ≤ (scR (scR a b n d).1.1 (scR a b n d).1.2 d n).1.2)) ∧
    (n < 0 → (scR (scR a b n d).1.1 (scR a b n d).1.2 (-d) (-n)).2 = 3 ∨ ((scR (scR a b n d).1.1 (scR a b n d).1.2 (-d) (-n)).2 = 0 ∧ (scR (scR a b n d).1.1 (scR a b n d).1.2 (-d) (-n)).1.1 ≤ a ∧ b ≤ (scR (scR a b n d).1.1 (scR a b n d).1.2 (-d) (-n)).1.2)) := by
  rcases scR_facts a b n d with hc | ⟨-, hi, ⟨n1, n2⟩, ⟨d1, d2⟩, hv, hj⟩
  · exact absurd h hc
  constructor
  · intro hn
    have hb := scl_back_pos a b n d hn (by omega)
    rw [← hv] at hb
    rw [scR_ok _ _ d n hj (by omega)]
    rcases rsi_code (scl (scR a b n d).1.1 (scR a b n d).1.2 d n).1 (scl (scR a b n d).1.1 (scR a b n d).1.2 d n).2 with ⟨c, v, -⟩ | ⟨c, -⟩
    · right; rw [v]; exact ⟨c, hb⟩
    · left; exact c
  · intro hn
    have hb := scl_back_neg a b n d hn (by omega)
    rw [← hv] at hb
    rw [scR_ok _ _ (-d) (-n) hj (by omega)]
    rcases rsi_code (scl (scR a b n d).1.1 (scR a b n d).1.2 (-d) (-n)).1 (scl (scR a b n d).1.1 (scR a b n d).1.2 (-d) (-n)).2 with ⟨c, v, -⟩ | ⟨c, -⟩
    · right; rw [v]; exact ⟨c, hb⟩
    · left; exact c
/-- A mantissa and its decades. -/
theorem maR_facts (u : Int) : ((maR u).2 = 2) ∨ ((maR u).2 = 0 ∧ 0 ≤ (maR u).1.1 ∧ (maR u).1.1 < 1048576 ∧ (-1000000 ≤ (maR u).1.2 ∧ (maR u).1.2 ≤ 1000000) ∧ (maR u).1.2 * 1048576 + (maR u).1.1 = u) := by
  cases h : vl u
  · left; rw [maR_no u h]
  · right
    have hb := (vl_iff u).1 h
    rw [maR_ok u h]
    refine ⟨rfl, ?_⟩
    simp only
    rw [Int.fdiv_eq_ediv_of_nonneg _ (by omega)]
    omega
end Go.Proofs.YtgadkpkpdpphbaaDoor
