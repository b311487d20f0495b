/- Plain mathematics of chapter 2: the program's fraction of a relative error. -/
import Derived.Test.YtgadkpkpdpphbaaDoorM03
namespace Go.Proofs.YtgadkpkpdpphbaaDoor
set_option linter.unusedSimpArgs false
set_option linter.unusedVariables false

/-- The program's fraction for a difference c of tens. -/
def raR (a b c : Int) : Int × Int := if c < 0 then (a, b * p10 (-c).toNat) else (a * p10 c.toNat, b)
theorem raR_neg (a b c : Int) (h : c < 0) : raR a b c = (a, b * p10 (-c).toNat) := if_pos h
theorem raR_pos (a b c : Int) (h : 0 ≤ c) : raR a b c = (a * p10 c.toNat, b) := if_neg (by omega)
theorem p10_8 (i : Nat) (h : i ≤ 8) : 1 ≤ p10 i ∧ p10 i ≤ 100000000 := by
  have h0 : i = 0 ∨ i = 1 ∨ i = 2 ∨ i = 3 ∨ i = 4 ∨ i = 5 ∨ i = 6 ∨ i = 7 ∨ i = 8 := by omega
  rcases h0 with h | h | h | h | h | h | h | h | h <;> subst h <;> decide
theorem mul_8 (a : Int) (i : Nat) (h : i ≤ 8) (h1 : 1000 ≤ a) (h2 : a ≤ 9999) : 1 ≤ a * p10 i ∧ a * p10 i ≤ 1000000000000 := by
  obtain ⟨p1, p2⟩ := p10_8 i h
  have e1 := Int.mul_le_mul_of_nonneg_left p1 (show 0 ≤ a by omega)
  have e2 := Int.mul_le_mul h2 p2 (by omega) (by omega)
  omega
theorem raR_bd (a b c : Int) (h1 : 1000 ≤ a) (h2 : a ≤ 9999) (h3 : 1000 ≤ b) (h4 : b ≤ 9999) (h5 : -8 ≤ c) (h6 : c ≤ 8) :
    (1 ≤ (raR a b c).1 ∧ (raR a b c).1 ≤ 1000000000000) ∧ (1 ≤ (raR a b c).2 ∧ (raR a b c).2 ≤ 1000000000000) := by
  by_cases h : c < 0
  · rw [raR_neg _ _ _ h]
    have := mul_8 b (-c).toNat (by omega) h3 h4
    exact ⟨by show 1 ≤ a ∧ a ≤ _; omega, this⟩
  · rw [raR_pos _ _ _ (by omega)]
    have := mul_8 a c.toNat (by omega) h1 h2
    exact ⟨this, by show 1 ≤ b ∧ b ≤ _; omega⟩
theorem clamp_ex (x : Int) : ∃ m c : Int, (if 8 < x then 8 else x) = m ∧ (if -8 < m then m else -8) = c ∧ -8 ≤ c ∧ c ≤ 8 ∧ ((c = x ∧ -8 ≤ c ∧ c ≤ 8) ∨ (c = 8 ∧ 8 < x) ∨ (c = -8 ∧ x < -8)) := by
  refine ⟨_, _, rfl, rfl, ?_⟩
  by_cases h : 8 < x
  · rw [if_pos h]; simp; omega
  · rw [if_neg h]
    by_cases h' : -8 < x
    · rw [if_pos h']; omega
    · rw [if_neg h']; omega
theorem max_abs (n d : Int) : (if n - d < d - n then d - n else n - d) = ((n - d).natAbs : Int) := by split <;> omega
theorem raR_reV (a s b t c : Int) (h1 : 1000 ≤ a) (h2 : a ≤ 9999) (h3 : 1000 ≤ b) (h4 : b ≤ 9999) (hc : (c = s - t ∧ -8 ≤ c ∧ c ≤ 8) ∨ (c = 8 ∧ 8 < s - t) ∨ (c = -8 ∧ s - t < -8)) :
    (9000000 < reV a s b t ↔ 9000000 < reE (raR a b c).1 (raR a b c).2) ∧ (reV a s b t ≤ 9000000 → reV a s b t = reE (raR a b c).1 (raR a b c).2) :=
  reE_sat a s b t h1 h2 h3 h4 c hc _ ⟨fun h => by rw [raR_pos _ _ _ h], fun h => by rw [raR_neg _ _ _ h]⟩
theorem reE_cd (n d : Int) : reE n d = cd ((n - d).natAbs * 1000000) d := rfl
theorem cd_small (a b : Int) (ha : 0 ≤ a) (hb : 0 < b) (B : Int) (h : a ≤ B) (hB : 0 ≤ B) : 0 ≤ cd a b ∧ cd a b ≤ B + 1 := by
  obtain ⟨h1, h2⟩ := cd_frac a b hb
  constructor
  · have : -1 < cd a b := lt_of_mul hb (by omega)
    omega
  · have e : (B + 1) * 1 ≤ (B + 1) * b := Int.mul_le_mul_of_nonneg_left (by omega) (by omega)
    have : cd a b < B + 1 + 1 := lt_of_mul hb (by rw [Int.add_mul (B + 1)]; omega)
    omega
end Go.Proofs.YtgadkpkpdpphbaaDoor
