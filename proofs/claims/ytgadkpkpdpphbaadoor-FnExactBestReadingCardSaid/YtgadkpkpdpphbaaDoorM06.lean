/- Plain mathematics of the laws over figures: products, quotients and their errors. No program is imported here. -/
import Derived.Test.YtgadkpkpdpphbaaDoorM03
namespace Go.Proofs.YtgadkpkpdpphbaaDoor
set_option linter.unusedSimpArgs false
set_option linter.unusedVariables false

theorem rdd_3 (e T : Int) (h1 : 1000000 ≤ e) (h2 : e < 10000000) : rdd e 1 T = nrm (nd e 1000) (T + 3) := by
  have a1 := rdd_up e 1 T (by omega) (by omega) (by omega)
  have a2 := rdd_up e (10 * 1) (T + 1) (by omega) (by omega) (by omega)
  have a3 := rdd_up e (10 * (10 * 1)) (T + 1 + 1) (by omega) (by omega) (by omega)
  rw [← a1, ← a2, ← a3, rdd_base _ _ _ (by omega) (by omega) (by omega), show T + 1 + 1 + 1 = T + 3 by omega]
  rfl
theorem rdd_4 (e T : Int) (h1 : 10000000 ≤ e) (h2 : e < 100000000) : rdd e 1 T = nrm (nd e 10000) (T + 4) := by
  have a1 := rdd_up e 1 T (by omega) (by omega) (by omega)
  have a2 := rdd_up e (10 * 1) (T + 1) (by omega) (by omega) (by omega)
  have a3 := rdd_up e (10 * (10 * 1)) (T + 1 + 1) (by omega) (by omega) (by omega)
  have a4 := rdd_up e (10 * (10 * (10 * 1))) (T + 1 + 1 + 1) (by omega) (by omega) (by omega)
  rw [← a1, ← a2, ← a3, ← a4, rdd_base _ _ _ (by omega) (by omega) (by omega), show T + 1 + 1 + 1 + 1 = T + 4 by omega]
  rfl
theorem nd_1000 (e : Int) : 2 * e - 1000 < 2000 * nd e 1000 ∧ 2000 * nd e 1000 ≤ 2 * e + 1000 := by
  unfold nd; rw [Int.fdiv_eq_ediv_of_nonneg _ (by omega)]; omega
theorem nd_10000 (e : Int) : 2 * e - 10000 < 20000 * nd e 10000 ∧ 20000 * nd e 10000 ≤ 2 * e + 10000 := by
  unfold nd; rw [Int.fdiv_eq_ediv_of_nonneg _ (by omega)]; omega
/-- A rounded product is near to the exact one: by the tens of the result. -/
theorem mul_near (e T : Int) (h1 : 1000000 ≤ e) (h2 : e ≤ 99980001) :
    (T + 3 < (rdd e 1 T).2 ∧ (rdd e 1 T).2 = T + 4 ∧ 2 * ((rdd e 1 T).1 * 10000 - e) ≤ 10000 ∧ 2 * (e - (rdd e 1 T).1 * 10000) ≤ 10000) ∨
    ((rdd e 1 T).2 ≤ T + 3 ∧ (rdd e 1 T).2 = T + 3 ∧ 2 * ((rdd e 1 T).1 * 1000 - e) ≤ 1000 ∧ 2 * (e - (rdd e 1 T).1 * 1000) ≤ 1000) := by
  by_cases h : e < 10000000
  · rw [rdd_3 e T h1 h]
    have := nd_1000 e
    by_cases h9 : 9999 < nd e 1000
    · rw [nrm_hi _ _ h9]; left; simp only [true_and]; omega
    · rw [nrm_lo _ _ (by omega)]; right; simp only [true_and]; omega
  · rw [rdd_4 e T (by omega) (by omega)]
    have := nd_10000 e
    rw [nrm_lo _ _ (by omega)]; left; simp only [true_and]; omega
theorem prod_bd (a b : Int) (a1 : 1000 ≤ a) (a2 : a ≤ 9999) (b1 : 1000 ≤ b) (b2 : b ≤ 9999) : 1000000 ≤ a * b ∧ a * b ≤ 99980001 := by
  have x := Int.mul_le_mul a1 b1 (by omega) (by omega)
  have y := Int.mul_le_mul a2 b2 (by omega) (by omega)
  omega
theorem muR_comm (a s b t : Int) : muR b t a s = muR a s b t := by
  unfold muR
  rw [Bool.and_comm, Int.mul_comm, show t + s - 6 + 3 = s + t - 6 + 3 by omega]
theorem rsl_code (f : Int × Int) : ((rsl f).2 = 0 ∧ (rsl f).1 = f ∧ fg f.1 f.2 = true) ∨ ((rsl f).2 = 3 ∧ (rsl f).1 = (0, 0)) := by
  cases h : fg f.1 f.2
  · rw [rsl_no f h]; exact .inr ⟨rfl, rfl⟩
  · rw [rsl_ok f h]; exact .inl ⟨rfl, rfl, rfl⟩
/-- What is known of a product. -/
theorem muR_facts (a s b t : Int) : ((muR a s b t).2 ≠ 0 ∧ ((muR a s b t).2 = 1 ∨ (muR a s b t).2 = 3)) ∨
    ((muR a s b t).2 = 0 ∧ fg a s = true ∧ fg b t = true ∧ (muR a s b t).1 = rdd (a * b) 1 (s + t - 3) ∧ fg (muR a s b t).1.1 (muR a s b t).1.2 = true) := by
  by_cases h : (fg a s && fg b t) = true
  · rw [Bool.and_eq_true] at h
    rw [muR_ok a s b t h.1 h.2, show s + t - 6 + 3 = s + t - 3 by omega]
    rcases rsl_code (rdd (a * b) 1 (s + t - 3)) with ⟨c, f, g⟩ | ⟨c, f⟩
    · right; exact ⟨c, h.1, h.2, f, by rw [f]; exact g⟩
    · left; rw [c]; exact ⟨by omega, .inr rfl⟩
  · rw [muR_no a s b t (by simpa using h)]; left; exact ⟨by simp, .inl rfl⟩
theorem mkR_facts (n d : Int) : ((mkR n d).2 = 2) ∨ ((mkR n d).2 = 0 ∧ fg (mkR n d).1.1 (mkR n d).1.2 = true) := by
  by_cases h : (1 ≤ n ∧ n ≤ 1000000000) ∧ (1 ≤ d ∧ d ≤ 1000000000)
  · right
    rw [mkR_ok n d h.1 h.2]
    refine ⟨rfl, (fg_iff _ _).2 ⟨rdd_bd n d 3 (by omega) (by omega), ?_⟩⟩
    have := rdd_tens n d 3 h.1 h.2
    simp only
    omega
  · left; rw [mkR_no n d h]
end Go.Proofs.YtgadkpkpdpphbaaDoor
