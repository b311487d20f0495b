/- Plain mathematics of the law over quotients. No program is imported here. -/
import Derived.Test.YtgadkpkpdpphbaaDoorM06
namespace Go.Proofs.YtgadkpkpdpphbaaDoor
set_option linter.unusedSimpArgs false
set_option linter.unusedVariables false

theorem reE_le (n d : Int) (hd : 0 < d) (h : (n - d) * 1000000 ≤ 1100 * d) (h' : (d - n) * 1000000 ≤ 1100 * d) : reE n d ≤ 1100 := by
  unfold reE
  obtain ⟨h1, h2⟩ := cd_frac ((n - d).natAbs * 1000000) d hd
  generalize cd ((n - d).natAbs * 1000000) d = y at *
  have : y < 1101 := lt_of_mul hd (by omega)
  omega
theorem reV_0 (p a s : Int) (ha : 0 < a) (h : (p - a) * 1000000 ≤ 1100 * a) (h' : (a - p) * 1000000 ≤ 1100 * a) : reV p s a s ≤ 1100 := by
  unfold reV
  rw [if_neg (by omega), if_neg (by omega), if_neg (by omega), show (s - s).toNat = 0 by omega, show p10 0 = 1 from rfl, Int.mul_one]
  exact reE_le p a ha h h'
theorem reV_up (p a s : Int) (ha : 0 < a) (h : (p * 10 - a) * 1000000 ≤ 1100 * a) (h' : (a - p * 10) * 1000000 ≤ 1100 * a) : reV p (s + 1) a s ≤ 1100 := by
  unfold reV
  rw [if_neg (by omega), if_neg (by omega), if_pos (by omega), show (s + 1 - s).toNat = 1 by omega, show p10 1 = 10 from rfl]
  exact reE_le _ a ha h h'
theorem reV_dn (p a s : Int) (ha : 0 < a) (h : (p - a * 10) * 1000000 ≤ 1100 * (a * 10)) (h' : (a * 10 - p) * 1000000 ≤ 1100 * (a * 10)) : reV p (s - 1) a s ≤ 1100 := by
  unfold reV
  rw [if_neg (by omega), if_neg (by omega), if_neg (by omega), show (s - (s - 1)).toNat = 1 by omega, show p10 1 = 10 from rfl]
  exact reE_le _ _ (by omega) h h'
/-- The digits of a quotient. -/
theorem quot_ge (a b T : Int) (a1 : 1000 ≤ a) (a2 : a ≤ 9999) (b1 : 1000 ≤ b) (h : b ≤ a) : rdd a b T = (nd (1000 * a) b, T - 3) := by
  have e1 := rdd_down a b T (by omega) (by omega) (by omega)
  have e2 := rdd_down (10 * a) b (T - 1) (by omega) (by omega) (by omega)
  have e3 := rdd_down (10 * (10 * a)) b (T - 1 - 1) (by omega) (by omega) (by omega)
  have e4 : nd (10 * (10 * (10 * a))) b ≤ 9999 := by
    have f := (frac_pos (10 * (10 * (10 * a))) b (by omega)).ne
    generalize nd (10 * (10 * (10 * a))) b = z at *
    have : z < 10000 := lt_of_mul (b := b) (by omega) (by omega)
    omega
  rw [← e1, ← e2, ← e3, rdd_base _ _ _ (by omega) (by omega) (by omega), nrm_lo _ _ e4]
  exact Prod.ext (by simp only; congr 1; omega) (by simp only; omega)
theorem quot_lt (a b T : Int) (a1 : 1000 ≤ a) (b2 : b ≤ 9999) (h : a < b) : rdd a b T = (nd (10000 * a) b, T - 4) := by
  have e1 := rdd_down a b T (by omega) (by omega) (by omega)
  have e2 := rdd_down (10 * a) b (T - 1) (by omega) (by omega) (by omega)
  have e3 := rdd_down (10 * (10 * a)) b (T - 1 - 1) (by omega) (by omega) (by omega)
  have e0 := rdd_down (10 * (10 * (10 * a))) b (T - 1 - 1 - 1) (by omega) (by omega) (by omega)
  have e4 : nd (10 * (10 * (10 * (10 * a)))) b ≤ 9999 := by
    have f := (frac_pos (10 * (10 * (10 * (10 * a)))) b (by omega)).ne
    generalize nd (10 * (10 * (10 * (10 * a)))) b = z at *
    have : z < 10000 := lt_of_mul (b := b) (by omega) (by omega)
    omega
  rw [← e1, ← e2, ← e3, ← e0, rdd_base _ _ _ (by omega) (by omega) (by omega), nrm_lo _ _ e4]
  exact Prod.ext (by simp only; congr 1; omega) (by simp only; omega)
/-- A quotient times the divisor is near to the number. -/
theorem quot_near (a s b t : Int) (a1 : 1000 ≤ a) (a2 : a ≤ 9999) (b1 : 1000 ≤ b) (b2 : b ≤ 9999)
    (hq : 1000 ≤ (rdd a b (s - t + 3)).1 ∧ (rdd a b (s - t + 3)).1 ≤ 9999) :
    reV (rdd ((rdd a b (s - t + 3)).1 * b) 1 ((rdd a b (s - t + 3)).2 + t - 3)).1 (rdd ((rdd a b (s - t + 3)).1 * b) 1 ((rdd a b (s - t + 3)).2 + t - 3)).2 a s ≤ 1100 := by
  obtain ⟨q1, q2⟩ := hq
  obtain ⟨m1, m2⟩ := prod_bd _ b q1 q2 b1 b2
  by_cases h : b ≤ a
  · rw [quot_ge a b _ a1 a2 b1 h] at q1 q2 m1 m2 ⊢
    simp only at q1 q2 m1 m2 ⊢
    have f1 := (frac_pos (1000 * a) b (by omega)).ne
    have f2 := (frac_pos (1000 * a) b (by omega)).ne'
    generalize nd (1000 * a) b * b = e at *
    by_cases he : e < 10000000
    · rw [rdd_3 e _ m1 he]
      have := nd_1000 e
      by_cases h9 : 9999 < nd e 1000
      · rw [nrm_hi _ _ h9]
        simp only
        rw [show s - t + 3 - 3 + t - 3 + 3 + 1 = s + 1 by omega]
        exact reV_up _ a s (by omega) (by omega) (by omega)
      · rw [nrm_lo _ _ (by omega)]
        simp only
        rw [show s - t + 3 - 3 + t - 3 + 3 = s by omega]
        exact reV_0 _ a s (by omega) (by omega) (by omega)
    · rw [rdd_4 e _ (by omega) (by omega)]
      have := nd_10000 e
      rw [nrm_lo _ _ (by omega)]
      simp only
      rw [show s - t + 3 - 3 + t - 3 + 4 = s + 1 by omega]
      exact reV_up _ a s (by omega) (by omega) (by omega)
  · rw [quot_lt a b _ a1 b2 (by omega)] at q1 q2 m1 m2 ⊢
    simp only at q1 q2 m1 m2 ⊢
    have f1 := (frac_pos (10000 * a) b (by omega)).ne
    have f2 := (frac_pos (10000 * a) b (by omega)).ne'
    generalize nd (10000 * a) b * b = e at *
    by_cases he : e < 10000000
    · rw [rdd_3 e _ m1 he]
      have := nd_1000 e
      by_cases h9 : 9999 < nd e 1000
      · rw [nrm_hi _ _ h9]
        simp only
        rw [show s - t + 3 - 4 + t - 3 + 3 + 1 = s by omega]
        exact reV_0 _ a s (by omega) (by omega) (by omega)
      · rw [nrm_lo _ _ (by omega)]
        simp only
        rw [show s - t + 3 - 4 + t - 3 + 3 = s - 1 by omega]
        exact reV_dn _ a s (by omega) (by omega) (by omega)
    · rw [rdd_4 e _ (by omega) (by omega)]
      have := nd_10000 e
      rw [nrm_lo _ _ (by omega)]
      simp only
      rw [show s - t + 3 - 4 + t - 3 + 4 = s by omega]
      exact reV_0 _ a s (by omega) (by omega) (by omega)
/-- What is known of a quotient. -/
theorem diR_facts (a s b t : Int) : ((diR a s b t).2 ≠ 0 ∧ ((diR a s b t).2 = 1 ∨ (diR a s b t).2 = 3)) ∨
    ((diR a s b t).2 = 0 ∧ fg a s = true ∧ fg b t = true ∧ (diR a s b t).1 = rdd a b (s - t + 3) ∧ fg (diR a s b t).1.1 (diR a s b t).1.2 = true) := by
  by_cases h : (fg a s && fg b t) = true
  · rw [Bool.and_eq_true] at h
    rw [diR_ok a s b t h.1 h.2]
    rcases rsl_code (rdd a b (s - t + 3)) with ⟨c, f, g⟩ | ⟨c, f⟩
    · right; exact ⟨c, h.1, h.2, f, by rw [f]; exact g⟩
    · left; rw [c]; exact ⟨by omega, .inr rfl⟩
  · rw [diR_no a s b t (by simpa using h)]; left; exact ⟨by simp, .inl rfl⟩
/-- Back: the product of the quotient and the divisor is over the limit, or near to the number. -/
theorem back_near (a s b t : Int) (h : (diR a s b t).2 = 0) :
    ((muR (diR a s b t).1.1 (diR a s b t).1.2 b t).2 = 3) ∨
    ((muR (diR a s b t).1.1 (diR a s b t).1.2 b t).2 = 0 ∧ (reR (muR (diR a s b t).1.1 (diR a s b t).1.2 b t).1.1 (muR (diR a s b t).1.1 (diR a s b t).1.2 b t).1.2 a s).2 = 0 ∧ (reR (muR (diR a s b t).1.1 (diR a s b t).1.2 b t).1.1 (muR (diR a s b t).1.1 (diR a s b t).1.2 b t).1.2 a s).1 ≤ 1100) := by
  rcases diR_facts a s b t with ⟨c, -⟩ | ⟨-, ha, hb, hq, hf⟩
  · exact absurd h c
  obtain ⟨⟨a1, a2⟩, -⟩ := (fg_iff a s).1 ha
  obtain ⟨⟨b1, b2⟩, -⟩ := (fg_iff b t).1 hb
  have hn := quot_near a s b t a1 a2 b1 b2 (by rw [← hq]; exact ((fg_iff _ _).1 hf).1)
  rw [← hq] at hn
  rcases muR_facts (diR a s b t).1.1 (diR a s b t).1.2 b t with ⟨c, c1 | c3⟩ | ⟨c, -, -, hr, hg⟩
  · rw [muR_ok _ _ _ _ hf hb] at c1
    rcases rsl_code (rdd ((diR a s b t).1.1 * b) 1 ((diR a s b t).1.2 + t - 6 + 3)) with ⟨x, -⟩ | ⟨x, -⟩ <;> rw [x] at c1 <;> omega
  · exact .inl c3
  · right
    rw [← hr] at hn
    rw [reR_lo _ _ _ _ hg ha (by omega)]
    exact ⟨c, rfl, hn⟩
theorem cmpI_neg (x y : Int) : cmpI y x = -cmpI x y := by unfold cmpI; split <;> split <;> omega
theorem cmpI_zero (x y : Int) : cmpI x y = 0 ↔ x = y := by unfold cmpI; split <;> (try split) <;> omega
/-- Comparing: antisymmetric, and 0 exactly at equal figures. -/
theorem cmR_facts (a s b t : Int) : (cmR a s b t = (0, 1)) ∨ ((cmR a s b t).2 = 0 ∧ (cmR b t a s).2 = 0 ∧ (cmR b t a s).1 = -(cmR a s b t).1 ∧
    ((a = b ∧ s = t ∧ (cmR a s b t).1 = 0) ∨ ((a == b && s == t) = false ∧ ((cmR a s b t).1 == 0) = false))) := by
  by_cases h : (fg a s && fg b t) = true
  · rw [Bool.and_eq_true] at h
    right
    rw [cmR_ok a s b t h.1 h.2, cmR_ok b t a s h.2 h.1]
    refine ⟨rfl, rfl, cmpI_neg _ _, ?_⟩
    obtain ⟨⟨a1, a2⟩, -⟩ := (fg_iff a s).1 h.1
    obtain ⟨⟨b1, b2⟩, -⟩ := (fg_iff b t).1 h.2
    have hz := cmpI_zero (10000 * s + a) (10000 * t + b)
    by_cases he : a = b ∧ s = t
    · left; exact ⟨he.1, he.2, hz.2 (by omega)⟩
    · right
      refine ⟨by simp; omega, ?_⟩
      have : ¬ cmpI (10000 * s + a) (10000 * t + b) = 0 := fun e => by have := hz.1 e; omega
      simp [this]
  · left; exact cmR_no a s b t (by simpa using h)
end Go.Proofs.YtgadkpkpdpphbaaDoor
