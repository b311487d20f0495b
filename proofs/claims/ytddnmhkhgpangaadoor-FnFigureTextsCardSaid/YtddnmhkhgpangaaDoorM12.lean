/- Plain mathematics of chapter 2: a rounded figure is near, and is its own rounding. -/
import Derived.Test.YtddnmhkhgpangaaDoorM06
import Derived.Test.YtddnmhkhgpangaaDoorM07
namespace Go.Proofs.YtddnmhkhgpangaaDoor
set_option linter.unusedSimpArgs false
set_option linter.unusedVariables false

theorem nd_idem (n : Int) (h : 1000 ≤ n) (h' : n ≤ 9999) (k : Nat) (hk : k ≤ 3) : nd (p10 k * nd n (p10 k)) (p10 k) = nd n (p10 k) := by
  obtain ⟨-, -, h1, h2, -⟩ := nd_lit n h h' k hk
  generalize nd n (p10 k) = q at *
  have h0 : k = 0 ∨ k = 1 ∨ k = 2 ∨ k = 3 := by omega
  rcases h0 with rfl | rfl | rfl | rfl <;> simp [p10] <;> unfold nd <;> rw [Int.fdiv_eq_ediv_of_nonneg _ (by omega)] <;> omega
theorem nd_off (n : Int) (h : 1000 ≤ n) (h' : n ≤ 9999) (k : Nat) (hk : k ≤ 3) : 2 * (p10 k * nd n (p10 k) - n) ≤ 1000 ∧ 2 * (n - p10 k * nd n (p10 k)) ≤ 1000 := by
  have h0 : k = 0 ∨ k = 1 ∨ k = 2 ∨ k = 3 := by omega
  rcases h0 with rfl | rfl | rfl | rfl <;> simp [p10] <;> unfold nd <;> rw [Int.fdiv_eq_ediv_of_nonneg _ (by omega)] <;> omega
theorem nd_thou (k : Nat) (hk : k ≤ 3) : p10 k * nd 1000 (p10 k) = 1000 := by
  have h0 : k = 0 ∨ k = 1 ∨ k = 2 ∨ k = 3 := by omega
  rcases h0 with rfl | rfl | rfl | rfl <;> decide
theorem cd_le (a b B : Int) (hb : 0 < b) (h : a ≤ B * b) : cd a b ≤ B := by
  obtain ⟨h1, h2⟩ := cd_frac a b hb
  generalize cd a b = y at *
  have h3 : y * b < (B + 1) * b := by rw [Int.add_mul]; omega
  have := Int.lt_of_mul_lt_mul_right h3 (by omega)
  omega
theorem reE_half (n d : Int) (hd : 0 < d) (h1 : 2 * (n - d) ≤ d) (h2 : 2 * (d - n) ≤ d) : reE n d ≤ 500000 := by
  unfold reE
  exact cd_le _ _ _ hd (by omega)

theorem rel_same (m a s : Int) (hm : fg m s = true) (ha : fg a s = true) (h1 : 2 * (m - a) ≤ 1000) (h2 : 2 * (a - m) ≤ 1000) : (reR m s a s).2 = 0 ∧ (reR m s a s).1 ≤ 500000 := by
  obtain ⟨⟨a1, a2⟩, -⟩ := (fg_iff a s).1 ha
  have hv : reV m s a s = reE m a := by
    unfold reV
    rw [if_neg (by omega), if_neg (by omega), if_neg (by omega), show (s - s).toNat = 0 by omega, show p10 0 = 1 by rfl, Int.mul_one]
  have hh : reE m a ≤ 500000 := reE_half _ _ (by omega) (by omega) (by omega)
  rw [reR_lo _ _ _ _ hm ha (by rw [hv]; omega), hv]
  exact ⟨rfl, hh⟩
theorem rel_up (a s : Int) (hm : fg 1000 (s + 1) = true) (ha : fg a s = true) (h1 : 9500 ≤ a) : (reR 1000 (s + 1) a s).2 = 0 ∧ (reR 1000 (s + 1) a s).1 ≤ 500000 := by
  obtain ⟨⟨a1, a2⟩, -⟩ := (fg_iff a s).1 ha
  have hv : reV 1000 (s + 1) a s = reE 10000 a := by
    unfold reV
    rw [if_neg (by omega), if_neg (by omega), if_pos (by omega), show (s + 1 - s).toNat = 1 by omega]
    rfl
  have hh : reE 10000 a ≤ 500000 := reE_half _ _ (by omega) (by omega) (by omega)
  rw [reR_lo _ _ _ _ hm ha (by rw [hv]; omega), hv]
  exact ⟨rfl, hh⟩
theorem ct_facts (a s : Int) (k : Nat) (hk : k ≤ 3) (hf : fg a s = true) (hr : fg (ctR a s (p10 k)).1 (ctR a s (p10 k)).2 = true) :
    ((reR (ctR a s (p10 k)).1 (ctR a s (p10 k)).2 a s).2 = 0 ∧ (reR (ctR a s (p10 k)).1 (ctR a s (p10 k)).2 a s).1 ≤ 500000) ∧ ctR (ctR a s (p10 k)).1 (ctR a s (p10 k)).2 (p10 k) = ctR a s (p10 k) := by
  obtain ⟨⟨a1, a2⟩, s1, s2⟩ := (fg_iff a s).1 hf
  obtain ⟨o1, o2⟩ := nd_off a a1 a2 k hk
  have oi := nd_idem a a1 a2 k hk
  have ot := nd_thou k hk
  by_cases he : p10 k * nd a (p10 k) = 10000
  · rw [ctR_hi _ _ _ he] at hr ⊢
    exact ⟨rel_up a s hr hf (by omega), by rw [ctR_lo _ _ _ (by rw [ot]; decide), ot]⟩
  · rw [ctR_lo _ _ _ he] at hr ⊢
    exact ⟨rel_same _ a s hr hf o1 o2, by rw [ctR_lo _ _ _ (by rw [oi]; exact he), oi]⟩

/-- What is known of a rounding. -/
theorem roR_facts (a s g : Int) : ((roR a s g).2 ≠ 0) ∨
    ((roR a s g).2 = 0 ∧ (reR (roR a s g).1.1 (roR a s g).1.2 a s).2 = 0 ∧ (reR (roR a s g).1.1 (roR a s g).1.2 a s).1 ≤ 500000 ∧ roR (roR a s g).1.1 (roR a s g).1.2 g = ((roR a s g).1, 0)) := by
  cases hf : fg a s
  · left; rw [roR_no a s g hf]; simp
  by_cases hg : 1 ≤ g ∧ g ≤ 4
  · have hk : (4 - g).toNat ≤ 3 := by omega
    have hro : ∀ b t, fg b t = true → roR b t g = rsl (ctR b t (p10 (4 - g).toNat)) := fun b t h => roR_ok b t g h hg.1 hg.2
    rw [hro a s hf]
    generalize (4 - g).toNat = k at *
    rcases rsl_code (ctR a s (p10 k)) with ⟨c, f, hr⟩ | ⟨c, f⟩
    · right
      obtain ⟨⟨h1, h2⟩, h3⟩ := ct_facts a s k hk hf hr
      rw [f]
      exact ⟨c, h1, h2, by rw [hro _ _ hr, h3]; exact rsl_ok _ hr⟩
    · left; rw [c]; decide
  · left; rw [roR_far a s g hf (by omega)]; simp
end Go.Proofs.YtddnmhkhgpangaaDoor
