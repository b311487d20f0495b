/- Plain mathematics: the logarithm of a rounded product and the sum of the logarithms. No program is imported here. -/
import Derived.Test.YtgadkpkpdpphbaaDoorM09
namespace Go.Proofs.YtgadkpkpdpphbaaDoor
set_option linter.unusedSimpArgs false
set_option linter.unusedVariables false

theorem num_1 : 2000 ^ NN ≤ 10 ^ 228 * 1999 ^ NN := by decide +kernel
theorem num_2 : 2001 ^ NN ≤ 10 ^ 228 * 2000 ^ NN := by decide +kernel

theorem prod_hi {m n k jj p a b w z t c F u : Nat} (hz : 0 < z) (hu : 0 < u) (h1 : 10 ^ m * z ≤ p * w) (h2 : a * w < 10 ^ n * 10 * z) (h3 : b * w < 10 ^ k * 10 * z) (ht : t * w = z * 10 ^ jj)
    (hc : p * t * c ≤ a * b * F) (hF : F ≤ 10 ^ 228 * c) (hpos : 0 < F) : m + jj < n + k + 2 + 228 := by
  refine pow_lt2 (C := c) (F := F) (Nat.lt_of_mul_lt_mul_right (a := z * z) ?_) hF
  calc 10 ^ (m + jj) * c * (z * z) = (10 ^ m * z) * (z * 10 ^ jj) * c := by rw [Nat.pow_add]; ac_rfl
    _ = (10 ^ m * z) * (t * w) * c := by rw [ht]
    _ ≤ (p * w) * (t * w) * c := Nat.mul_le_mul_right _ (Nat.mul_le_mul_right _ h1)
    _ = (p * t * c) * (w * w) := by ac_rfl
    _ ≤ (a * b * F) * (w * w) := Nat.mul_le_mul_right _ hc
    _ = (a * w) * (b * w) * F := by ac_rfl
    _ < (10 ^ n * 10 * z) * (10 ^ k * 10 * z) * F := by
      refine Nat.mul_lt_mul_of_pos_right ?_ hpos
      exact Nat.lt_of_le_of_lt (Nat.mul_le_mul_left _ (Nat.le_of_lt h3)) (Nat.mul_lt_mul_of_pos_right h2 (Nat.mul_pos (Nat.mul_pos (Nat.pow_pos (by omega)) (by omega)) hz))
    _ = 10 ^ (n + k + 2) * F * (z * z) := by
      rw [Nat.pow_add, Nat.pow_add, show (10 : Nat) ^ 2 = 10 * 10 from rfl]
      generalize 10 ^ n = x
      generalize 10 ^ k = y
      ac_rfl
theorem prod_lo {m n k jj p a b w z t c F : Nat} (hz : 0 < z) (h1 : 10 ^ m * z ≤ a * w) (h2 : 10 ^ n * z ≤ b * w) (h3 : p * w < 10 ^ k * 10 * z) (ht : t * w = z * 10 ^ jj)
    (hc : a * b * c ≤ p * t * F) (hF : F ≤ 10 ^ 228 * c) (hpos : 0 < F) : m + n < k + 1 + jj + 228 := by
  refine pow_lt2 (C := c) (F := F) (Nat.lt_of_mul_lt_mul_right (a := z * z) ?_) hF
  calc 10 ^ (m + n) * c * (z * z) = (10 ^ m * z) * (10 ^ n * z) * c := by rw [Nat.pow_add]; ac_rfl
    _ ≤ (a * w) * (b * w) * c := Nat.mul_le_mul_right _ (Nat.mul_le_mul h1 h2)
    _ = (a * b * c) * (w * w) := by ac_rfl
    _ ≤ (p * t * F) * (w * w) := Nat.mul_le_mul_right _ hc
    _ = (p * w) * (t * w * F) := by ac_rfl
    _ = (p * w) * (z * 10 ^ jj * F) := by rw [ht]
    _ < (10 ^ k * 10 * z) * (z * 10 ^ jj * F) := Nat.mul_lt_mul_of_pos_right h3 (Nat.mul_pos (Nat.mul_pos hz (Nat.pow_pos (by omega))) hpos)
    _ = 10 ^ (k + 1 + jj) * F * (z * z) := by
      rw [Nat.pow_add, Nat.pow_succ]
      generalize 10 ^ k = x
      generalize 10 ^ jj = y
      ac_rfl
/-- Digits A, B, P with P * T near to A * B (T: 1000 or 10000): the logarithms. -/
theorem prod_logs (A B P T J jj : Nat) (hA : 1000 ≤ A ∧ A ≤ 9999) (hB : 1000 ≤ B ∧ B ≤ 9999) (hP : 1000 ≤ P ∧ P ≤ 9999) (hT : T * 100000 = 100000000 * J) (hJ : J ^ NN = 10 ^ jj)
    (h1 : P * T * 1999 ≤ A * B * 2000) (h2 : A * B * 2000 ≤ P * T * 2001) :
    lgb false ((P : Int) * 100000) + jj < lgb true ((A : Int) * 100000) + lgb true ((B : Int) * 100000) + 230 ∧
    lgb false ((A : Int) * 100000) + lgb false ((B : Int) * 100000) < lgb true ((P : Int) * 100000) + jj + 229 := by
  have cast : ∀ d : Nat, (d : Int) * 100000 = ((d * 100000 : Nat) : Int) := fun d => by simp
  rw [cast, cast, cast]
  have dA := dig_bd A hA.1 hA.2
  have dB := dig_bd B hB.1 hB.2
  have dP := dig_bd P hP.1 hP.2
  obtain ⟨mA, eA, lA, -⟩ := lgb_low (A * 100000) dA.1 dA.2
  obtain ⟨mB, eB, lB, -⟩ := lgb_low (B * 100000) dB.1 dB.2
  obtain ⟨mP, eP, lP, -⟩ := lgb_low (P * 100000) dP.1 dP.2
  obtain ⟨nA, fA, uA, -⟩ := lgb_up (A * 100000) dA.1 dA.2
  obtain ⟨nB, fB, uB, -⟩ := lgb_up (B * 100000) dB.1 dB.2
  obtain ⟨nP, fP, uP, -⟩ := lgb_up (P * 100000) dP.1 dP.2
  rw [eA, eB, eP, fA, fB, fP]
  rw [Nat.mul_pow] at lA lB lP uA uB uP
  have hz : 0 < 100000000 ^ NN := Nat.pow_pos (by omega)
  have ht : T ^ NN * 100000 ^ NN = 100000000 ^ NN * 10 ^ jj := by rw [← Nat.mul_pow, hT, Nat.mul_pow, hJ]
  have c1 : P ^ NN * T ^ NN * 1999 ^ NN ≤ A ^ NN * B ^ NN * 2000 ^ NN := by
    rw [← Nat.mul_pow, ← Nat.mul_pow, ← Nat.mul_pow, ← Nat.mul_pow]; exact Nat.pow_le_pow_left h1 _
  have c2 : A ^ NN * B ^ NN * 2000 ^ NN ≤ P ^ NN * T ^ NN * 2001 ^ NN := by
    rw [← Nat.mul_pow, ← Nat.mul_pow, ← Nat.mul_pow, ← Nat.mul_pow]; exact Nat.pow_le_pow_left h2 _
  have g1 := prod_hi (u := 1) hz (by omega) lP uA uB ht c1 num_1 (Nat.pow_pos (by omega))
  have g2 := prod_lo hz lA lB uP ht c2 num_2 (Nat.pow_pos (by omega))
  omega

/-- The logarithm of a rounded product meets the sum of the logarithms up to 229 units. -/
theorem flg_prod (a s b t : Int) (h : (muR a s b t).2 = 0) :
    (flg (muR a s b t).1.1 (muR a s b t).1.2).1 - ((flg a s).2 + (flg b t).2) ≤ 229 ∧ ((flg a s).1 + (flg b t).1) - (flg (muR a s b t).1.1 (muR a s b t).1.2).2 ≤ 229 := by
  rcases muR_facts a s b t with ⟨c, -⟩ | ⟨-, ha, hb, hr, hf⟩
  · exact absurd h c
  obtain ⟨⟨a1, a2⟩, -⟩ := (fg_iff a s).1 ha
  obtain ⟨⟨b1, b2⟩, -⟩ := (fg_iff b t).1 hb
  obtain ⟨⟨p1, p2⟩, -⟩ := (fg_iff _ _).1 hf
  obtain ⟨e1, e2⟩ := prod_bd a b a1 a2 b1 b2
  have hn := mul_near (a * b) (s + t - 3) e1 e2
  rw [← hr] at hn
  obtain ⟨A, rfl⟩ := Int.eq_ofNat_of_zero_le (show 0 ≤ a by omega)
  obtain ⟨B, rfl⟩ := Int.eq_ofNat_of_zero_le (show 0 ≤ b by omega)
  generalize (muR (A : Int) s (B : Int) t).1.1 = p at *
  generalize (muR (A : Int) s (B : Int) t).1.2 = q at *
  obtain ⟨P, rfl⟩ := Int.eq_ofNat_of_zero_le (show 0 ≤ p by omega)
  have hab : ((A : Int) * B) = ((A * B : Nat) : Int) := by simp
  rw [hab] at hn e1 e2
  rw [flg_1, flg_2, flg_1, flg_2, flg_1, flg_2]
  generalize hE : A * B = E at *
  rcases hn with ⟨-, hq, x1, x2⟩ | ⟨-, hq, x1, x2⟩
  · have g := prod_logs A B P 10000 10 NN (by omega) (by omega) (by omega) (by decide) rfl (by rw [hE]; omega) (by rw [hE]; omega)
    rw [NN_eq] at g
    have hq' : q = s + t + 1 := by omega
    rw [hq']
    omega
  · have g := prod_logs A B P 1000 1 0 (by omega) (by omega) (by omega) (by decide) (by rw [Nat.one_pow]) (by rw [hE]; omega) (by rw [hE]; omega)
    have hq' : q = s + t := by omega
    rw [hq']
    omega
/-- The width of a figure's logarithm, and the next figure's. -/
theorem flg_width (d t : Int) (h : fg d t = true) : 1 ≤ (flg d t).2 - (flg d t).1 ∧ (flg d t).2 - (flg d t).1 ≤ 2 := by
  obtain ⟨⟨d1, d2⟩, -⟩ := (fg_iff d t).1 h
  obtain ⟨D, rfl⟩ := Int.eq_ofNat_of_zero_le (show 0 ≤ d by omega)
  have b := dig_bd D (by omega) (by omega)
  have w := lgb_width (D * 100000) b.1 b.2
  rw [show ((D * 100000 : Nat) : Int) = (D : Int) * 100000 by simp] at w
  rw [flg_1, flg_2]
  omega
theorem flg_next (d t : Int) (h : fg d t = true) (h2 : d ≤ 9998) : (flg d t).2 < (flg (d + 1) t).1 := by
  obtain ⟨⟨d1, -⟩, -⟩ := (fg_iff d t).1 h
  obtain ⟨D, rfl⟩ := Int.eq_ofNat_of_zero_le (show 0 ≤ d by omega)
  have w := lgb_next D (by omega) (by omega)
  rw [show ((D * 100000 : Nat) : Int) = (D : Int) * 100000 by simp, show (((D + 1) * 100000 : Nat) : Int) = ((D : Int) + 1) * 100000 by simp] at w
  rw [flg_1, flg_2]
  omega
theorem loR_facts (x : Int) : ((loR x).2 = 2) ∨ ((loR x).2 = 0 ∧ 0 ≤ (loR x).1.1 ∧ (loR x).1.1 ≤ 1048576 ∧ (loR x).1.2 ≤ 1048576 ∧ 0 ≤ (loR x).1.2 ∧ (loR x).1.2 - (loR x).1.1 ≤ 3) := by
  by_cases h : 100000000 ≤ x ∧ x ≤ 999999999
  · right
    rw [loR_ok x h]
    obtain ⟨X, rfl⟩ := Int.eq_ofNat_of_zero_le (show 0 ≤ x by omega)
    have w := lgb_width X (by omega) (by omega)
    have l := lgb_bd false (X : Int) (by omega) (by omega)
    have u := lgb_bd true (X : Int) (by omega) (by omega)
    refine ⟨rfl, ?_⟩
    simp only
    omega
  · left; rw [loR_no x h]
end Go.Proofs.YtgadkpkpdpphbaaDoor
