/- Plain mathematics of the law over spans: products and quotients of figures, rounded, lie in the spans. No program is imported here. -/
import Derived.Test.YtipanchmhohlbaaM14
namespace Go.Proofs.Ytipanchmhohlbaa
set_option linter.unusedSimpArgs false
set_option linter.unusedVariables false

theorem pow_lt_of {x y n : Nat} (h : x ^ n < y ^ n) : x < y := by
  rcases Nat.lt_or_ge x y with h1 | h1
  · exact h1
  · exact absurd (Nat.pow_le_pow_left h1 n) (by omega)
theorem ten_le {m n : Nat} (h : m ≤ n) : 10 ^ m ≤ 10 ^ n := Nat.pow_le_pow_right (by omega) h

/-- Two factors below one: p, b, a stand for powers; w and z = 1000^N * w for the scales. -/
theorem two_lt {m n k i j p b a g h w t z : Nat} (hw : 0 < w) (hz : z = t * w) (hh : h = 10 ^ j) (hg : g = 10 ^ i) (h1 : p * w < 10 ^ m * 10 * z) (h2 : b * w < 10 ^ n * 10 * z) (h3 : 10 ^ k * z ≤ a * w) (e : m + n + 2 + i ≤ k + j) :
    p * b * g < a * t * h := by
  subst hh hg
  have hz' : 0 < z := by
    rcases Nat.eq_zero_or_pos z with h | h
    · rw [h] at h1; simp at h1
    · exact h
  refine Nat.lt_of_mul_lt_mul_right (a := w * w) ?_
  calc p * b * 10 ^ i * (w * w) = (p * w) * (b * w) * 10 ^ i := by ac_rfl
    _ < (10 ^ m * 10 * z) * (10 ^ n * 10 * z) * 10 ^ i := by
      refine Nat.mul_lt_mul_of_pos_right ?_ (Nat.pow_pos (by omega))
      exact Nat.lt_of_le_of_lt (Nat.mul_le_mul_left _ (Nat.le_of_lt h2)) (Nat.mul_lt_mul_of_pos_right h1 (Nat.mul_pos (Nat.mul_pos (Nat.pow_pos (by omega)) (by omega)) hz'))
    _ = 10 ^ (m + n + 2 + i) * (z * z) := by
      rw [Nat.pow_add, Nat.pow_add, Nat.pow_add, show (10 : Nat) ^ 2 = 10 * 10 from rfl]
      generalize 10 ^ m = x
      generalize 10 ^ n = y
      generalize 10 ^ i = v
      ac_rfl
    _ ≤ 10 ^ (k + j) * (z * z) := Nat.mul_le_mul_right _ (ten_le e)
    _ = (10 ^ k * z) * z * 10 ^ j := by rw [Nat.pow_add]; ac_rfl
    _ ≤ (a * w) * z * 10 ^ j := Nat.mul_le_mul_right _ (Nat.mul_le_mul_right _ h3)
    _ = a * t * 10 ^ j * (w * w) := by rw [hz]; ac_rfl
/-- One factor below two. -/
theorem one_lt {m n k i j p b a g h w t z : Nat} (hw : 0 < w) (hz : z = t * w) (hh : h = 10 ^ j) (hg : g = 10 ^ i) (h1 : a * w < 10 ^ k * 10 * z) (h2 : 10 ^ m * z ≤ p * w) (h3 : 10 ^ n * z ≤ b * w) (e : k + 1 + j ≤ m + n + i) :
    a * t * h < p * b * g := by
  subst hh hg
  have hz' : 0 < z := by
    rcases Nat.eq_zero_or_pos z with h | h
    · rw [h] at h1; simp at h1
    · exact h
  refine Nat.lt_of_mul_lt_mul_right (a := w * w) ?_
  calc a * t * 10 ^ j * (w * w) = (a * w) * z * 10 ^ j := by rw [hz]; ac_rfl
    _ < (10 ^ k * 10 * z) * z * 10 ^ j := Nat.mul_lt_mul_of_pos_right (Nat.mul_lt_mul_of_pos_right h1 hz') (Nat.pow_pos (by omega))
    _ = 10 ^ (k + 1 + j) * (z * z) := by
      rw [Nat.pow_add, Nat.pow_add, Nat.pow_one]
      generalize 10 ^ k = x
      generalize 10 ^ j = y
      ac_rfl
    _ ≤ 10 ^ (m + n + i) * (z * z) := Nat.mul_le_mul_right _ (ten_le e)
    _ = (10 ^ m * z) * (10 ^ n * z) * 10 ^ i := by
      rw [Nat.pow_add, Nat.pow_add]
      generalize 10 ^ m = x
      generalize 10 ^ n = y
      generalize 10 ^ i = v
      ac_rfl
    _ ≤ (p * w) * (b * w) * 10 ^ i := Nat.mul_le_mul_right _ (Nat.mul_le_mul h2 h3)
    _ = p * b * 10 ^ i * (w * w) := by ac_rfl

theorem scale_z : 100000000 ^ NN = 1000 ^ NN * 100000 ^ NN := by rw [← Nat.mul_pow]
/-- Logarithms of digits: P * B * G < A * 1000 * H. -/
theorem logs_two (P B A G H i j : Nat) (hP : 1000 ≤ P ∧ P ≤ 9999) (hB : 1000 ≤ B ∧ B ≤ 9999) (hA : 1000 ≤ A ∧ A ≤ 9999) (hG : G ^ NN = 10 ^ i) (hH : H ^ NN = 10 ^ j)
    (e : lgb true ((P : Int) * 100000) + lgb true ((B : Int) * 100000) + 2 + i ≤ lgb false ((A : Int) * 100000) + j) : P * B * G < A * 1000 * H := by
  have cast : ∀ d : Nat, (d : Int) * 100000 = ((d * 100000 : Nat) : Int) := fun d => by simp
  rw [cast, cast, cast] at e
  have dA := dig_bd A hA.1 hA.2
  have dB := dig_bd B hB.1 hB.2
  have dP := dig_bd P hP.1 hP.2
  obtain ⟨mP, eP, uP, -⟩ := lgb_up (P * 100000) dP.1 dP.2
  obtain ⟨mB, eB, uB, -⟩ := lgb_up (B * 100000) dB.1 dB.2
  obtain ⟨mA, eA, lA, -⟩ := lgb_low (A * 100000) dA.1 dA.2
  rw [eP, eB, eA] at e
  rw [Nat.mul_pow] at uP uB lA
  have k := two_lt (Nat.pow_pos (by omega)) scale_z hH hG uP uB lA (by omega)
  rw [← Nat.mul_pow, ← Nat.mul_pow, ← Nat.mul_pow, ← Nat.mul_pow] at k
  exact pow_lt_of k
theorem logs_one (P B A G H i j : Nat) (hP : 1000 ≤ P ∧ P ≤ 9999) (hB : 1000 ≤ B ∧ B ≤ 9999) (hA : 1000 ≤ A ∧ A ≤ 9999) (hG : G ^ NN = 10 ^ i) (hH : H ^ NN = 10 ^ j)
    (e : lgb true ((A : Int) * 100000) + 1 + j ≤ lgb false ((P : Int) * 100000) + lgb false ((B : Int) * 100000) + i) : A * 1000 * H < P * B * G := by
  have cast : ∀ d : Nat, (d : Int) * 100000 = ((d * 100000 : Nat) : Int) := fun d => by simp
  rw [cast, cast, cast] at e
  have dA := dig_bd A hA.1 hA.2
  have dB := dig_bd B hB.1 hB.2
  have dP := dig_bd P hP.1 hP.2
  obtain ⟨mP, eP, lP, -⟩ := lgb_low (P * 100000) dP.1 dP.2
  obtain ⟨mB, eB, lB, -⟩ := lgb_low (B * 100000) dB.1 dB.2
  obtain ⟨mA, eA, uA, -⟩ := lgb_up (A * 100000) dA.1 dA.2
  rw [eP, eB, eA] at e
  rw [Nat.mul_pow] at uA lP lB
  have k := one_lt (Nat.pow_pos (by omega)) scale_z hH hG uA lP lB (by omega)
  rw [← Nat.mul_pow, ← Nat.mul_pow, ← Nat.mul_pow, ← Nat.mul_pow] at k
  exact pow_lt_of k
theorem one_pw : (1 : Nat) ^ NN = 10 ^ 0 := by rw [Nat.one_pow, Nat.pow_zero]
theorem ten_pw : (10 : Nat) ^ NN = 10 ^ NN := rfl
theorem hun_pw : (100 : Nat) ^ NN = 10 ^ (2 * NN) := by rw [show (100 : Nat) = 10 ^ 2 from rfl, ← Nat.pow_mul]

/-- The digits of quotients, by comparing products. -/
theorem nd_ge {p a b : Int} (hb : 0 < b) (h : p * b ≤ a) : p ≤ nd a b := by
  have f := (frac_pos a b hb).ne'
  have f2 := (frac_pos a b hb).ne
  generalize nd a b = z at *
  have : p < z + 1 := lt_of_mul (b := b) hb (by
    have e : (z + 1) * b = z * b + b := by rw [Int.add_mul, Int.one_mul]
    omega)
  omega
theorem nd_le {p a b : Int} (hb : 0 < b) (h : a ≤ p * b) : nd a b ≤ p := by
  have f := (frac_pos a b hb).ne'
  have f2 := (frac_pos a b hb).ne
  generalize nd a b = z at *
  have : z < p + 1 := lt_of_mul (b := b) hb (by
    have e : (p + 1) * b = p * b + b := by rw [Int.add_mul, Int.one_mul]
    omega)
  omega
theorem NN_int : ((NN : Nat) : Int) = 1048576 := by rw [NN_eq]; rfl
theorem quo_digits (a b T : Int) (a1 : 1000 ≤ a) (a2 : a ≤ 9999) (b1 : 1000 ≤ b) (b2 : b ≤ 9999) :
    (b ≤ a ∧ rdd a b (T + 3) = (nd (1000 * a) b, T) ∧ 1000 ≤ nd (1000 * a) b ∧ nd (1000 * a) b ≤ 9999) ∨ (a < b ∧ rdd a b (T + 3) = (nd (10000 * a) b, T - 1) ∧ 1000 ≤ nd (10000 * a) b ∧ nd (10000 * a) b ≤ 9999) := by
  have k := rdd_bd a b (T + 3) (by omega) (by omega)
  rcases Int.lt_or_le a b with h | h
  · have e := quot_lt a b (T + 3) a1 b2 h
    rw [e] at k
    exact .inr ⟨h, by rw [e]; exact Prod.ext rfl (by simp only; omega), k⟩
  · have e := quot_ge a b (T + 3) a1 a2 b1 h
    rw [e] at k
    exact .inl ⟨h, by rw [e]; exact Prod.ext rfl (by simp only; omega), k⟩

theorem quo_lo (a s b t p e : Int) (ha : fg a s = true) (hb : fg b t = true) (hp : fg p e = true) (h : (flg p e).2 ≤ (flg a s).1 - (flg b t).2) :
    10000 * e + p ≤ 10000 * (rdd a b (s - t + 3)).2 + (rdd a b (s - t + 3)).1 := by
  obtain ⟨⟨a1, a2⟩, -⟩ := (fg_iff a s).1 ha
  obtain ⟨⟨b1, b2⟩, -⟩ := (fg_iff b t).1 hb
  obtain ⟨⟨p1, p2⟩, -⟩ := (fg_iff p e).1 hp
  rw [flg_2, flg_1, flg_2] at h
  obtain ⟨A, rfl⟩ := Int.eq_ofNat_of_zero_le (show 0 ≤ a by omega)
  obtain ⟨B, rfl⟩ := Int.eq_ofNat_of_zero_le (show 0 ≤ b by omega)
  obtain ⟨P, rfl⟩ := Int.eq_ofNat_of_zero_le (show 0 ≤ p by omega)
  have hN := NN_int
  have k0 := fun (c : s - t ≤ e) => logs_two P B A 1 1 0 0 (by omega) (by omega) (by omega) one_pw one_pw (by omega)
  have k1 := fun (c : s - t + 1 ≤ e) => logs_two P B A 10 1 NN 0 (by omega) (by omega) (by omega) ten_pw one_pw (by omega)
  have k2 := fun (c : s - t - 1 ≤ e) => logs_two P B A 1 10 0 NN (by omega) (by omega) (by omega) one_pw ten_pw (by omega)
  have hpb : ((P : Int) * B) = ((P * B : Nat) : Int) := by simp
  have lo : 1000 * B ≤ P * B := Nat.mul_le_mul_right _ (by omega)
  have q1 := fun q => nd_ge (p := (P : Int)) (a := q) (b := (B : Int)) (by omega)
  rw [hpb] at q1
  generalize P * B = E at *
  rcases quo_digits (A : Int) (B : Int) (s - t) a1 a2 b1 b2 with ⟨c, hq, z1, z2⟩ | ⟨c, hq, z1, z2⟩
  · rw [hq]
    simp only
    have q2 := q1 (1000 * (A : Int))
    rcases Int.lt_trichotomy e (s - t) with x | x | x
    · omega
    · have := k0 (by omega)
      have := q2 (by omega)
      omega
    · have := k1 (by omega)
      omega
  · rw [hq]
    simp only
    have q2 := q1 (10000 * (A : Int))
    rcases Int.lt_trichotomy e (s - t - 1) with x | x | x
    · omega
    · have := k2 (by omega)
      have := q2 (by omega)
      omega
    · have := k0 (by omega)
      omega
theorem quo_hi (a s b t p e : Int) (ha : fg a s = true) (hb : fg b t = true) (hp : fg p e = true) (h : (flg a s).2 - (flg b t).1 ≤ (flg p e).1) :
    10000 * (rdd a b (s - t + 3)).2 + (rdd a b (s - t + 3)).1 ≤ 10000 * e + p := by
  obtain ⟨⟨a1, a2⟩, -⟩ := (fg_iff a s).1 ha
  obtain ⟨⟨b1, b2⟩, -⟩ := (fg_iff b t).1 hb
  obtain ⟨⟨p1, p2⟩, -⟩ := (fg_iff p e).1 hp
  rw [flg_2, flg_1, flg_1] at h
  obtain ⟨A, rfl⟩ := Int.eq_ofNat_of_zero_le (show 0 ≤ a by omega)
  obtain ⟨B, rfl⟩ := Int.eq_ofNat_of_zero_le (show 0 ≤ b by omega)
  obtain ⟨P, rfl⟩ := Int.eq_ofNat_of_zero_le (show 0 ≤ p by omega)
  have hN := NN_int
  have k0 := fun (c : e ≤ s - t) => logs_one P B A 1 1 0 0 (by omega) (by omega) (by omega) one_pw one_pw (by omega)
  have k1 := fun (c : e ≤ s - t - 1) => logs_one P B A 1 10 0 NN (by omega) (by omega) (by omega) one_pw ten_pw (by omega)
  have k2 := fun (c : e ≤ s - t - 2) => logs_one P B A 1 100 0 (2 * NN) (by omega) (by omega) (by omega) one_pw hun_pw (by omega)
  have hpb : ((P : Int) * B) = ((P * B : Nat) : Int) := by simp
  have up : P * B ≤ 9999 * B := Nat.mul_le_mul_right _ (by omega)
  have q1 := fun q => nd_le (p := (P : Int)) (a := q) (b := (B : Int)) (by omega)
  rw [hpb] at q1
  generalize P * B = E at *
  rcases quo_digits (A : Int) (B : Int) (s - t) a1 a2 b1 b2 with ⟨c, hq, z1, z2⟩ | ⟨c, hq, z1, z2⟩
  · rw [hq]
    simp only
    have q2 := q1 (1000 * (A : Int))
    rcases Int.lt_trichotomy e (s - t) with x | x | x
    · have := k1 (by omega)
      omega
    · have := k0 (by omega)
      have := q2 (by omega)
      omega
    · omega
  · rw [hq]
    simp only
    have q2 := q1 (10000 * (A : Int))
    rcases Int.lt_trichotomy e (s - t - 1) with x | x | x
    · have := k2 (by omega)
      omega
    · have := k1 (by omega)
      have := q2 (by omega)
      omega
    · omega
theorem fg_between {p e q f u v : Int} (h1 : fg p e = true) (h2 : fg u v = true) (q1 : 1000 ≤ q) (q2 : q ≤ 9999) (h3 : 10000 * e + p ≤ 10000 * f + q) (h4 : 10000 * f + q ≤ 10000 * v + u) : fg q f = true := by
  obtain ⟨⟨a1, a2⟩, a3, a4⟩ := (fg_iff p e).1 h1
  obtain ⟨⟨b1, b2⟩, b3, b4⟩ := (fg_iff u v).1 h2
  exact (fg_iff q f).2 (by omega)
/-- The rounded quotient lies in its span. -/
theorem qs_facts (a s b t : Int) : ((qsR a s b t).c ≠ 0) ∨ ((qsR a s b t).c = 0 ∧ (diR a s b t).2 = 0 ∧ btw (qsR a s b t).a (qsR a s b t).s (diR a s b t).1.1 (diR a s b t).1.2 (qsR a s b t).b (qsR a s b t).t) := by
  cases hf : (fg a s && fg b t)
  · left; rw [qsR_no a s b t hf]; simp
  · rw [qsR_ok a s b t hf]
    rw [Bool.and_eq_true] at hf
    rcases spU_facts ((flg a s).1 - (flg b t).2) ((flg a s).2 - (flg b t).1) with c | ⟨m, n, e1, ⟨m1, m2⟩, ⟨n1, n2⟩, -, -, hx, hy⟩
    · exact .inl c
    · right
      rw [e1]
      have f1 := fn_fg m m1 m2
      have f2 := fn_fg n n1 n2
      rw [fnl_eq] at hx hy
      have r1 := quo_lo a s b t _ _ hf.1 hf.2 f1 hx
      have r2 := quo_hi a s b t _ _ hf.1 hf.2 f2 hy
      obtain ⟨⟨a1, a2⟩, -⟩ := (fg_iff a s).1 hf.1
      obtain ⟨⟨b1, b2⟩, -⟩ := (fg_iff b t).1 hf.2
      have k := rdd_bd a b (s - t + 3) (by omega) (by omega)
      have f3 := fg_between f1 f2 k.1 k.2 r1 r2
      have e2 := diR_ok a s b t hf.1 hf.2
      rw [rsl_ok _ f3] at e2
      rw [e2]
      exact ⟨rfl, rfl, ⟨⟨f1, f3, f2⟩, r1, r2⟩⟩

/-- Products: P * 1000 * G < A * B * H, and the other way. -/
theorem prod_two (P B A G H i j : Nat) (hP : 1000 ≤ P ∧ P ≤ 9999) (hB : 1000 ≤ B ∧ B ≤ 9999) (hA : 1000 ≤ A ∧ A ≤ 9999) (hG : G ^ NN = 10 ^ i) (hH : H ^ NN = 10 ^ j)
    (e : lgb true ((P : Int) * 100000) + 1 + i ≤ lgb false ((A : Int) * 100000) + lgb false ((B : Int) * 100000) + j) : P * 1000 * G < A * B * H :=
  logs_one A B P H G j i hA hB hP hH hG e
theorem prod_one (P B A G H i j : Nat) (hP : 1000 ≤ P ∧ P ≤ 9999) (hB : 1000 ≤ B ∧ B ≤ 9999) (hA : 1000 ≤ A ∧ A ≤ 9999) (hG : G ^ NN = 10 ^ i) (hH : H ^ NN = 10 ^ j)
    (e : lgb true ((A : Int) * 100000) + lgb true ((B : Int) * 100000) + 2 + j ≤ lgb false ((P : Int) * 100000) + i) : A * B * H < P * 1000 * G :=
  logs_two A B P H G j i hA hB hP hH hG e
theorem prod_digits (E T : Int) (h1 : 1000000 ≤ E) (h2 : E ≤ 99980001) :
    (E < 10000000 ∧ rdd E 1 (T - 3) = nrm (nd E 1000) T ∧ 1000 ≤ nd E 1000 ∧ nd E 1000 ≤ 10000) ∨ (10000000 ≤ E ∧ rdd E 1 (T - 3) = nrm (nd E 10000) (T + 1) ∧ 1000 ≤ nd E 10000 ∧ nd E 10000 ≤ 10000) := by
  rcases Int.lt_or_le E 10000000 with h | h
  · have e := rdd_3 E (T - 3) h1 h
    exact .inl ⟨h, by rw [e, show T - 3 + 3 = T by omega], nd_bd E 1000 (by omega) (by omega) (by omega)⟩
  · have e := rdd_4 E (T - 3) h (by omega)
    exact .inr ⟨h, by rw [e, show T - 3 + 4 = T + 1 by omega], nd_bd E 10000 (by omega) (by omega) (by omega)⟩
theorem nrm_rank (x T : Int) (h1 : 1000 ≤ x) (h2 : x ≤ 10000) : (x ≤ 9999 ∧ nrm x T = (x, T)) ∨ (x = 10000 ∧ nrm x T = (1000, T + 1)) := by
  rcases Int.lt_or_le 9999 x with h | h
  · exact .inr ⟨by omega, nrm_hi x T h⟩
  · exact .inl ⟨h, nrm_lo x T h⟩
theorem pro_lo (a s b t p e : Int) (ha : fg a s = true) (hb : fg b t = true) (hp : fg p e = true) (h : (flg p e).2 ≤ (flg a s).1 + (flg b t).1) :
    10000 * e + p ≤ 10000 * (rdd (a * b) 1 (s + t - 3)).2 + (rdd (a * b) 1 (s + t - 3)).1 := by
  obtain ⟨⟨a1, a2⟩, -⟩ := (fg_iff a s).1 ha
  obtain ⟨⟨b1, b2⟩, -⟩ := (fg_iff b t).1 hb
  obtain ⟨⟨p1, p2⟩, -⟩ := (fg_iff p e).1 hp
  obtain ⟨e1, e2⟩ := prod_bd a b a1 a2 b1 b2
  rw [flg_2, flg_1, flg_1] at h
  obtain ⟨A, rfl⟩ := Int.eq_ofNat_of_zero_le (show 0 ≤ a by omega)
  obtain ⟨B, rfl⟩ := Int.eq_ofNat_of_zero_le (show 0 ≤ b by omega)
  obtain ⟨P, rfl⟩ := Int.eq_ofNat_of_zero_le (show 0 ≤ p by omega)
  have hN := NN_int
  have k0 := fun (c : s + t ≤ e) => prod_two P B A 1 1 0 0 (by omega) (by omega) (by omega) one_pw one_pw (by omega)
  have k1 := fun (c : s + t + 1 ≤ e) => prod_two P B A 10 1 NN 0 (by omega) (by omega) (by omega) ten_pw one_pw (by omega)
  have k2 := fun (c : s + t + 2 ≤ e) => prod_two P B A 100 1 (2 * NN) 0 (by omega) (by omega) (by omega) hun_pw one_pw (by omega)
  have hab : ((A : Int) * B) = ((A * B : Nat) : Int) := by simp
  rw [hab] at e1 e2 ⊢
  generalize A * B = E at *
  have q1 := nd_ge (p := (P : Int)) (a := (E : Int)) (b := 1000) (by omega)
  have q2 := nd_ge (p := (P : Int)) (a := (E : Int)) (b := 10000) (by omega)
  rcases prod_digits (E : Int) (s + t) e1 e2 with ⟨c, hq, z1, z2⟩ | ⟨c, hq, z1, z2⟩
  · rw [hq]
    have r : e ≤ s + t - 1 ∨ (e = s + t ∧ (P : Int) ≤ nd (E : Int) 1000) := by
      rcases Int.lt_trichotomy e (s + t) with x | x | x
      · left; omega
      · have := k0 (by omega)
        exact .inr ⟨x, q1 (by omega)⟩
      · have := k1 (by omega)
        omega
    rcases nrm_rank _ (s + t) z1 z2 with ⟨c1, c2⟩ | ⟨c1, c2⟩ <;> (rw [c2]; simp only; omega)
  · rw [hq]
    have r : e ≤ s + t ∨ (e = s + t + 1 ∧ (P : Int) ≤ nd (E : Int) 10000) := by
      rcases Int.lt_trichotomy e (s + t + 1) with x | x | x
      · left; omega
      · have := k1 (by omega)
        exact .inr ⟨x, q2 (by omega)⟩
      · have := k2 (by omega)
        omega
    rcases nrm_rank _ (s + t + 1) z1 z2 with ⟨c1, c2⟩ | ⟨c1, c2⟩ <;> (rw [c2]; simp only; omega)
theorem pro_hi (a s b t p e : Int) (ha : fg a s = true) (hb : fg b t = true) (hp : fg p e = true) (h : (flg a s).2 + (flg b t).2 ≤ (flg p e).1) :
    10000 * (rdd (a * b) 1 (s + t - 3)).2 + (rdd (a * b) 1 (s + t - 3)).1 ≤ 10000 * e + p := by
  obtain ⟨⟨a1, a2⟩, -⟩ := (fg_iff a s).1 ha
  obtain ⟨⟨b1, b2⟩, -⟩ := (fg_iff b t).1 hb
  obtain ⟨⟨p1, p2⟩, -⟩ := (fg_iff p e).1 hp
  obtain ⟨e1, e2⟩ := prod_bd a b a1 a2 b1 b2
  rw [flg_2, flg_2, flg_1] at h
  obtain ⟨A, rfl⟩ := Int.eq_ofNat_of_zero_le (show 0 ≤ a by omega)
  obtain ⟨B, rfl⟩ := Int.eq_ofNat_of_zero_le (show 0 ≤ b by omega)
  obtain ⟨P, rfl⟩ := Int.eq_ofNat_of_zero_le (show 0 ≤ p by omega)
  have hN := NN_int
  have k0 := fun (c : e ≤ s + t) => prod_one P B A 1 1 0 0 (by omega) (by omega) (by omega) one_pw one_pw (by omega)
  have k1 := fun (c : e ≤ s + t + 1) => prod_one P B A 10 1 NN 0 (by omega) (by omega) (by omega) ten_pw one_pw (by omega)
  have k2 := fun (c : e ≤ s + t - 1) => prod_one P B A 1 10 0 NN (by omega) (by omega) (by omega) one_pw ten_pw (by omega)
  have hab : ((A : Int) * B) = ((A * B : Nat) : Int) := by simp
  rw [hab] at e1 e2 ⊢
  generalize A * B = E at *
  have q1 := nd_le (p := (P : Int)) (a := (E : Int)) (b := 1000) (by omega)
  have q2 := nd_le (p := (P : Int)) (a := (E : Int)) (b := 10000) (by omega)
  rcases prod_digits (E : Int) (s + t) e1 e2 with ⟨c, hq, z1, z2⟩ | ⟨c, hq, z1, z2⟩
  · rw [hq]
    have r : s + t + 1 ≤ e ∨ (e = s + t ∧ nd (E : Int) 1000 ≤ P) := by
      rcases Int.lt_trichotomy e (s + t) with x | x | x
      · have := k2 (by omega)
        omega
      · have := k0 (by omega)
        exact .inr ⟨x, q1 (by omega)⟩
      · left; omega
    rcases nrm_rank _ (s + t) z1 z2 with ⟨c1, c2⟩ | ⟨c1, c2⟩ <;> (rw [c2]; simp only; omega)
  · rw [hq]
    have r : s + t + 2 ≤ e ∨ (e = s + t + 1 ∧ nd (E : Int) 10000 ≤ P) := by
      rcases Int.lt_trichotomy e (s + t + 1) with x | x | x
      · have := k0 (by omega)
        omega
      · have := k1 (by omega)
        exact .inr ⟨x, q2 (by omega)⟩
      · left; omega
    rcases nrm_rank _ (s + t + 1) z1 z2 with ⟨c1, c2⟩ | ⟨c1, c2⟩ <;> (rw [c2]; simp only; omega)
/-- The rounded product lies in its span. -/
theorem ps_facts (a s b t : Int) : ((psR a s b t).c ≠ 0) ∨ ((psR a s b t).c = 0 ∧ (muR a s b t).2 = 0 ∧ btw (psR a s b t).a (psR a s b t).s (muR a s b t).1.1 (muR a s b t).1.2 (psR a s b t).b (psR a s b t).t) := by
  cases hf : (fg a s && fg b t)
  · left; rw [psR_no a s b t hf]; simp
  · rw [psR_ok a s b t hf]
    rw [Bool.and_eq_true] at hf
    rcases spU_facts ((flg a s).1 + (flg b t).1) ((flg a s).2 + (flg b t).2) with c | ⟨m, n, e1, ⟨m1, m2⟩, ⟨n1, n2⟩, -, -, hx, hy⟩
    · exact .inl c
    · right
      rw [e1]
      have f1 := fn_fg m m1 m2
      have f2 := fn_fg n n1 n2
      rw [fnl_eq] at hx hy
      have r1 := pro_lo a s b t _ _ hf.1 hf.2 f1 hx
      have r2 := pro_hi a s b t _ _ hf.1 hf.2 f2 hy
      obtain ⟨⟨a1, a2⟩, -⟩ := (fg_iff a s).1 hf.1
      obtain ⟨⟨b1, b2⟩, -⟩ := (fg_iff b t).1 hf.2
      have pb := prod_bd a b a1 a2 b1 b2
      have k := rdd_bd (a * b) 1 (s + t - 3) (by omega) (by omega)
      have f3 := fg_between f1 f2 k.1 k.2 r1 r2
      have e2 := muR_ok a s b t hf.1 hf.2
      rw [show s + t - 6 + 3 = s + t - 3 by omega, rsl_ok _ f3] at e2
      rw [e2]
      exact ⟨rfl, rfl, ⟨⟨f1, f3, f2⟩, r1, r2⟩⟩
end Go.Proofs.Ytipanchmhohlbaa
