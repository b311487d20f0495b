/- Plain mathematics of logarithms by squaring: what the bits say of powers. No program is imported here. -/
import Derived.Test.YtgadkpkpdpphbaaDoorM05
import Derived.Test.YtgadkpkpdpphbaaDoorM06
namespace Go.Proofs.YtgadkpkpdpphbaaDoor
set_option linter.unusedSimpArgs false
set_option linter.unusedVariables false

/-- One step, lower bits. -/
theorem step_lo (r : Nat) (h1 : 100000000 ≤ r) (h2 : r ≤ 999999999) : ∃ c b r' : Nat, (nxD r).1 = r' ∧ (nxD r).2 = b ∧ c = 10 ^ b ∧ (100000000 ≤ r' ∧ r' ≤ 999999999) ∧
    c * r' * 100000000 ≤ r * r ∧ r * r * (99999999 * 99999999) ≤ c * r' * 100000000 * (100000000 * 100000000) := by
  have hs : sqD (r : Int) = ((r * r / 100000000 : Nat) : Int) := by
    unfold sqD; rw [Int.fdiv_eq_ediv_of_nonneg _ (by omega)]; simp
  have hb := nxD_bd (r : Int) (by omega) (by omega)
  have hd : 100000000 * (r * r / 100000000) ≤ r * r ∧ r * r < 100000000 * (r * r / 100000000) + 100000000 := by omega
  generalize r * r = q at *
  generalize q / 100000000 = s at *
  by_cases h : sqD (r : Int) < 1000000000
  · rw [nxD_lo _ h, hs] at hb ⊢
    rw [hs] at h
    simp only at hb
    exact ⟨1, 0, s, rfl, rfl, rfl, by omega, by omega, by omega⟩
  · have he : (sqD (r : Int)).fdiv 10 = ((s / 10 : Nat) : Int) := by rw [hs, Int.fdiv_eq_ediv_of_nonneg _ (by omega)]; simp
    rw [nxD_hi _ (by omega), he] at hb ⊢
    rw [hs] at h
    simp only at hb
    have : 10 * (s / 10) ≤ s ∧ s < 10 * (s / 10) + 10 := by omega
    generalize s / 10 = r' at *
    exact ⟨10, 1, r', rfl, rfl, rfl, by omega, by omega, by omega⟩
/-- One step, upper bits. -/
theorem step_up (r : Nat) (h1 : 100000000 ≤ r) (h2 : r ≤ 999999999) : ∃ c b r' : Nat, (nxU r).1 = r' ∧ (nxU r).2 = b ∧ c = 10 ^ b ∧ (100000000 ≤ r' ∧ r' ≤ 999999999) ∧
    r * r ≤ c * r' * 100000000 ∧ c * r' * 100000000 * (99999999 * 99999999) ≤ r * r * (100000000 * 100000000) := by
  have hs : sqU (r : Int) = (((r * r + 99999999) / 100000000 : Nat) : Int) := by
    have e : (r : Int) * r = ((r * r : Nat) : Int) := by simp
    unfold sqU; rw [cd_lit _ _ (by omega), e]; omega
  have hb := nxU_bd (r : Int) (by omega) (by omega)
  have hq := sq_bd (r : Int) (by omega) (by omega)
  have e : (r : Int) * r = ((r * r : Nat) : Int) := by simp
  rw [e] at hq
  have hd : r * r ≤ 100000000 * ((r * r + 99999999) / 100000000) ∧ 100000000 * ((r * r + 99999999) / 100000000) ≤ r * r + 99999999 := by omega
  generalize r * r = q at *
  generalize (q + 99999999) / 100000000 = s at *
  by_cases h : sqU (r : Int) < 1000000000
  · rw [nxU_lo _ h, hs] at hb ⊢
    rw [hs] at h
    simp only at hb
    exact ⟨1, 0, s, rfl, rfl, rfl, by omega, by omega, by omega⟩
  · have he : cd (sqU (r : Int)) 10 = (((s + 9) / 10 : Nat) : Int) := by rw [hs, cd_lit _ _ (by omega)]; omega
    rw [nxU_hi _ (by omega), he] at hb ⊢
    rw [hs] at h
    simp only at hb
    have : s ≤ 10 * ((s + 9) / 10) ∧ 10 * ((s + 9) / 10) ≤ s + 9 := by omega
    generalize (s + 9) / 10 = r' at *
    exact ⟨10, 1, r', rfl, rfl, rfl, by omega, by omega, by omega⟩

/-- The invariant's step, on plain numbers: p = 10^m, z = D^N, y = x^N, q = D^E, a = (D-1)^E. -/
theorem inv_up {p r z y D q a c r' g : Nat} (hD : 0 < D) (h1 : p * r * z ≤ y * D) (h2 : y * D * a ≤ p * r * z * q) (s1 : c * r' * D ≤ r * r) (s2 : r * r * (g * g) ≤ c * r' * D * (D * D)) :
    p * p * c * r' * (z * z) ≤ y * y * D ∧ y * y * D * (a * a * (g * g)) ≤ p * p * c * r' * (z * z) * (q * q * (D * D)) := by
  constructor
  · refine Nat.le_of_mul_le_mul_right (c := D) ?_ hD
    calc p * p * c * r' * (z * z) * D = (p * z) * (p * z) * (c * r' * D) := by ac_rfl
      _ ≤ (p * z) * (p * z) * (r * r) := Nat.mul_le_mul_left _ s1
      _ = (p * r * z) * (p * r * z) := by ac_rfl
      _ ≤ (y * D) * (y * D) := Nat.mul_le_mul h1 h1
      _ = y * y * D * D := by ac_rfl
  · refine Nat.le_of_mul_le_mul_right (c := D) ?_ hD
    calc y * y * D * (a * a * (g * g)) * D = (y * D * a) * (y * D * a) * (g * g) := by ac_rfl
      _ ≤ (p * r * z * q) * (p * r * z * q) * (g * g) := Nat.mul_le_mul_right _ (Nat.mul_le_mul h2 h2)
      _ = (p * z * q) * (p * z * q) * (r * r * (g * g)) := by ac_rfl
      _ ≤ (p * z * q) * (p * z * q) * (c * r' * D * (D * D)) := Nat.mul_le_mul_left _ s2
      _ = p * p * c * r' * (z * z) * (q * q * (D * D)) * D := by ac_rfl
theorem inv_dn {p r z y D q a c r' g : Nat} (hD : 0 < D) (h1 : y * D ≤ p * r * z) (h2 : p * r * z * a ≤ y * D * q) (s1 : r * r ≤ c * r' * D) (s2 : c * r' * D * (g * g) ≤ r * r * (D * D)) :
    y * y * D ≤ p * p * c * r' * (z * z) ∧ p * p * c * r' * (z * z) * (a * a * (g * g)) ≤ y * y * D * (q * q * (D * D)) := by
  constructor
  · refine Nat.le_of_mul_le_mul_right (c := D) ?_ hD
    calc y * y * D * D = (y * D) * (y * D) := by ac_rfl
      _ ≤ (p * r * z) * (p * r * z) := Nat.mul_le_mul h1 h1
      _ = (p * z) * (p * z) * (r * r) := by ac_rfl
      _ ≤ (p * z) * (p * z) * (c * r' * D) := Nat.mul_le_mul_left _ s1
      _ = p * p * c * r' * (z * z) * D := by ac_rfl
  · refine Nat.le_of_mul_le_mul_right (c := D) ?_ hD
    calc p * p * c * r' * (z * z) * (a * a * (g * g)) * D = (p * z * a) * (p * z * a) * (c * r' * D * (g * g)) := by ac_rfl
      _ ≤ (p * z * a) * (p * z * a) * (r * r * (D * D)) := Nat.mul_le_mul_left _ s2
      _ = (p * r * z * a) * (p * r * z * a) * (D * D) := by ac_rfl
      _ ≤ (y * D * q) * (y * D * q) * (D * D) := Nat.mul_le_mul_right _ (Nat.mul_le_mul h2 h2)
      _ = y * y * D * (q * q * (D * D)) * D := by ac_rfl

theorem pow_two_mul (b n : Nat) : b ^ (2 * n) = b ^ n * b ^ n := by rw [Nat.two_mul, Nat.pow_add]
/-- How often a rounding has gone in. -/
def errs : Nat → Nat
  | 0 => 0
  | k + 1 => 2 * errs k + 2
theorem pow_err (b k : Nat) : b ^ errs (k + 1) = b ^ errs k * b ^ errs k * (b * b) := by
  show b ^ (2 * errs k + 2) = _
  rw [Nat.pow_add, pow_two_mul, show b ^ 2 = b * b from Nat.pow_two b]
theorem pow_k (b k : Nat) : b ^ (2 ^ (k + 1)) = b ^ 2 ^ k * b ^ 2 ^ k := by rw [Nat.pow_succ, Nat.mul_comm (2 ^ k) 2, pow_two_mul]

theorem low_inv (x : Nat) (h1 : 100000000 ≤ x) (h2 : x ≤ 999999999) (k : Nat) : ∃ m r : Nat, lgs false x k = ((r : Int), (m : Int)) ∧ (100000000 ≤ r ∧ r ≤ 999999999) ∧
    10 ^ m * r * 100000000 ^ 2 ^ k ≤ x ^ 2 ^ k * 100000000 ∧ x ^ 2 ^ k * 100000000 * 99999999 ^ errs k ≤ 10 ^ m * r * 100000000 ^ 2 ^ k * 100000000 ^ errs k := by
  induction k with
  | zero => exact ⟨0, x, by rw [lgs_zero]; rfl, ⟨h1, h2⟩, by simp, by simp [errs]⟩
  | succ k ih =>
    obtain ⟨m, r, e, ⟨r1, r2⟩, i1, i2⟩ := ih
    obtain ⟨c, b, r', n1, n2, hc, hr, s1, s2⟩ := step_lo r r1 r2
    obtain ⟨j1, j2⟩ := inv_up (by omega) i1 i2 s1 s2
    refine ⟨2 * m + b, r', ?_, hr, ?_, ?_⟩
    · rw [lgs_succ, e]; simp only [nx_f, n1, n2]; simp
    · rw [pow_k, pow_k, Nat.pow_add, pow_two_mul, ← hc]; exact j1
    · rw [pow_k, pow_k, pow_err, pow_err, Nat.pow_add, pow_two_mul, ← hc]; exact j2
theorem up_inv (x : Nat) (h1 : 100000000 ≤ x) (h2 : x ≤ 999999999) (k : Nat) : ∃ m r : Nat, lgs true x k = ((r : Int), (m : Int)) ∧ (100000000 ≤ r ∧ r ≤ 999999999) ∧
    x ^ 2 ^ k * 100000000 ≤ 10 ^ m * r * 100000000 ^ 2 ^ k ∧ 10 ^ m * r * 100000000 ^ 2 ^ k * 99999999 ^ errs k ≤ x ^ 2 ^ k * 100000000 * 100000000 ^ errs k := by
  induction k with
  | zero => exact ⟨0, x, by rw [lgs_zero]; rfl, ⟨h1, h2⟩, by simp, by simp [errs]⟩
  | succ k ih =>
    obtain ⟨m, r, e, ⟨r1, r2⟩, i1, i2⟩ := ih
    obtain ⟨c, b, r', n1, n2, hc, hr, s1, s2⟩ := step_up r r1 r2
    obtain ⟨j1, j2⟩ := inv_dn (by omega) i1 i2 s1 s2
    refine ⟨2 * m + b, r', ?_, hr, ?_, ?_⟩
    · rw [lgs_succ, e]; simp only [nx_t, n1, n2]; simp
    · rw [pow_k, pow_k, Nat.pow_add, pow_two_mul, ← hc]; exact j1
    · rw [pow_k, pow_k, pow_err, pow_err, Nat.pow_add, pow_two_mul, ← hc]; exact j2

/-- Bernoulli. -/
theorem bern (a : Nat) : ∀ E : Nat, (a + 1) ^ E * (a + 1) ≤ a ^ E * (a + 1) + E * (a + 1) ^ E
  | 0 => by simp
  | E + 1 => by
    have ih := Nat.mul_le_mul_left a (bern a E)
    rw [Nat.pow_succ (a + 1), Nat.pow_succ a]
    generalize (a + 1) ^ E = u at *
    generalize a ^ E = v at *
    calc u * (a + 1) * (a + 1) = a * (u * (a + 1)) + u * (a + 1) := by rw [Nat.mul_add_one (u * (a + 1)), Nat.mul_comm a]
      _ ≤ a * (v * (a + 1) + E * u) + u * (a + 1) := Nat.add_le_add_right ih _
      _ ≤ v * a * (a + 1) + (E + 1) * (u * (a + 1)) := by
        rw [Nat.mul_add a, Nat.succ_mul E, show a * (v * (a + 1)) = v * a * (a + 1) by ac_rfl, show a * (E * u) = E * (u * a) by ac_rfl, Nat.add_assoc]
        refine Nat.add_le_add_left (Nat.add_le_add_right ?_ _) _
        exact Nat.mul_le_mul_left _ (Nat.mul_le_mul_left _ (by omega))
/-- The errors of twenty steps together: less than a fortieth. -/
theorem err_gen (u v E : Nat) (hE : E = 2097150) (h : 100000000 * u ≤ 100000000 * v + E * u) : 97902850 * u ≤ 100000000 * v := by subst hE; omega
theorem err_20 : 100000000 ^ errs 20 * 97902850 ≤ 99999999 ^ errs 20 * 100000000 := by
  have h := bern 99999999 (errs 20)
  rw [show 99999999 + 1 = 100000000 from rfl, Nat.mul_comm _ 100000000, Nat.mul_comm _ 100000000] at h
  rw [Nat.mul_comm _ 97902850, Nat.mul_comm _ 100000000]
  exact err_gen _ _ (errs 20) (by decide) h
theorem cancel_err {S T c d : Nat} (E : Nat) (hd : 0 < 99999999 ^ E) (h : T * 99999999 ^ E ≤ S * 100000000 ^ E) (he : 100000000 ^ E * c ≤ 99999999 ^ E * d) : T * c ≤ S * d := by
  refine Nat.le_of_mul_le_mul_right (c := 99999999 ^ E) ?_ hd
  calc T * c * 99999999 ^ E = T * 99999999 ^ E * c := by ac_rfl
    _ ≤ S * 100000000 ^ E * c := Nat.mul_le_mul_right _ h
    _ = S * (100000000 ^ E * c) := by ac_rfl
    _ ≤ S * (99999999 ^ E * d) := Nat.mul_le_mul_left _ he
    _ = S * d * 99999999 ^ E := by ac_rfl
/-- A decade, in units. -/
def NN : Nat := 2 ^ 20
theorem NN_eq : NN = 1048576 := by decide

theorem fin_low {p r z y : Nat} (hp : 0 < p) (hz : 0 < z) (r1 : 100000000 ≤ r) (r2 : r ≤ 999999999) (i1 : p * r * z ≤ y * 100000000) (j : y * 100000000 * 97902850 ≤ p * r * z * 100000000) :
    p * z ≤ y ∧ y * 97902850 < p * 10 * z * 100000000 := by
  constructor
  · refine Nat.le_of_mul_le_mul_right (c := 100000000) ?_ (by omega)
    calc p * z * 100000000 = p * 100000000 * z := by ac_rfl
      _ ≤ p * r * z := Nat.mul_le_mul_right _ (Nat.mul_le_mul_left _ r1)
      _ ≤ _ := i1
  · refine Nat.lt_of_mul_lt_mul_right (a := 100000000) ?_
    calc y * 97902850 * 100000000 = y * 100000000 * 97902850 := by ac_rfl
      _ ≤ p * r * z * 100000000 := j
      _ < p * (10 * 100000000) * z * 100000000 := by
        refine Nat.mul_lt_mul_of_pos_right (Nat.mul_lt_mul_of_pos_right (Nat.mul_lt_mul_of_pos_left (by omega) hp) hz) (by omega)
      _ = p * 10 * z * 100000000 * 100000000 := by ac_rfl
theorem fin_up {p r z y : Nat} (hp : 0 < p) (hz : 0 < z) (r1 : 100000000 ≤ r) (r2 : r ≤ 999999999) (i1 : y * 100000000 ≤ p * r * z) (j : p * r * z * 97902850 ≤ y * 100000000 * 100000000) :
    y < p * 10 * z ∧ p * z * 97902850 ≤ y * 100000000 := by
  constructor
  · refine Nat.lt_of_mul_lt_mul_right (a := 100000000) ?_
    calc y * 100000000 ≤ p * r * z := i1
      _ < p * (10 * 100000000) * z := by
        refine Nat.mul_lt_mul_of_pos_right (Nat.mul_lt_mul_of_pos_left (by omega) hp) hz
      _ = p * 10 * z * 100000000 := by ac_rfl
  · refine Nat.le_of_mul_le_mul_right (c := 100000000) ?_ (by omega)
    calc p * z * 97902850 * 100000000 = p * 100000000 * z * 97902850 := by ac_rfl
      _ ≤ p * r * z * 97902850 := Nat.mul_le_mul_right _ (Nat.mul_le_mul_right _ (Nat.mul_le_mul_left _ r1))
      _ ≤ y * 100000000 * 100000000 := j
/-- What the lower bits say: a power lies between powers of ten. -/
theorem lgb_low (x : Nat) (h1 : 100000000 ≤ x) (h2 : x ≤ 999999999) : ∃ m : Nat, lgb false x = m ∧
    10 ^ m * 100000000 ^ NN ≤ x ^ NN ∧ x ^ NN * 97902850 < 10 ^ m * 10 * 100000000 ^ NN * 100000000 := by
  obtain ⟨m, r, e, ⟨r1, r2⟩, i1, i2⟩ := low_inv x h1 h2 20
  rw [show (2 : Nat) ^ 20 = NN from rfl] at i1 i2
  have j := cancel_err (errs 20) (Nat.pow_pos (by omega)) i2 err_20
  exact ⟨m, by unfold lgb; rw [e], fin_low (Nat.pow_pos (by omega)) (Nat.pow_pos (by omega)) r1 r2 i1 j⟩
/-- What the upper bits say. -/
theorem lgb_up (x : Nat) (h1 : 100000000 ≤ x) (h2 : x ≤ 999999999) : ∃ m : Nat, lgb true x = m ∧
    x ^ NN < 10 ^ m * 10 * 100000000 ^ NN ∧ 10 ^ m * 100000000 ^ NN * 97902850 ≤ x ^ NN * 100000000 := by
  obtain ⟨m, r, e, ⟨r1, r2⟩, i1, i2⟩ := up_inv x h1 h2 20
  rw [show (2 : Nat) ^ 20 = NN from rfl] at i1 i2
  have j := cancel_err (errs 20) (Nat.pow_pos (by omega)) i2 err_20
  exact ⟨m, by unfold lgb; rw [e], fin_up (Nat.pow_pos (by omega)) (Nat.pow_pos (by omega)) r1 r2 i1 j⟩

/-- Exponents out of powers of ten. -/
theorem pow_lt {m n : Nat} (h : 10 ^ m < 10 ^ n) : m < n := (Nat.pow_lt_pow_iff_right (by omega)).1 h
theorem pow_lt2 {n m j C F : Nat} (h : 10 ^ n * C < 10 ^ m * F) (hF : F ≤ 10 ^ j * C) : n < m + j := by
  refine pow_lt (Nat.lt_of_mul_lt_mul_right (a := C) ?_)
  calc 10 ^ n * C < 10 ^ m * F := h
    _ ≤ 10 ^ m * (10 ^ j * C) := Nat.mul_le_mul_left _ hF
    _ = 10 ^ (m + j) * C := by rw [Nat.pow_add, Nat.mul_assoc]
theorem two_err {A y B c D : Nat} (hc : 0 < c) (hD : 0 < D) (h1 : A * c ≤ y * D) (h2 : y * c < B * D) : A * (c * c) < B * (D * D) :=
  calc A * (c * c) = A * c * c := by ac_rfl
    _ ≤ y * D * c := Nat.mul_le_mul_right _ h1
    _ = y * c * D := by ac_rfl
    _ < B * D * D := Nat.mul_lt_mul_of_pos_right h2 hD
    _ = B * (D * D) := by ac_rfl
/-- The width of a logarithm, and its lower bits are not above the upper ones. -/
theorem lgb_width (x : Nat) (h1 : 100000000 ≤ x) (h2 : x ≤ 999999999) : lgb false x ≤ lgb true x ∧ lgb true x ≤ lgb false x + 1 := by
  obtain ⟨m, e, a1, a2⟩ := lgb_low x h1 h2
  obtain ⟨n, f, b1, b2⟩ := lgb_up x h1 h2
  rw [e, f]
  generalize x ^ NN = y at *
  generalize 100000000 ^ NN = z at *
  have c1 : m < n + 1 := by
    refine pow_lt (Nat.lt_of_mul_lt_mul_right (a := z) ?_)
    rw [Nat.pow_succ]
    exact Nat.lt_of_le_of_lt a1 b1
  have c2 : n < m + 1 + 1 := by
    have h3 := two_err (by omega) (by omega) b2 a2
    refine pow_lt2 (C := 97902850 * 97902850) (F := 100000000 * 100000000) (Nat.lt_of_mul_lt_mul_right (a := z) ?_) (by decide)
    rw [Nat.pow_succ]
    calc 10 ^ n * (97902850 * 97902850) * z = 10 ^ n * z * (97902850 * 97902850) := by ac_rfl
      _ < 10 ^ m * 10 * z * (100000000 * 100000000) := h3
      _ = 10 ^ m * 10 * (100000000 * 100000000) * z := by ac_rfl
  omega
/-- Bernoulli, the other way. -/
theorem bern2 (d : Nat) : ∀ E : Nat, d ^ E * (d + E) ≤ (d + 1) ^ E * d
  | 0 => by simp
  | E + 1 => by
    have ih := Nat.mul_le_mul_right (d + 1) (bern2 d E)
    rw [Nat.pow_succ (d + 1), Nat.pow_succ d]
    generalize (d + 1) ^ E = u at *
    generalize d ^ E = v at *
    calc v * d * (d + (E + 1)) = v * (d * d + d * E + d) := by rw [Nat.mul_assoc, Nat.mul_add d, Nat.mul_add_one d, Nat.add_assoc]
      _ ≤ v * (d * d + d * E + d + E) := Nat.mul_le_mul_left _ (by omega)
      _ = v * (d + E) * (d + 1) := by rw [Nat.mul_assoc, Nat.mul_add_one (d + E), Nat.add_mul d E, Nat.mul_comm E d]; congr 1; omega
      _ ≤ u * d * (d + 1) := ih
      _ = u * (d + 1) * d := by ac_rfl
/-- Greater figures have greater logarithms, without overlap. -/
theorem dig_bd (d : Nat) (h1 : 1000 ≤ d) (h2 : d ≤ 9999) : 100000000 ≤ d * 100000 ∧ d * 100000 ≤ 999999999 :=
  ⟨Nat.le_trans (by decide : 100000000 ≤ 1000 * 100000) (Nat.mul_le_mul_right _ h1), Nat.le_trans (Nat.mul_le_mul_right _ h2) (by decide)⟩
theorem fin_num (d : Nat) (h : d ≤ 9998) : 100 * (100000000 * 100000000 * d) ≤ 97902850 * 97902850 * (d + 1048576) := by
  have e1 : 100 * (100000000 * 100000000 * d) = 1000000000000000000 * d := by rw [← Nat.mul_assoc]
  have e2 : 97902850 * 97902850 * (d + 1048576) = 9584968038122500 * d + 10050567445542338560000 := by rw [Nat.mul_add]
  rw [e1, e2]
  exact Nat.le_trans (Nat.mul_le_mul_left _ h) (Nat.le_trans (by decide) (Nat.le_add_left _ _))
theorem lgb_next (d : Nat) (h1 : 1000 ≤ d) (h2 : d ≤ 9998) : lgb true (((d * 100000 : Nat) : Int)) + 1 < lgb false ((((d + 1) * 100000 : Nat) : Int)) := by
  obtain ⟨n, f, b1, b2⟩ := lgb_up (d * 100000) (dig_bd d (by omega) (by omega)).1 (dig_bd d (by omega) (by omega)).2
  obtain ⟨m, e, a1, a2⟩ := lgb_low ((d + 1) * 100000) (dig_bd (d + 1) (by omega) (by omega)).1 (dig_bd (d + 1) (by omega) (by omega)).2
  have hu : 0 < d ^ NN := Nat.pow_pos (by omega)
  have hv : 0 < 100000 ^ NN := Nat.pow_pos (by omega)
  have hb := bern2 d NN
  rw [e, f]
  rw [Nat.mul_pow] at b2 a2
  have key : 10 ^ n * (97902850 * 97902850 * (d + NN)) < 10 ^ (m + 1) * (100000000 * 100000000 * d) := by
    rw [Nat.pow_succ]
    generalize (d + 1) ^ NN = g at *
    generalize d ^ NN = u at *
    generalize 100000 ^ NN = v at *
    generalize 100000000 ^ NN = z at *
    refine Nat.lt_of_mul_lt_mul_right (a := z * u * v) ?_
    calc 10 ^ n * (97902850 * 97902850 * (d + NN)) * (z * u * v) = (10 ^ n * z * 97902850) * (97902850 * v * (u * (d + NN))) := by ac_rfl
      _ ≤ (u * v * 100000000) * (97902850 * v * (u * (d + NN))) := Nat.mul_le_mul_right _ b2
      _ ≤ (u * v * 100000000) * (97902850 * v * (g * d)) := Nat.mul_le_mul_left _ (Nat.mul_le_mul_left _ hb)
      _ = (g * v * 97902850) * (u * v * 100000000 * d) := by ac_rfl
      _ < (10 ^ m * 10 * z * 100000000) * (u * v * 100000000 * d) := Nat.mul_lt_mul_of_pos_right a2 (Nat.mul_pos (Nat.mul_pos (Nat.mul_pos hu hv) (by omega)) (by omega))
      _ = 10 ^ m * 10 * (100000000 * 100000000 * d) * (z * u * v) := by ac_rfl
  rw [NN_eq] at key
  have fin : n + 2 < m + 1 := by
    refine pow_lt (Nat.lt_of_mul_lt_mul_right (a := 100000000 * 100000000 * d) ?_)
    calc 10 ^ (n + 2) * (100000000 * 100000000 * d) = 10 ^ n * (100 * (100000000 * 100000000 * d)) := by rw [Nat.pow_add, Nat.mul_assoc]
      _ ≤ 10 ^ n * (97902850 * 97902850 * (d + 1048576)) := Nat.mul_le_mul_left _ (fin_num d h2)
      _ < _ := key
  omega
end Go.Proofs.YtgadkpkpdpphbaaDoor
