/- Plain mathematics of chapter 1: values, divisions that are rounded, powers of ten, divisors. No program is imported here. -/
namespace Go.Proofs.YtgadkpkpdpphbaaDoor
set_option linter.unusedSimpArgs false
set_option linter.unusedVariables false
def vl (n : Int) : Bool := decide (-1000000000000 ≤ n ∧ n ≤ 1000000000000)
theorem vl_iff (n : Int) : vl n = true ↔ (-1000000000000 ≤ n ∧ n ≤ 1000000000000) := by unfold vl; simp
theorem vl_not (n : Int) : vl n = false ↔ (n < -1000000000000 ∨ 1000000000000 < n) := by unfold vl; simp; omega
def dcode (a b : Int) : Int := if (vl a && vl b) = false then 2 else if b = 0 then 5 else 0
theorem dcode0 (a b : Int) (h : dcode a b = 0) : (-1000000000000 ≤ a ∧ a ≤ 1000000000000) ∧ (-1000000000000 ≤ b ∧ b ≤ 1000000000000) ∧ b ≠ 0 := by
  unfold dcode at h
  by_cases h1 : (vl a && vl b) = false
  · simp [h1] at h
  · by_cases h2 : b = 0
    · simp [h1, h2] at h; split at h <;> omega
    · simp at h1; exact ⟨(vl_iff a).1 (by cases h : vl a <;> simp_all), (vl_iff b).1 (by cases h : vl b <;> simp_all), h2⟩

theorem tdiv_bd (a b B : Int) (h : -B ≤ a) (h' : a ≤ B) : -B ≤ a.tdiv b ∧ a.tdiv b ≤ B := by
  have h1 := Int.natAbs_tdiv a b
  have h2 : a.natAbs / b.natAbs ≤ a.natAbs := Nat.div_le_self _ _
  have h3 : a.natAbs.div b.natAbs = a.natAbs / b.natAbs := rfl
  rw [h3] at h1
  omega
theorem tdiv_zero_bd (a b B : Int) (h : -B ≤ a) (h' : a ≤ B) (hb : b < -1 ∨ 1 < b) : -(B / 2) ≤ a.tdiv b ∧ a.tdiv b ≤ B / 2 := by
  have h1 := Int.natAbs_tdiv a b
  have h3 : a.natAbs.div b.natAbs = a.natAbs / b.natAbs := rfl
  have h4 : a.natAbs / b.natAbs ≤ a.natAbs / 2 := Nat.div_le_div_left (by omega) (by omega)
  rw [h3] at h1
  omega
theorem dvd_tmod (a b : Int) : b ∣ a ↔ a.tmod b = 0 := ⟨Int.tmod_eq_zero_of_dvd, Int.dvd_of_tmod_eq_zero⟩
theorem fd_eq0 (a b : Int) (h : a.tmod b = 0) : a.tdiv b = a.fdiv b := by
  have hd := (dvd_tmod a b).2 h
  rw [Int.fdiv_eq_tdiv, if_pos hd]; omega
theorem fd_pos (a b : Int) (h1 : 0 ≤ a) (h2 : 0 ≤ b) : a.tdiv b = a.fdiv b := by
  rw [Int.fdiv_eq_tdiv, if_pos h1, if_pos h2]; split <;> omega
theorem fd_neg (a b : Int) (h1 : a < 0) (h2 : b < 0) : a.tdiv b = a.fdiv b := by
  rw [Int.fdiv_eq_tdiv, if_neg (show ¬ 0 ≤ a by omega), if_neg (show ¬ 0 ≤ b by omega), Int.sign_eq_neg_one_of_neg h2]; split <;> omega
theorem fd_ediv (a b : Int) (h1 : 0 ≤ b) : a / b = a.fdiv b := (Int.fdiv_eq_ediv_of_nonneg a h1).symm
theorem fd_m1 (a b : Int) (h : ¬ a.tmod b = 0) (h1 : a < 0) (h2 : 0 ≤ b) (h3 : b ≠ 0) : a.tdiv b - 1 = a.fdiv b := by
  rw [Int.fdiv_eq_tdiv, if_neg (fun hd => h ((dvd_tmod a b).1 hd)), if_neg (by omega), if_pos h2, Int.sign_eq_one_of_pos (by omega)]
theorem fd_m2 (a b : Int) (h : ¬ a.tmod b = 0) (h1 : 0 ≤ a) (h2 : b < 0) : a.tdiv b - 1 = a.fdiv b := by
  rw [Int.fdiv_eq_tdiv, if_neg (fun hd => h ((dvd_tmod a b).1 hd)), if_pos h1, if_neg (by omega)]
theorem tm_emod (a b : Int) (h1 : 0 ≤ a) : a % b = a.tmod b := (Int.tmod_eq_emod_of_nonneg h1).symm
theorem tm_neg (a b : Int) (h1 : a < 0) : a.tmod b ≤ 0 := by
  have h := Int.tmod_nonneg (a := -a) b (by omega)
  rw [Int.neg_tmod] at h; omega
/-- What a rounded down quotient is, by the signs: the cases of both texts. -/
theorem fl_1 (a b : Int) (h1 : a < 0) (h2 : b < 0) (h : 0 < a.tmod b) (x : Int) : x = a.fdiv b := by
  have := tm_neg a b h1; omega
theorem fl_2 (a b : Int) (h1 : a < 0) (h2 : 0 ≤ b) (hb : b ≠ 0) (h : a.tmod b < 0) : a.tdiv b - 1 = a.fdiv b := fd_m1 a b (by omega) h1 h2 hb
theorem fl_3 (a b : Int) (h1 : a < 0) (h : 0 ≤ a.tmod b) : a.tdiv b = a.fdiv b := fd_eq0 a b (by have := tm_neg a b h1; omega)
theorem fl_4 (a b : Int) (h1 : 0 ≤ a) (h2 : b < 0) (h : 0 < a % b) : a.tdiv b - 1 = a.fdiv b := fd_m2 a b (by rw [← tm_emod a b h1]; omega) h1 h2
theorem fl_5 (a b : Int) (h1 : 0 ≤ a) (h2 : b < 0) (h : a % b ≤ 0) : a.tdiv b = a.fdiv b := fd_eq0 a b (by rw [← tm_emod a b h1]; have := Int.emod_nonneg a (show b ≠ 0 by omega); omega)
theorem fl_6 (a b : Int) (h1 : 0 ≤ a) (h2 : 0 ≤ b) (hb : b ≠ 0) (h : a % b < 0) (x : Int) : x = a.fdiv b := by
  have := Int.emod_nonneg a hb; omega
/-- The up and nearest quotients. -/
def cd (a b : Int) : Int := -((-a).fdiv b)
def nd (a b : Int) : Int := (2 * a + b).fdiv (2 * b)
theorem fd_bd (a b B : Int) (h : -B ≤ a) (h' : a ≤ B) : -B - 2 ≤ a.fdiv b ∧ a.fdiv b ≤ B + 2 := by
  have := tdiv_bd a b B h h'
  rw [Int.fdiv_eq_tdiv]
  have hs : b.sign = 1 ∨ b.sign = 0 ∨ b.sign = -1 := by
    rcases Int.lt_trichotomy b 0 with h | h | h
    · right; right; exact Int.sign_eq_neg_one_of_neg h
    · right; left; rw [h]; rfl
    · left; exact Int.sign_eq_one_of_pos h
  split
  · omega
  · split
    · split <;> omega
    · split <;> omega
theorem cd_bd (a b B : Int) (h : -B ≤ a) (h' : a ≤ B) : -B - 2 ≤ (-a).fdiv b ∧ (-a).fdiv b ≤ B + 2 := fd_bd (-a) b B (by omega) (by omega)
theorem nd_neg (a b : Int) : nd (-a) (-b) = nd a b := by
  unfold nd
  rw [show 2 * -a + -b = -(2 * a + b) by omega, show 2 * -b = -(2 * b) by omega, Int.neg_fdiv_neg]
def p10 : Nat → Int
  | 0 => 1
  | n + 1 => 10 * p10 n
theorem p10_succ (n : Nat) : p10 (n + 1) = 10 * p10 n := rfl
theorem p10_bd (n : Nat) (h : n ≤ 12) : 1 ≤ p10 n ∧ p10 n ≤ 1000000000000 := by
  have : n = 0 ∨ n = 1 ∨ n = 2 ∨ n = 3 ∨ n = 4 ∨ n = 5 ∨ n = 6 ∨ n = 7 ∨ n = 8 ∨ n = 9 ∨ n = 10 ∨ n = 11 ∨ n = 12 := by omega
  rcases this with h | h | h | h | h | h | h | h | h | h | h | h | h <;> subst h <;> decide
def pw (n : Int) : Int × Int := if 0 ≤ n ∧ n ≤ 12 then (p10 n.toNat, 0) else (0, 2)
theorem pw_def (n : Int) : pw n = if 0 ≤ n ∧ n ≤ 12 then (p10 n.toNat, 0) else (0, 2) := rfl
/-- The results of the public functions of chapter 1. -/
def ddR (a b : Int) : Int × Int := if dcode a b = 0 then (a.fdiv b, 0) else (0, dcode a b)
def duR (a b : Int) : Int × Int := if dcode a b = 0 then (cd a b, 0) else (0, dcode a b)
def dnR (a b : Int) : Int × Int := if dcode a b = 0 then (nd a b, 0) else (0, dcode a b)
def gcR (a b : Int) : Int × Int := if (vl a && vl b) = false then (0, 2) else ((Nat.gcd a.natAbs b.natAbs : Nat), 0)
theorem ddR_ok (a b : Int) (h : dcode a b = 0) : ddR a b = (a.fdiv b, 0) := if_pos h
theorem ddR_no (a b : Int) (h : dcode a b ≠ 0) : ddR a b = (0, dcode a b) := if_neg h
theorem duR_ok (a b : Int) (h : dcode a b = 0) : duR a b = (cd a b, 0) := if_pos h
theorem duR_no (a b : Int) (h : dcode a b ≠ 0) : duR a b = (0, dcode a b) := if_neg h
theorem dnR_ok (a b : Int) (h : dcode a b = 0) : dnR a b = (nd a b, 0) := if_pos h
theorem dnR_no (a b : Int) (h : dcode a b ≠ 0) : dnR a b = (0, dcode a b) := if_neg h
theorem pw_ok (n : Int) (h : 0 ≤ n) (h' : n ≤ 12) : pw n = (p10 n.toNat, 0) := if_pos ⟨h, h'⟩
theorem pw_no (n : Int) (h : n < 0 ∨ 12 < n) : pw n = (0, 2) := if_neg (by omega)
theorem max_nat (a b : Nat) : (if (a : Int) < b then (b : Int) else a) = ((max a b : Nat) : Int) := by split <;> omega
theorem min_nat (a b : Nat) : (if (b : Int) < a then (b : Int) else a) = ((min a b : Nat) : Int) := by split <;> omega
theorem gcd_maxmin (a b : Nat) : Nat.gcd (max a b) (min a b) = Nat.gcd a b := by
  rcases Nat.le_total a b with h | h
  · rw [Nat.max_eq_right h, Nat.min_eq_left h, Nat.gcd_comm]
  · rw [Nat.max_eq_left h, Nat.min_eq_right h]
theorem abs_max (a : Int) : (if a < -a then -a else a) = a.natAbs := by split <;> omega
theorem gcR_ok (a b : Int) (h : ¬ (vl a && vl b) = false) : gcR a b = (((Nat.gcd a.natAbs b.natAbs : Nat) : Int), 0) := if_neg h
theorem gcR_no (a b : Int) (h : (vl a && vl b) = false) : gcR a b = (0, 2) := if_pos h
theorem gcd_facts (a b : Int) : (a.tmod (Nat.gcd a.natAbs b.natAbs : Nat) = 0 ∧ a % (Nat.gcd a.natAbs b.natAbs : Nat) = 0) ∧ (b.tmod (Nat.gcd a.natAbs b.natAbs : Nat) = 0 ∧ b % (Nat.gcd a.natAbs b.natAbs : Nat) = 0) := by
  have h1 : ((Nat.gcd a.natAbs b.natAbs : Nat) : Int) ∣ a := Int.ofNat_dvd_left.2 (Nat.gcd_dvd_left _ _)
  have h2 : ((Nat.gcd a.natAbs b.natAbs : Nat) : Int) ∣ b := Int.ofNat_dvd_left.2 (Nat.gcd_dvd_right _ _)
  exact ⟨⟨Int.tmod_eq_zero_of_dvd h1, Int.emod_eq_zero_of_dvd h1⟩, ⟨Int.tmod_eq_zero_of_dvd h2, Int.emod_eq_zero_of_dvd h2⟩⟩
theorem gcd_zero (a b : Int) (h : Nat.gcd a.natAbs b.natAbs = 0) : a = 0 ∧ b = 0 := by
  have h1 := Nat.eq_zero_of_gcd_eq_zero_left h
  have h2 := Nat.eq_zero_of_gcd_eq_zero_right h
  omega
theorem p10_pow (n : Nat) : p10 n = (10 ^ n : Nat) := by
  induction n with
  | zero => rfl
  | succ n ih => rw [p10_succ, ih, Nat.pow_succ]; omega
end Go.Proofs.YtgadkpkpdpphbaaDoor
