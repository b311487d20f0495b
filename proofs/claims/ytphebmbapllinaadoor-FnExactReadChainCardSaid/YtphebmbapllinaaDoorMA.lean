/- Plain mathematics, merged. -/
/- Plain mathematics of chapter 1: values, divisions that are rounded, powers of ten, divisors. No program is imported here. -/
namespace Go.Proofs.YtphebmbapllinaaDoor
set_option linter.unusedSimpArgs false
set_option linter.unusedVariables false
def vl (n : Int) : Bool := decide (-1000000000000 ≤ n ∧ n ≤ 1000000000000)
theorem vl_iff (n : Int) : vl n = true ↔ (-1000000000000 ≤ n ∧ n ≤ 1000000000000) := by unfold vl; simp
theorem vl_not (n : Int) : vl n = false ↔ (n < -1000000000000 ∨ 1000000000000 < n) := by unfold vl; simp; omega
def dcode (a b : Int) : Int := if (vl a && vl b) = false then 2 else if b = 0 then 5 else 0
theorem dcode0 (a b : Int) (h : dcode a b = 0) : (-1000000000000 ≤ a ∧ a ≤ 1000000000000) ∧ (-1000000000000 ≤ b ∧ b ≤ 1000000000000) ∧ b ≠ 0 := by
  unfold dcode at h
  by_cases h1 : (vl a && vl b) = false
  · simp [h1] at h
  · by_cases h2 : b = 0
    · simp [h1, h2] at h; split at h <;> omega
    · simp at h1; exact ⟨(vl_iff a).1 (by cases h : vl a <;> simp_all), (vl_iff b).1 (by cases h : vl b <;> simp_all), h2⟩

theorem tdiv_bd (a b B : Int) (h : -B ≤ a) (h' : a ≤ B) : -B ≤ a.tdiv b ∧ a.tdiv b ≤ B := by
  have h1 := Int.natAbs_tdiv a b
  have h2 : a.natAbs / b.natAbs ≤ a.natAbs := Nat.div_le_self _ _
  have h3 : a.natAbs.div b.natAbs = a.natAbs / b.natAbs := rfl
  rw [h3] at h1
  omega
theorem tdiv_zero_bd (a b B : Int) (h : -B ≤ a) (h' : a ≤ B) (hb : b < -1 ∨ 1 < b) : -(B / 2) ≤ a.tdiv b ∧ a.tdiv b ≤ B / 2 := by
  have h1 := Int.natAbs_tdiv a b
  have h3 : a.natAbs.div b.natAbs = a.natAbs / b.natAbs := rfl
  have h4 : a.natAbs / b.natAbs ≤ a.natAbs / 2 := Nat.div_le_div_left (by omega) (by omega)
  rw [h3] at h1
  omega
theorem dvd_tmod (a b : Int) : b ∣ a ↔ a.tmod b = 0 := ⟨Int.tmod_eq_zero_of_dvd, Int.dvd_of_tmod_eq_zero⟩
theorem fd_eq0 (a b : Int) (h : a.tmod b = 0) : a.tdiv b = a.fdiv b := by
  have hd := (dvd_tmod a b).2 h
  rw [Int.fdiv_eq_tdiv, if_pos hd]; omega
theorem fd_pos (a b : Int) (h1 : 0 ≤ a) (h2 : 0 ≤ b) : a.tdiv b = a.fdiv b := by
  rw [Int.fdiv_eq_tdiv, if_pos h1, if_pos h2]; split <;> omega
theorem fd_neg (a b : Int) (h1 : a < 0) (h2 : b < 0) : a.tdiv b = a.fdiv b := by
  rw [Int.fdiv_eq_tdiv, if_neg (show ¬ 0 ≤ a by omega), if_neg (show ¬ 0 ≤ b by omega), Int.sign_eq_neg_one_of_neg h2]; split <;> omega
theorem fd_ediv (a b : Int) (h1 : 0 ≤ b) : a / b = a.fdiv b := (Int.fdiv_eq_ediv_of_nonneg a h1).symm
theorem fd_m1 (a b : Int) (h : ¬ a.tmod b = 0) (h1 : a < 0) (h2 : 0 ≤ b) (h3 : b ≠ 0) : a.tdiv b - 1 = a.fdiv b := by
  rw [Int.fdiv_eq_tdiv, if_neg (fun hd => h ((dvd_tmod a b).1 hd)), if_neg (by omega), if_pos h2, Int.sign_eq_one_of_pos (by omega)]
theorem fd_m2 (a b : Int) (h : ¬ a.tmod b = 0) (h1 : 0 ≤ a) (h2 : b < 0) : a.tdiv b - 1 = a.fdiv b := by
  rw [Int.fdiv_eq_tdiv, if_neg (fun hd => h ((dvd_tmod a b).1 hd)), if_pos h1, if_neg (by omega)]
theorem tm_emod (a b : Int) (h1 : 0 ≤ a) : a % b = a.tmod b := (Int.tmod_eq_emod_of_nonneg h1).symm
theorem tm_neg (a b : Int) (h1 : a < 0) : a.tmod b ≤ 0 := by
  have h := Int.tmod_nonneg (a := -a) b (by omega)
  rw [Int.neg_tmod] at h; omega
/-- What a rounded down quotient is, by the signs: the cases of both texts. -/
theorem fl_1 (a b : Int) (h1 : a < 0) (h2 : b < 0) (h : 0 < a.tmod b) (x : Int) : x = a.fdiv b := by
  have := tm_neg a b h1; omega
theorem fl_2 (a b : Int) (h1 : a < 0) (h2 : 0 ≤ b) (hb : b ≠ 0) (h : a.tmod b < 0) : a.tdiv b - 1 = a.fdiv b := fd_m1 a b (by omega) h1 h2 hb
theorem fl_3 (a b : Int) (h1 : a < 0) (h : 0 ≤ a.tmod b) : a.tdiv b = a.fdiv b := fd_eq0 a b (by have := tm_neg a b h1; omega)
theorem fl_4 (a b : Int) (h1 : 0 ≤ a) (h2 : b < 0) (h : 0 < a % b) : a.tdiv b - 1 = a.fdiv b := fd_m2 a b (by rw [← tm_emod a b h1]; omega) h1 h2
theorem fl_5 (a b : Int) (h1 : 0 ≤ a) (h2 : b < 0) (h : a % b ≤ 0) : a.tdiv b = a.fdiv b := fd_eq0 a b (by rw [← tm_emod a b h1]; have := Int.emod_nonneg a (show b ≠ 0 by omega); omega)
theorem fl_6 (a b : Int) (h1 : 0 ≤ a) (h2 : 0 ≤ b) (hb : b ≠ 0) (h : a % b < 0) (x : Int) : x = a.fdiv b := by
  have := Int.emod_nonneg a hb; omega
/-- The up and nearest quotients. -/
def cd (a b : Int) : Int := -((-a).fdiv b)
def nd (a b : Int) : Int := (2 * a + b).fdiv (2 * b)
theorem fd_bd (a b B : Int) (h : -B ≤ a) (h' : a ≤ B) : -B - 2 ≤ a.fdiv b ∧ a.fdiv b ≤ B + 2 := by
  have := tdiv_bd a b B h h'
  rw [Int.fdiv_eq_tdiv]
  have hs : b.sign = 1 ∨ b.sign = 0 ∨ b.sign = -1 := by
    rcases Int.lt_trichotomy b 0 with h | h | h
    · right; right; exact Int.sign_eq_neg_one_of_neg h
    · right; left; rw [h]; rfl
    · left; exact Int.sign_eq_one_of_pos h
  split
  · omega
  · split
    · split <;> omega
    · split <;> omega
theorem cd_bd (a b B : Int) (h : -B ≤ a) (h' : a ≤ B) : -B - 2 ≤ (-a).fdiv b ∧ (-a).fdiv b ≤ B + 2 := fd_bd (-a) b B (by omega) (by omega)
theorem nd_neg (a b : Int) : nd (-a) (-b) = nd a b := by
  unfold nd
  rw [show 2 * -a + -b = -(2 * a + b) by omega, show 2 * -b = -(2 * b) by omega, Int.neg_fdiv_neg]
def p10 : Nat → Int
  | 0 => 1
  | n + 1 => 10 * p10 n
theorem p10_succ (n : Nat) : p10 (n + 1) = 10 * p10 n := rfl
theorem p10_bd (n : Nat) (h : n ≤ 12) : 1 ≤ p10 n ∧ p10 n ≤ 1000000000000 := by
  have : n = 0 ∨ n = 1 ∨ n = 2 ∨ n = 3 ∨ n = 4 ∨ n = 5 ∨ n = 6 ∨ n = 7 ∨ n = 8 ∨ n = 9 ∨ n = 10 ∨ n = 11 ∨ n = 12 := by omega
  rcases this with h | h | h | h | h | h | h | h | h | h | h | h | h <;> subst h <;> decide
def pw (n : Int) : Int × Int := if 0 ≤ n ∧ n ≤ 12 then (p10 n.toNat, 0) else (0, 2)
theorem pw_def (n : Int) : pw n = if 0 ≤ n ∧ n ≤ 12 then (p10 n.toNat, 0) else (0, 2) := rfl
/-- The results of the public functions of chapter 1. -/
def ddR (a b : Int) : Int × Int := if dcode a b = 0 then (a.fdiv b, 0) else (0, dcode a b)
def duR (a b : Int) : Int × Int := if dcode a b = 0 then (cd a b, 0) else (0, dcode a b)
def dnR (a b : Int) : Int × Int := if dcode a b = 0 then (nd a b, 0) else (0, dcode a b)
def gcR (a b : Int) : Int × Int := if (vl a && vl b) = false then (0, 2) else ((Nat.gcd a.natAbs b.natAbs : Nat), 0)
theorem ddR_ok (a b : Int) (h : dcode a b = 0) : ddR a b = (a.fdiv b, 0) := if_pos h
theorem ddR_no (a b : Int) (h : dcode a b ≠ 0) : ddR a b = (0, dcode a b) := if_neg h
theorem duR_ok (a b : Int) (h : dcode a b = 0) : duR a b = (cd a b, 0) := if_pos h
theorem duR_no (a b : Int) (h : dcode a b ≠ 0) : duR a b = (0, dcode a b) := if_neg h
theorem dnR_ok (a b : Int) (h : dcode a b = 0) : dnR a b = (nd a b, 0) := if_pos h
theorem dnR_no (a b : Int) (h : dcode a b ≠ 0) : dnR a b = (0, dcode a b) := if_neg h
theorem pw_ok (n : Int) (h : 0 ≤ n) (h' : n ≤ 12) : pw n = (p10 n.toNat, 0) := if_pos ⟨h, h'⟩
theorem pw_no (n : Int) (h : n < 0 ∨ 12 < n) : pw n = (0, 2) := if_neg (by omega)
theorem max_nat (a b : Nat) : (if (a : Int) < b then (b : Int) else a) = ((max a b : Nat) : Int) := by split <;> omega
theorem min_nat (a b : Nat) : (if (b : Int) < a then (b : Int) else a) = ((min a b : Nat) : Int) := by split <;> omega
theorem gcd_maxmin (a b : Nat) : Nat.gcd (max a b) (min a b) = Nat.gcd a b := by
  rcases Nat.le_total a b with h | h
  · rw [Nat.max_eq_right h, Nat.min_eq_left h, Nat.gcd_comm]
  · rw [Nat.max_eq_left h, Nat.min_eq_right h]
theorem abs_max (a : Int) : (if a < -a then -a else a) = a.natAbs := by split <;> omega
theorem gcR_ok (a b : Int) (h : ¬ (vl a && vl b) = false) : gcR a b = (((Nat.gcd a.natAbs b.natAbs : Nat) : Int), 0) := if_neg h
theorem gcR_no (a b : Int) (h : (vl a && vl b) = false) : gcR a b = (0, 2) := if_pos h
theorem gcd_facts (a b : Int) : (a.tmod (Nat.gcd a.natAbs b.natAbs : Nat) = 0 ∧ a % (Nat.gcd a.natAbs b.natAbs : Nat) = 0) ∧ (b.tmod (Nat.gcd a.natAbs b.natAbs : Nat) = 0 ∧ b % (Nat.gcd a.natAbs b.natAbs : Nat) = 0) := by
  have h1 : ((Nat.gcd a.natAbs b.natAbs : Nat) : Int) ∣ a := Int.ofNat_dvd_left.2 (Nat.gcd_dvd_left _ _)
  have h2 : ((Nat.gcd a.natAbs b.natAbs : Nat) : Int) ∣ b := Int.ofNat_dvd_left.2 (Nat.gcd_dvd_right _ _)
  exact ⟨⟨Int.tmod_eq_zero_of_dvd h1, Int.emod_eq_zero_of_dvd h1⟩, ⟨Int.tmod_eq_zero_of_dvd h2, Int.emod_eq_zero_of_dvd h2⟩⟩
theorem gcd_zero (a b : Int) (h : Nat.gcd a.natAbs b.natAbs = 0) : a = 0 ∧ b = 0 := by
  have h1 := Nat.eq_zero_of_gcd_eq_zero_left h
  have h2 := Nat.eq_zero_of_gcd_eq_zero_right h
  omega
theorem p10_pow (n : Nat) : p10 n = (10 ^ n : Nat) := by
  induction n with
  | zero => rfl
  | succ n ih => rw [p10_succ, ih, Nat.pow_succ]; omega
end Go.Proofs.YtphebmbapllinaaDoor

/- Plain mathematics of rounded fractions: where the three quotients lie. -/
namespace Go.Proofs.YtphebmbapllinaaDoor
set_option linter.unusedSimpArgs false
set_option linter.unusedVariables false
theorem lt_of_mul {x y b : Int} (hb : 0 < b) (h : x * b < y * b) : x < y := by
  rcases Int.lt_or_le x y with h1 | h1
  · exact h1
  · have := Int.mul_le_mul_of_nonneg_right h1 (Int.le_of_lt hb); omega

/-- What the three quotients are for a positive divisor. -/
structure Frac (a b x y z : Int) : Prop where
  lo : x * b ≤ a
  lo' : a < x * b + b
  hi : a ≤ y * b
  hi' : y * b < a + b
  ne : 2 * (z * b) ≤ 2 * a + b
  ne' : 2 * a < 2 * (z * b) + b
  xy : x ≤ y
  yx : y ≤ x + 1
  zz : z = x ∨ z = y

theorem ediv_two (a b : Int) (hb : 0 < b) : a / b * b ≤ a ∧ a < a / b * b + b := by
  have h1 := Int.mul_ediv_add_emod a b
  have h2 := Int.emod_nonneg a (show b ≠ 0 by omega)
  have h3 := Int.emod_lt_of_pos a hb
  rw [Int.mul_comm] at h1
  omega

theorem frac_pos (a b : Int) (hb : 0 < b) : Frac a b (a.fdiv b) (cd a b) (nd a b) := by
  have hx : a.fdiv b = a / b := Int.fdiv_eq_ediv_of_nonneg a (by omega)
  have hy : cd a b = -((-a) / b) := by unfold cd; rw [Int.fdiv_eq_ediv_of_nonneg (-a) (by omega)]
  have hz : nd a b = (2 * a + b) / (2 * b) := by unfold nd; rw [Int.fdiv_eq_ediv_of_nonneg _ (by omega)]
  rw [hx, hy, hz]
  obtain ⟨x1, x2⟩ := ediv_two a b hb
  obtain ⟨y1, y2⟩ := ediv_two (-a) b hb
  obtain ⟨z1, z2⟩ := ediv_two (2 * a + b) (2 * b) (by omega)
  generalize a / b = x at *
  generalize (-a) / b = y at *
  generalize (2 * a + b) / (2 * b) = z at *
  have e1 : z * (2 * b) = 2 * (z * b) := by rw [Int.mul_left_comm]
  have e2 : -y * b = -(y * b) := Int.neg_mul _ _
  rw [e1] at z1 z2
  have xy : x ≤ -y := by
    have : x < -y + 1 := lt_of_mul hb (by rw [Int.add_mul, e2]; omega)
    omega
  have yx : -y ≤ x + 1 := by
    have : -y < x + 1 + 1 := lt_of_mul hb (by rw [Int.add_mul, Int.add_mul, e2]; omega)
    omega
  have zx : x ≤ z := by
    have : x < z + 1 := lt_of_mul hb (by rw [Int.add_mul]; omega)
    omega
  have zy : z ≤ -y := by
    have : z < -y + 1 := lt_of_mul hb (by rw [Int.add_mul, e2]; omega)
    omega
  exact ⟨x1, x2, by rw [e2]; omega, by rw [e2]; omega, by omega, by omega, xy, yx, by omega⟩

theorem dd_flip (a b : Int) : (-a).fdiv (-b) = a.fdiv b := Int.neg_fdiv_neg a b
theorem cd_flip (a b : Int) : cd (-a) (-b) = cd a b := by unfold cd; rw [show - -a = -(-a) from rfl, Int.neg_fdiv_neg (-a) b]

/-- The same of values, whichever sign the divisor has. -/
theorem frac_all (a b : Int) (h : dcode a b = 0) : ∃ x y z : Int, ddR a b = (x, 0) ∧ duR a b = (y, 0) ∧ dnR a b = (z, 0) ∧
    (0 < b → Frac a b x y z) ∧ (b < 0 → Frac (-a) (-b) x y z) ∧ (-1000000000004 ≤ x ∧ x ≤ 1000000000004) ∧ (-1000000000004 ≤ y ∧ y ≤ 1000000000004) ∧ (z = x ∨ z = y) := by
  obtain ⟨⟨a1, a2⟩, ⟨b1, b2⟩, hb⟩ := dcode0 a b h
  refine ⟨a.fdiv b, cd a b, nd a b, ddR_ok a b h, duR_ok a b h, dnR_ok a b h, fun hb => frac_pos a b hb, fun hb => ?_, ?_, ?_, ?_⟩
  · have := frac_pos (-a) (-b) (by omega)
    rw [dd_flip, cd_flip, nd_neg] at this
    exact this
  · have := fd_bd a b 1000000000000 (by omega) (by omega); omega
  · have := cd_bd a b 1000000000000 (by omega) (by omega); unfold cd; omega
  · rcases Int.lt_or_gt_of_ne hb with hb | hb
    · have := (frac_pos (-a) (-b) (by omega)).zz
      rw [dd_flip, cd_flip, nd_neg] at this
      exact this
    · exact (frac_pos a b hb).zz
end Go.Proofs.YtphebmbapllinaaDoor

/- Plain mathematics of chapter 2: figures, fractions rounded to a figure. No program is imported here. -/
namespace Go.Proofs.YtphebmbapllinaaDoor
set_option linter.unusedSimpArgs false
set_option linter.unusedVariables false

/-- A valid figure. -/
def fg (d t : Int) : Bool := decide ((1000 ≤ d ∧ d ≤ 9999) ∧ (-30 ≤ t ∧ t ≤ 30))
theorem fg_iff (d t : Int) : fg d t = true ↔ ((1000 ≤ d ∧ d ≤ 9999) ∧ (-30 ≤ t ∧ t ≤ 30)) := by unfold fg; simp
theorem fg_not (d t : Int) : fg d t = false ↔ ¬ ((1000 ≤ d ∧ d ≤ 9999) ∧ (-30 ≤ t ∧ t ≤ 30)) := by unfold fg; simp

/-- The rounded digits, where 10000 becomes 1000 with one more ten. -/
def nrm (x t : Int) : Int × Int := if 9999 < x then (1000, t + 1) else (x, t)
theorem nrm_hi (x t : Int) (h : 9999 < x) : nrm x t = (1000, t + 1) := if_pos h
theorem nrm_lo (x t : Int) (h : x ≤ 9999) : nrm x t = (x, t) := if_neg (by omega)

/-- A fraction rounded to a figure. -/
def rdd (n d t : Int) : Int × Int :=
  if d ≤ 0 ∨ n ≤ 0 then (0, 0)
  else if 10000 * d ≤ n then rdd n (10 * d) (t + 1)
  else if n < 1000 * d then rdd (10 * n) d (t - 1)
  else nrm (nd n d) t
termination_by ((if 10000 * d ≤ n then 1 else 0 : Nat), (if 10000 * d ≤ n then n - d else 1000 * d - n).toNat)
decreasing_by
  · rename_i h1 h2
    by_cases h : 10000 * (10 * d) ≤ n
    · rw [if_pos h, if_pos h2, if_pos h, if_pos h2]
      exact Prod.Lex.right _ (by omega)
    · rw [if_neg h, if_pos h2]
      exact Prod.Lex.left _ _ (by omega)
  · rename_i h1 h2 h3
    rw [if_neg h2, if_neg (show ¬ 10000 * d ≤ 10 * n by omega), if_neg h2, if_neg (show ¬ 10000 * d ≤ 10 * n by omega)]
    exact Prod.Lex.right _ (by omega)
theorem rdd_up (n d t : Int) (hd : 0 < d) (hn : 0 < n) (h : 10000 * d ≤ n) : rdd n (10 * d) (t + 1) = rdd n d t := by
  rw [rdd.eq_1 n d t, if_neg (by omega), if_pos h]
theorem rdd_down (n d t : Int) (hd : 0 < d) (hn : 0 < n) (h : n < 1000 * d) : rdd (10 * n) d (t - 1) = rdd n d t := by
  rw [rdd.eq_1 n d t, if_neg (by omega), if_neg (by omega), if_pos h]
theorem rdd_base (n d t : Int) (hd : 0 < d) (h1 : n < 10000 * d) (h2 : 1000 * d ≤ n) : rdd n d t = nrm (nd n d) t := by
  rw [rdd.eq_1 n d t, if_neg (by omega), if_neg (by omega), if_neg (by omega)]

theorem nd_bd (n d : Int) (hd : 0 < d) (h1 : n < 10000 * d) (h2 : 1000 * d ≤ n) : 1000 ≤ nd n d ∧ nd n d ≤ 10000 := by
  have h := frac_pos n d hd
  have e1 := h.ne
  have e2 := h.ne'
  generalize nd n d = z at *
  constructor
  · have : 999 < z := lt_of_mul hd (by omega)
    omega
  · have : z < 10001 := lt_of_mul hd (by omega)
    omega

/-- A result, or ErrLimit if its tens are out of range. -/
def rsl (f : Int × Int) : (Int × Int) × Int := if fg f.1 f.2 = true then (f, 0) else ((0, 0), 3)
theorem rsl_ok (f : Int × Int) (h : fg f.1 f.2 = true) : rsl f = (f, 0) := if_pos h
theorem rsl_no (f : Int × Int) (h : fg f.1 f.2 = false) : rsl f = ((0, 0), 3) := if_neg (by rw [h]; simp)

/-- Comparing. -/
def cmpI (x y : Int) : Int := if x < y then -1 else if y < x then 1 else 0
theorem cmpI_lt (x y : Int) (h : x < y) : cmpI x y = -1 := if_pos h
theorem cmpI_gt (x y : Int) (h : y < x) : cmpI x y = 1 := by unfold cmpI; rw [if_neg (by omega), if_pos h]
theorem cmpI_eq (x y : Int) (h : x = y) : cmpI x y = 0 := by unfold cmpI; rw [if_neg (by omega), if_neg (by omega)]
def cmR (a s b t : Int) : Int × Int := if (fg a s && fg b t) = true then (cmpI (10000 * s + a) (10000 * t + b), 0) else (0, 1)
theorem cmR_ok (a s b t : Int) (h1 : fg a s = true) (h2 : fg b t = true) : cmR a s b t = (cmpI (10000 * s + a) (10000 * t + b), 0) := if_pos (by rw [h1, h2]; rfl)
theorem cmR_no (a s b t : Int) (h : (fg a s && fg b t) = false) : cmR a s b t = (0, 1) := if_neg (by rw [h]; simp)

/-- What the functions that return a figure return. -/
def mkR (n d : Int) : (Int × Int) × Int := if (1 ≤ n ∧ n ≤ 1000000000) ∧ (1 ≤ d ∧ d ≤ 1000000000) then (rdd n d 3, 0) else ((0, 0), 2)
theorem mkR_ok (n d : Int) (h1 : 1 ≤ n ∧ n ≤ 1000000000) (h2 : 1 ≤ d ∧ d ≤ 1000000000) : mkR n d = (rdd n d 3, 0) := if_pos ⟨h1, h2⟩
theorem mkR_no (n d : Int) (h : ¬ ((1 ≤ n ∧ n ≤ 1000000000) ∧ (1 ≤ d ∧ d ≤ 1000000000))) : mkR n d = ((0, 0), 2) := if_neg h
def muR (a s b t : Int) : (Int × Int) × Int := if (fg a s && fg b t) = true then rsl (rdd (a * b) 1 (s + t - 6 + 3)) else ((0, 0), 1)
theorem muR_ok (a s b t : Int) (h1 : fg a s = true) (h2 : fg b t = true) : muR a s b t = rsl (rdd (a * b) 1 (s + t - 6 + 3)) := if_pos (by rw [h1, h2]; rfl)
theorem muR_no (a s b t : Int) (h : (fg a s && fg b t) = false) : muR a s b t = ((0, 0), 1) := if_neg (by rw [h]; simp)
def diR (a s b t : Int) : (Int × Int) × Int := if (fg a s && fg b t) = true then rsl (rdd a b (s - t + 3)) else ((0, 0), 1)
theorem diR_ok (a s b t : Int) (h1 : fg a s = true) (h2 : fg b t = true) : diR a s b t = rsl (rdd a b (s - t + 3)) := if_pos (by rw [h1, h2]; rfl)
theorem diR_no (a s b t : Int) (h : (fg a s && fg b t) = false) : diR a s b t = ((0, 0), 1) := if_neg (by rw [h]; simp)

/-- Tens may be added before or after rounding. -/
theorem rdd_shift (n d t u : Int) : rdd n d (t + u) = ((rdd n d t).1, (rdd n d t).2 + (if d ≤ 0 ∨ n ≤ 0 then 0 else u)) := by
  fun_induction rdd n d t with
  | case1 n d t h => rw [rdd.eq_1, if_pos h, if_pos h]; rfl
  | case2 n d t h h2 ih =>
    rw [rdd.eq_1, if_neg h, if_pos h2, show t + u + 1 = t + 1 + u by omega, ih, if_neg h, if_neg (by omega)]
  | case3 n d t h h2 h3 ih =>
    rw [rdd.eq_1, if_neg h, if_neg h2, if_pos h3, show t + u - 1 = t - 1 + u by omega, ih, if_neg h, if_neg (by omega)]
  | case4 n d t h h2 h3 =>
    rw [rdd.eq_1, if_neg h, if_neg h2, if_neg h3, if_neg h]
    unfold nrm
    split
    · simp; omega
    · simp
theorem rdd_plus (n d t u : Int) (hn : 0 < n) (hd : 0 < d) : (rdd n d (t + u)).1 = (rdd n d t).1 ∧ (rdd n d (t + u)).2 = (rdd n d t).2 + u := by
  rw [rdd_shift, if_neg (by omega)]; exact ⟨rfl, rfl⟩
/-- The digits are right, the tens not far. -/
theorem rdd_bd (n d t : Int) (hn : 0 < n) (hd : 0 < d) : (1000 ≤ (rdd n d t).1 ∧ (rdd n d t).1 ≤ 9999) := by
  fun_induction rdd n d t with
  | case1 n d t h => omega
  | case2 n d t h h2 ih => exact ih hn (by omega)
  | case3 n d t h h2 h3 ih => exact ih (by omega) hd
  | case4 n d t h h2 h3 =>
    have := nd_bd n d hd (by omega) (by omega)
    unfold nrm
    split
    · simp
    · simp; omega

/-- Figures rounded to fewer digits. -/
def ctR (a s u : Int) : Int × Int := if u * nd a u = 10000 then (1000, s + 1) else (u * nd a u, s)
theorem ctR_hi (a s u : Int) (h : u * nd a u = 10000) : ctR a s u = (1000, s + 1) := if_pos h
theorem ctR_lo (a s u : Int) (h : u * nd a u ≠ 10000) : ctR a s u = (u * nd a u, s) := if_neg h
def roR (a s g : Int) : (Int × Int) × Int := if fg a s = false then ((0, 0), 1) else if 1 ≤ g ∧ g ≤ 4 then rsl (ctR a s (p10 (4 - g).toNat)) else ((0, 0), 2)
theorem roR_no (a s g : Int) (h : fg a s = false) : roR a s g = ((0, 0), 1) := if_pos h
theorem roR_far (a s g : Int) (h : fg a s = true) (h2 : g < 1 ∨ 4 < g) : roR a s g = ((0, 0), 2) := by unfold roR; rw [if_neg (by rw [h]; simp), if_neg (by omega)]
theorem roR_ok (a s g : Int) (h : fg a s = true) (h1 : 1 ≤ g) (h2 : g ≤ 4) : roR a s g = rsl (ctR a s (p10 (4 - g).toNat)) := by unfold roR; rw [if_neg (by rw [h]; simp), if_pos ⟨h1, h2⟩]
theorem nd_one (n : Int) : nd n 1 = n := by
  unfold nd; rw [Int.fdiv_eq_ediv_of_nonneg _ (by omega)]; omega
theorem nd_lit (n : Int) (h : 1000 ≤ n) (h' : n ≤ 9999) (k : Nat) (hk : k ≤ 3) : 1000 ≤ p10 k * nd n (p10 k) ∧ p10 k * nd n (p10 k) ≤ 10000 ∧ 1 ≤ nd n (p10 k) ∧ nd n (p10 k) ≤ 10000 ∧ (p10 k = 1 ∨ p10 k = 10 ∨ p10 k = 100 ∨ p10 k = 1000) := by
  have h0 : k = 0 ∨ k = 1 ∨ k = 2 ∨ k = 3 := by omega
  rcases h0 with rfl | rfl | rfl | rfl <;> simp [p10] <;> unfold nd <;> rw [Int.fdiv_eq_ediv_of_nonneg _ (by omega)] <;> omega
theorem ct_rdd (a s : Int) (k : Nat) (h : 1000 ≤ a) (h' : a ≤ 9999) (hk : k ≤ 3) : ((rdd (nd a (p10 k) * p10 k) 1 3).1, (rdd (nd a (p10 k) * p10 k) 1 3).2 + (s - 3)) = ctR a s (p10 k) := by
  obtain ⟨h1, h2, -⟩ := nd_lit a h h' k hk
  rw [Int.mul_comm (nd a (p10 k))]
  by_cases he : p10 k * nd a (p10 k) = 10000
  · rw [ctR_hi _ _ _ he, he]
    have e : rdd 10000 1 3 = (1000, 4) := by
      rw [← rdd_up 10000 1 3 (by omega) (by omega) (by omega), rdd_base _ _ _ (by omega) (by omega) (by omega), show nd 10000 (10 * 1) = 1000 by decide]; rfl
    rw [e]; simp; omega
  · rw [ctR_lo _ _ _ he]
    generalize p10 k * nd a (p10 k) = m at *
    rw [rdd_base m 1 3 (by omega) (by omega) (by omega), nd_one, nrm_lo _ _ (by omega)]; simp; omega

/-- The relative error. -/
def reE (n d : Int) : Int := cd ((n - d).natAbs * 1000000) d
def reV (a s b t : Int) : Int :=
  if 1 < s - t then 9000001 else if s - t < -6 then 1000000
  else if 0 < s - t then reE (a * p10 (s - t).toNat) b else reE a (b * p10 (t - s).toNat)
def reR (a s b t : Int) : Int × Int := if (fg a s && fg b t) = false then (0, 1) else if 9000000 < reV a s b t then (0, 3) else (reV a s b t, 0)
theorem reR_no (a s b t : Int) (h : (fg a s && fg b t) = false) : reR a s b t = (0, 1) := if_pos h
theorem reR_hi (a s b t : Int) (h1 : fg a s = true) (h2 : fg b t = true) (h : 9000000 < reV a s b t) : reR a s b t = (0, 3) := by unfold reR; rw [if_neg (by rw [h1, h2]; simp), if_pos h]
theorem reR_lo (a s b t : Int) (h1 : fg a s = true) (h2 : fg b t = true) (h : reV a s b t ≤ 9000000) : reR a s b t = (reV a s b t, 0) := by unfold reR; rw [if_neg (by rw [h1, h2]; simp), if_neg (by omega)]
theorem cd_frac (a b : Int) (hb : 0 < b) : a ≤ cd a b * b ∧ cd a b * b < a + b := ⟨(frac_pos a b hb).hi, (frac_pos a b hb).hi'⟩
theorem reE_big (n d : Int) (hd : 0 < d) (h : 10 * d < n) : 9000000 < reE n d := by
  unfold reE
  obtain ⟨h1, h2⟩ := cd_frac ((n - d).natAbs * 1000000) d hd
  generalize cd ((n - d).natAbs * 1000000) d = y at *
  exact lt_of_mul hd (by omega)
theorem reE_small (n d : Int) (hd : 0 < d) (hn : 0 ≤ n) (h : 1000000 * n < d) : reE n d = 1000000 := by
  unfold reE
  obtain ⟨h1, h2⟩ := cd_frac ((n - d).natAbs * 1000000) d hd
  generalize cd ((n - d).natAbs * 1000000) d = y at *
  have a1 : 999999 < y := lt_of_mul hd (by omega)
  have a2 : y < 1000001 := lt_of_mul hd (by omega)
  omega

theorem p10_pos (i : Nat) : 1 ≤ p10 i := by
  induction i with
  | zero => simp [p10]
  | succ i ih => rw [p10_succ]; omega
theorem p10_far : ∀ (i k : Nat), p10 k ≤ p10 (k + i)
  | 0, k => by simp
  | i + 1, k => by
    have := p10_far i k
    have := p10_pos (k + i)
    rw [show k + (i + 1) = (k + i) + 1 by omega, p10_succ]; omega
theorem p10_le (i : Nat) (h : p10 i ≤ 10000000000000) : i ≤ 13 := by
  rcases Nat.lt_or_ge 13 i with h1 | h1
  · have := p10_far (i - 14) 14
    rw [show 14 + (i - 14) = i by omega] at this
    have e : p10 14 = 100000000000000 := by decide
    omega
  · exact h1
theorem nrm_bd (x t : Int) : t ≤ (nrm x t).2 ∧ (nrm x t).2 ≤ t + 1 := by
  unfold nrm; split <;> simp <;> omega
theorem rdd_hi (n : Int) : ∀ (k : Nat) (d t : Int), 0 < d → 1000 * d ≤ n → n < 10000 * (d * p10 k) → t ≤ (rdd n d t).2 ∧ (rdd n d t).2 ≤ t + k + 1
  | 0, d, t, hd, h1, h2 => by
    simp [p10] at h2
    rw [rdd_base n d t hd h2 h1]
    have := nrm_bd (nd n d) t
    omega
  | k + 1, d, t, hd, h1, h2 => by
    by_cases h : 10000 * d ≤ n
    · rw [← rdd_up n d t hd (by omega) h]
      have := rdd_hi n k (10 * d) (t + 1) (by omega) (by omega) (by rw [p10_succ] at h2; rw [show 10 * d * p10 k = d * (10 * p10 k) by rw [Int.mul_comm 10 d, Int.mul_assoc]]; exact h2)
      omega
    · rw [rdd_base n d t hd (by omega) h1]
      have := nrm_bd (nd n d) t
      omega
theorem rdd_lo (d : Int) (hd : 0 < d) : ∀ (k : Nat) (n t : Int), 0 < n → n < 10000 * d → 1000 * d ≤ n * p10 k → t - k ≤ (rdd n d t).2 ∧ (rdd n d t).2 ≤ t + 1
  | 0, n, t, hn, h1, h2 => by
    simp [p10] at h2
    rw [rdd_base n d t hd h1 h2]
    have := nrm_bd (nd n d) t
    omega
  | k + 1, n, t, hn, h1, h2 => by
    by_cases h : n < 1000 * d
    · rw [← rdd_down n d t hd hn h]
      have := rdd_lo d hd k (10 * n) (t - 1) (by omega) (by omega) (by rw [p10_succ] at h2; rw [show 10 * n * p10 k = n * (10 * p10 k) by rw [Int.mul_comm 10 n, Int.mul_assoc]]; exact h2)
      omega
    · rw [rdd_base n d t hd h1 (by omega)]
      have := nrm_bd (nd n d) t
      omega
/-- The tens of a rounded fraction of usual terms. -/
theorem rdd_tens (n d t : Int) (h1 : 1 ≤ n ∧ n ≤ 1000000000) (h2 : 1 ≤ d ∧ d ≤ 1000000000) : t - 12 ≤ (rdd n d t).2 ∧ (rdd n d t).2 ≤ t + 13 := by
  have e : p10 12 = 1000000000000 := by decide
  by_cases h : 1000 * d ≤ n
  · have := rdd_hi n 12 d t (by omega) h (by rw [e]; omega)
    omega
  · have := rdd_lo d (by omega) 12 n t (by omega) (by omega) (by rw [e]; omega)
    omega
theorem rdd_end (n d t : Int) (hd : 0 < d) (h1 : n < 10000 * d) (h2 : 1000 * d ≤ n) : (nd n d ≤ 9999 → rdd n d t = (nd n d, t)) ∧ (9999 < nd n d → rdd n d t = (1000, t + 1)) :=
  ⟨fun h => by rw [rdd_base n d t hd h1 h2, nrm_lo _ _ h], fun h => by rw [rdd_base n d t hd h1 h2, nrm_hi _ _ h]⟩
/-- The program cuts differences of tens at 8. -/
def clamp8 (x : Int) : Int := if (if 8 < x then 8 else x) < -8 then -8 else (if 8 < x then 8 else x)
theorem reE_sat (a s b t : Int) (ha : 1000 ≤ a) (ha' : a ≤ 9999) (hb : 1000 ≤ b) (hb' : b ≤ 9999) (c : Int) (hc : (c = s - t ∧ -8 ≤ c ∧ c ≤ 8) ∨ (c = 8 ∧ 8 < s - t) ∨ (c = -8 ∧ s - t < -8)) (e : Int)
    (he : (0 ≤ c → e = reE (a * p10 c.toNat) b) ∧ (c < 0 → e = reE a (b * p10 (-c).toNat))) : (9000000 < reV a s b t ↔ 9000000 < e) ∧ (reV a s b t ≤ 9000000 → reV a s b t = e) := by
  obtain ⟨he1, he2⟩ := he
  by_cases h1 : 1 < s - t
  · have hv : reV a s b t = 9000001 := by unfold reV; rw [if_pos h1]
    have h2 : 9000000 < e := by
      rw [he1 (by omega)]
      apply reE_big _ _ (by omega)
      have := p10_far (c.toNat - 2) 2
      rw [show 2 + (c.toNat - 2) = c.toNat by omega, show p10 2 = 100 by decide] at this
      have := Int.mul_le_mul_of_nonneg_left this (show 0 ≤ a by omega)
      omega
    rw [hv]; omega
  by_cases h2 : s - t < -6
  · have hv : reV a s b t = 1000000 := by unfold reV; rw [if_neg h1, if_pos h2]
    have h3 : e = 1000000 := by
      rw [he2 (by omega)]
      apply reE_small _ _ ?_ (by omega)
      · have := p10_far ((-c).toNat - 7) 7
        rw [show 7 + ((-c).toNat - 7) = (-c).toNat by omega, show p10 7 = 10000000 by decide] at this
        have := Int.mul_le_mul_of_nonneg_left this (show 0 ≤ b by omega)
        omega
      · exact Int.mul_pos (by omega) (by have := p10_pos (-c).toNat; omega)
    rw [hv]; omega
  · have hcs : c = s - t := by omega
    have hv : reV a s b t = e := by
      unfold reV
      rw [if_neg h1, if_neg h2]
      by_cases h3 : 0 < s - t
      · rw [if_pos h3, he1 (by omega), hcs]
      · rw [if_neg h3]
        by_cases h4 : c = 0
        · rw [he1 (by omega), h4, show t - s = 0 by omega]; simp [p10]
        · rw [he2 (by omega), hcs, show -(s - t) = t - s by omega]
    rw [hv]; exact ⟨Iff.rfl, fun _ => rfl⟩
end Go.Proofs.YtphebmbapllinaaDoor

/- Plain mathematics of chapter 2: the program's fraction of a relative error. -/
namespace Go.Proofs.YtphebmbapllinaaDoor
set_option linter.unusedSimpArgs false
set_option linter.unusedVariables false

/-- The program's fraction for a difference c of tens. -/
def raR (a b c : Int) : Int × Int := if c < 0 then (a, b * p10 (-c).toNat) else (a * p10 c.toNat, b)
theorem raR_neg (a b c : Int) (h : c < 0) : raR a b c = (a, b * p10 (-c).toNat) := if_pos h
theorem raR_pos (a b c : Int) (h : 0 ≤ c) : raR a b c = (a * p10 c.toNat, b) := if_neg (by omega)
theorem p10_8 (i : Nat) (h : i ≤ 8) : 1 ≤ p10 i ∧ p10 i ≤ 100000000 := by
  have h0 : i = 0 ∨ i = 1 ∨ i = 2 ∨ i = 3 ∨ i = 4 ∨ i = 5 ∨ i = 6 ∨ i = 7 ∨ i = 8 := by omega
  rcases h0 with h | h | h | h | h | h | h | h | h <;> subst h <;> decide
theorem mul_8 (a : Int) (i : Nat) (h : i ≤ 8) (h1 : 1000 ≤ a) (h2 : a ≤ 9999) : 1 ≤ a * p10 i ∧ a * p10 i ≤ 1000000000000 := by
  obtain ⟨p1, p2⟩ := p10_8 i h
  have e1 := Int.mul_le_mul_of_nonneg_left p1 (show 0 ≤ a by omega)
  have e2 := Int.mul_le_mul h2 p2 (by omega) (by omega)
  omega
theorem raR_bd (a b c : Int) (h1 : 1000 ≤ a) (h2 : a ≤ 9999) (h3 : 1000 ≤ b) (h4 : b ≤ 9999) (h5 : -8 ≤ c) (h6 : c ≤ 8) :
    (1 ≤ (raR a b c).1 ∧ (raR a b c).1 ≤ 1000000000000) ∧ (1 ≤ (raR a b c).2 ∧ (raR a b c).2 ≤ 1000000000000) := by
  by_cases h : c < 0
  · rw [raR_neg _ _ _ h]
    have := mul_8 b (-c).toNat (by omega) h3 h4
    exact ⟨by show 1 ≤ a ∧ a ≤ _; omega, this⟩
  · rw [raR_pos _ _ _ (by omega)]
    have := mul_8 a c.toNat (by omega) h1 h2
    exact ⟨this, by show 1 ≤ b ∧ b ≤ _; omega⟩
theorem clamp_ex (x : Int) : ∃ m c : Int, (if 8 < x then 8 else x) = m ∧ (if -8 < m then m else -8) = c ∧ -8 ≤ c ∧ c ≤ 8 ∧ ((c = x ∧ -8 ≤ c ∧ c ≤ 8) ∨ (c = 8 ∧ 8 < x) ∨ (c = -8 ∧ x < -8)) := by
  refine ⟨_, _, rfl, rfl, ?_⟩
  by_cases h : 8 < x
  · rw [if_pos h]; simp; omega
  · rw [if_neg h]
    by_cases h' : -8 < x
    · rw [if_pos h']; omega
    · rw [if_neg h']; omega
theorem max_abs (n d : Int) : (if n - d < d - n then d - n else n - d) = ((n - d).natAbs : Int) := by split <;> omega
theorem raR_reV (a s b t c : Int) (h1 : 1000 ≤ a) (h2 : a ≤ 9999) (h3 : 1000 ≤ b) (h4 : b ≤ 9999) (hc : (c = s - t ∧ -8 ≤ c ∧ c ≤ 8) ∨ (c = 8 ∧ 8 < s - t) ∨ (c = -8 ∧ s - t < -8)) :
    (9000000 < reV a s b t ↔ 9000000 < reE (raR a b c).1 (raR a b c).2) ∧ (reV a s b t ≤ 9000000 → reV a s b t = reE (raR a b c).1 (raR a b c).2) :=
  reE_sat a s b t h1 h2 h3 h4 c hc _ ⟨fun h => by rw [raR_pos _ _ _ h], fun h => by rw [raR_neg _ _ _ h]⟩
theorem reE_cd (n d : Int) : reE n d = cd ((n - d).natAbs * 1000000) d := rfl
theorem cd_small (a b : Int) (ha : 0 ≤ a) (hb : 0 < b) (B : Int) (h : a ≤ B) (hB : 0 ≤ B) : 0 ≤ cd a b ∧ cd a b ≤ B + 1 := by
  obtain ⟨h1, h2⟩ := cd_frac a b hb
  constructor
  · have : -1 < cd a b := lt_of_mul hb (by omega)
    omega
  · have e : (B + 1) * 1 ≤ (B + 1) * b := Int.mul_le_mul_of_nonneg_left (by omega) (by omega)
    have : cd a b < B + 1 + 1 := lt_of_mul hb (by rw [Int.add_mul (B + 1)]; omega)
    omega
end Go.Proofs.YtphebmbapllinaaDoor

/- Plain mathematics of the laws over figures: products, quotients and their errors. No program is imported here. -/
namespace Go.Proofs.YtphebmbapllinaaDoor
set_option linter.unusedSimpArgs false
set_option linter.unusedVariables false

theorem rdd_3 (e T : Int) (h1 : 1000000 ≤ e) (h2 : e < 10000000) : rdd e 1 T = nrm (nd e 1000) (T + 3) := by
  have a1 := rdd_up e 1 T (by omega) (by omega) (by omega)
  have a2 := rdd_up e (10 * 1) (T + 1) (by omega) (by omega) (by omega)
  have a3 := rdd_up e (10 * (10 * 1)) (T + 1 + 1) (by omega) (by omega) (by omega)
  rw [← a1, ← a2, ← a3, rdd_base _ _ _ (by omega) (by omega) (by omega), show T + 1 + 1 + 1 = T + 3 by omega]
  rfl
theorem rdd_4 (e T : Int) (h1 : 10000000 ≤ e) (h2 : e < 100000000) : rdd e 1 T = nrm (nd e 10000) (T + 4) := by
  have a1 := rdd_up e 1 T (by omega) (by omega) (by omega)
  have a2 := rdd_up e (10 * 1) (T + 1) (by omega) (by omega) (by omega)
  have a3 := rdd_up e (10 * (10 * 1)) (T + 1 + 1) (by omega) (by omega) (by omega)
  have a4 := rdd_up e (10 * (10 * (10 * 1))) (T + 1 + 1 + 1) (by omega) (by omega) (by omega)
  rw [← a1, ← a2, ← a3, ← a4, rdd_base _ _ _ (by omega) (by omega) (by omega), show T + 1 + 1 + 1 + 1 = T + 4 by omega]
  rfl
theorem nd_1000 (e : Int) : 2 * e - 1000 < 2000 * nd e 1000 ∧ 2000 * nd e 1000 ≤ 2 * e + 1000 := by
  unfold nd; rw [Int.fdiv_eq_ediv_of_nonneg _ (by omega)]; omega
theorem nd_10000 (e : Int) : 2 * e - 10000 < 20000 * nd e 10000 ∧ 20000 * nd e 10000 ≤ 2 * e + 10000 := by
  unfold nd; rw [Int.fdiv_eq_ediv_of_nonneg _ (by omega)]; omega
/-- A rounded product is near to the exact one: by the tens of the result. -/
theorem mul_near (e T : Int) (h1 : 1000000 ≤ e) (h2 : e ≤ 99980001) :
    (T + 3 < (rdd e 1 T).2 ∧ (rdd e 1 T).2 = T + 4 ∧ 2 * ((rdd e 1 T).1 * 10000 - e) ≤ 10000 ∧ 2 * (e - (rdd e 1 T).1 * 10000) ≤ 10000) ∨
    ((rdd e 1 T).2 ≤ T + 3 ∧ (rdd e 1 T).2 = T + 3 ∧ 2 * ((rdd e 1 T).1 * 1000 - e) ≤ 1000 ∧ 2 * (e - (rdd e 1 T).1 * 1000) ≤ 1000) := by
  by_cases h : e < 10000000
  · rw [rdd_3 e T h1 h]
    have := nd_1000 e
    by_cases h9 : 9999 < nd e 1000
    · rw [nrm_hi _ _ h9]; left; simp only [true_and]; omega
    · rw [nrm_lo _ _ (by omega)]; right; simp only [true_and]; omega
  · rw [rdd_4 e T (by omega) (by omega)]
    have := nd_10000 e
    rw [nrm_lo _ _ (by omega)]; left; simp only [true_and]; omega
theorem prod_bd (a b : Int) (a1 : 1000 ≤ a) (a2 : a ≤ 9999) (b1 : 1000 ≤ b) (b2 : b ≤ 9999) : 1000000 ≤ a * b ∧ a * b ≤ 99980001 := by
  have x := Int.mul_le_mul a1 b1 (by omega) (by omega)
  have y := Int.mul_le_mul a2 b2 (by omega) (by omega)
  omega
theorem muR_comm (a s b t : Int) : muR b t a s = muR a s b t := by
  unfold muR
  rw [Bool.and_comm, Int.mul_comm, show t + s - 6 + 3 = s + t - 6 + 3 by omega]
theorem rsl_code (f : Int × Int) : ((rsl f).2 = 0 ∧ (rsl f).1 = f ∧ fg f.1 f.2 = true) ∨ ((rsl f).2 = 3 ∧ (rsl f).1 = (0, 0)) := by
  cases h : fg f.1 f.2
  · rw [rsl_no f h]; exact .inr ⟨rfl, rfl⟩
  · rw [rsl_ok f h]; exact .inl ⟨rfl, rfl, rfl⟩
/-- What is known of a product. -/
theorem muR_facts (a s b t : Int) : ((muR a s b t).2 ≠ 0 ∧ ((muR a s b t).2 = 1 ∨ (muR a s b t).2 = 3)) ∨
    ((muR a s b t).2 = 0 ∧ fg a s = true ∧ fg b t = true ∧ (muR a s b t).1 = rdd (a * b) 1 (s + t - 3) ∧ fg (muR a s b t).1.1 (muR a s b t).1.2 = true) := by
  by_cases h : (fg a s && fg b t) = true
  · rw [Bool.and_eq_true] at h
    rw [muR_ok a s b t h.1 h.2, show s + t - 6 + 3 = s + t - 3 by omega]
    rcases rsl_code (rdd (a * b) 1 (s + t - 3)) with ⟨c, f, g⟩ | ⟨c, f⟩
    · right; exact ⟨c, h.1, h.2, f, by rw [f]; exact g⟩
    · left; rw [c]; exact ⟨by omega, .inr rfl⟩
  · rw [muR_no a s b t (by simpa using h)]; left; exact ⟨by simp, .inl rfl⟩
theorem mkR_facts (n d : Int) : ((mkR n d).2 = 2) ∨ ((mkR n d).2 = 0 ∧ fg (mkR n d).1.1 (mkR n d).1.2 = true) := by
  by_cases h : (1 ≤ n ∧ n ≤ 1000000000) ∧ (1 ≤ d ∧ d ≤ 1000000000)
  · right
    rw [mkR_ok n d h.1 h.2]
    refine ⟨rfl, (fg_iff _ _).2 ⟨rdd_bd n d 3 (by omega) (by omega), ?_⟩⟩
    have := rdd_tens n d 3 h.1 h.2
    simp only
    omega
  · left; rw [mkR_no n d h]
end Go.Proofs.YtphebmbapllinaaDoor

/- Plain mathematics of the law over quotients. No program is imported here. -/
namespace Go.Proofs.YtphebmbapllinaaDoor
set_option linter.unusedSimpArgs false
set_option linter.unusedVariables false

theorem reE_le (n d : Int) (hd : 0 < d) (h : (n - d) * 1000000 ≤ 1100 * d) (h' : (d - n) * 1000000 ≤ 1100 * d) : reE n d ≤ 1100 := by
  unfold reE
  obtain ⟨h1, h2⟩ := cd_frac ((n - d).natAbs * 1000000) d hd
  generalize cd ((n - d).natAbs * 1000000) d = y at *
  have : y < 1101 := lt_of_mul hd (by omega)
  omega
theorem reV_0 (p a s : Int) (ha : 0 < a) (h : (p - a) * 1000000 ≤ 1100 * a) (h' : (a - p) * 1000000 ≤ 1100 * a) : reV p s a s ≤ 1100 := by
  unfold reV
  rw [if_neg (by omega), if_neg (by omega), if_neg (by omega), show (s - s).toNat = 0 by omega, show p10 0 = 1 from rfl, Int.mul_one]
  exact reE_le p a ha h h'
theorem reV_up (p a s : Int) (ha : 0 < a) (h : (p * 10 - a) * 1000000 ≤ 1100 * a) (h' : (a - p * 10) * 1000000 ≤ 1100 * a) : reV p (s + 1) a s ≤ 1100 := by
  unfold reV
  rw [if_neg (by omega), if_neg (by omega), if_pos (by omega), show (s + 1 - s).toNat = 1 by omega, show p10 1 = 10 from rfl]
  exact reE_le _ a ha h h'
theorem reV_dn (p a s : Int) (ha : 0 < a) (h : (p - a * 10) * 1000000 ≤ 1100 * (a * 10)) (h' : (a * 10 - p) * 1000000 ≤ 1100 * (a * 10)) : reV p (s - 1) a s ≤ 1100 := by
  unfold reV
  rw [if_neg (by omega), if_neg (by omega), if_neg (by omega), show (s - (s - 1)).toNat = 1 by omega, show p10 1 = 10 from rfl]
  exact reE_le _ _ (by omega) h h'
/-- The digits of a quotient. -/
theorem quot_ge (a b T : Int) (a1 : 1000 ≤ a) (a2 : a ≤ 9999) (b1 : 1000 ≤ b) (h : b ≤ a) : rdd a b T = (nd (1000 * a) b, T - 3) := by
  have e1 := rdd_down a b T (by omega) (by omega) (by omega)
  have e2 := rdd_down (10 * a) b (T - 1) (by omega) (by omega) (by omega)
  have e3 := rdd_down (10 * (10 * a)) b (T - 1 - 1) (by omega) (by omega) (by omega)
  have e4 : nd (10 * (10 * (10 * a))) b ≤ 9999 := by
    have f := (frac_pos (10 * (10 * (10 * a))) b (by omega)).ne
    generalize nd (10 * (10 * (10 * a))) b = z at *
    have : z < 10000 := lt_of_mul (b := b) (by omega) (by omega)
    omega
  rw [← e1, ← e2, ← e3, rdd_base _ _ _ (by omega) (by omega) (by omega), nrm_lo _ _ e4]
  exact Prod.ext (by simp only; congr 1; omega) (by simp only; omega)
theorem quot_lt (a b T : Int) (a1 : 1000 ≤ a) (b2 : b ≤ 9999) (h : a < b) : rdd a b T = (nd (10000 * a) b, T - 4) := by
  have e1 := rdd_down a b T (by omega) (by omega) (by omega)
  have e2 := rdd_down (10 * a) b (T - 1) (by omega) (by omega) (by omega)
  have e3 := rdd_down (10 * (10 * a)) b (T - 1 - 1) (by omega) (by omega) (by omega)
  have e0 := rdd_down (10 * (10 * (10 * a))) b (T - 1 - 1 - 1) (by omega) (by omega) (by omega)
  have e4 : nd (10 * (10 * (10 * (10 * a)))) b ≤ 9999 := by
    have f := (frac_pos (10 * (10 * (10 * (10 * a)))) b (by omega)).ne
    generalize nd (10 * (10 * (10 * (10 * a)))) b = z at *
    have : z < 10000 := lt_of_mul (b := b) (by omega) (by omega)
    omega
  rw [← e1, ← e2, ← e3, ← e0, rdd_base _ _ _ (by omega) (by omega) (by omega), nrm_lo _ _ e4]
  exact Prod.ext (by simp only; congr 1; omega) (by simp only; omega)
/-- A quotient times the divisor is near to the number. -/
theorem quot_near (a s b t : Int) (a1 : 1000 ≤ a) (a2 : a ≤ 9999) (b1 : 1000 ≤ b) (b2 : b ≤ 9999)
    (hq : 1000 ≤ (rdd a b (s - t + 3)).1 ∧ (rdd a b (s - t + 3)).1 ≤ 9999) :
    reV (rdd ((rdd a b (s - t + 3)).1 * b) 1 ((rdd a b (s - t + 3)).2 + t - 3)).1 (rdd ((rdd a b (s - t + 3)).1 * b) 1 ((rdd a b (s - t + 3)).2 + t - 3)).2 a s ≤ 1100 := by
  obtain ⟨q1, q2⟩ := hq
  obtain ⟨m1, m2⟩ := prod_bd _ b q1 q2 b1 b2
  by_cases h : b ≤ a
  · rw [quot_ge a b _ a1 a2 b1 h] at q1 q2 m1 m2 ⊢
    simp only at q1 q2 m1 m2 ⊢
    have f1 := (frac_pos (1000 * a) b (by omega)).ne
    have f2 := (frac_pos (1000 * a) b (by omega)).ne'
    generalize nd (1000 * a) b * b = e at *
    by_cases he : e < 10000000
    · rw [rdd_3 e _ m1 he]
      have := nd_1000 e
      by_cases h9 : 9999 < nd e 1000
      · rw [nrm_hi _ _ h9]
        simp only
        rw [show s - t + 3 - 3 + t - 3 + 3 + 1 = s + 1 by omega]
        exact reV_up _ a s (by omega) (by omega) (by omega)
      · rw [nrm_lo _ _ (by omega)]
        simp only
        rw [show s - t + 3 - 3 + t - 3 + 3 = s by omega]
        exact reV_0 _ a s (by omega) (by omega) (by omega)
    · rw [rdd_4 e _ (by omega) (by omega)]
      have := nd_10000 e
      rw [nrm_lo _ _ (by omega)]
      simp only
      rw [show s - t + 3 - 3 + t - 3 + 4 = s + 1 by omega]
      exact reV_up _ a s (by omega) (by omega) (by omega)
  · rw [quot_lt a b _ a1 b2 (by omega)] at q1 q2 m1 m2 ⊢
    simp only at q1 q2 m1 m2 ⊢
    have f1 := (frac_pos (10000 * a) b (by omega)).ne
    have f2 := (frac_pos (10000 * a) b (by omega)).ne'
    generalize nd (10000 * a) b * b = e at *
    by_cases he : e < 10000000
    · rw [rdd_3 e _ m1 he]
      have := nd_1000 e
      by_cases h9 : 9999 < nd e 1000
      · rw [nrm_hi _ _ h9]
        simp only
        rw [show s - t + 3 - 4 + t - 3 + 3 + 1 = s by omega]
        exact reV_0 _ a s (by omega) (by omega) (by omega)
      · rw [nrm_lo _ _ (by omega)]
        simp only
        rw [show s - t + 3 - 4 + t - 3 + 3 = s - 1 by omega]
        exact reV_dn _ a s (by omega) (by omega) (by omega)
    · rw [rdd_4 e _ (by omega) (by omega)]
      have := nd_10000 e
      rw [nrm_lo _ _ (by omega)]
      simp only
      rw [show s - t + 3 - 4 + t - 3 + 4 = s by omega]
      exact reV_0 _ a s (by omega) (by omega) (by omega)
/-- What is known of a quotient. -/
theorem diR_facts (a s b t : Int) : ((diR a s b t).2 ≠ 0 ∧ ((diR a s b t).2 = 1 ∨ (diR a s b t).2 = 3)) ∨
    ((diR a s b t).2 = 0 ∧ fg a s = true ∧ fg b t = true ∧ (diR a s b t).1 = rdd a b (s - t + 3) ∧ fg (diR a s b t).1.1 (diR a s b t).1.2 = true) := by
  by_cases h : (fg a s && fg b t) = true
  · rw [Bool.and_eq_true] at h
    rw [diR_ok a s b t h.1 h.2]
    rcases rsl_code (rdd a b (s - t + 3)) with ⟨c, f, g⟩ | ⟨c, f⟩
    · right; exact ⟨c, h.1, h.2, f, by rw [f]; exact g⟩
    · left; rw [c]; exact ⟨by omega, .inr rfl⟩
  · rw [diR_no a s b t (by simpa using h)]; left; exact ⟨by simp, .inl rfl⟩
/-- Back: the product of the quotient and the divisor is over the limit, or near to the number. -/
theorem back_near (a s b t : Int) (h : (diR a s b t).2 = 0) :
    ((muR (diR a s b t).1.1 (diR a s b t).1.2 b t).2 = 3) ∨
    ((muR (diR a s b t).1.1 (diR a s b t).1.2 b t).2 = 0 ∧ (reR (muR (diR a s b t).1.1 (diR a s b t).1.2 b t).1.1 (muR (diR a s b t).1.1 (diR a s b t).1.2 b t).1.2 a s).2 = 0 ∧ (reR (muR (diR a s b t).1.1 (diR a s b t).1.2 b t).1.1 (muR (diR a s b t).1.1 (diR a s b t).1.2 b t).1.2 a s).1 ≤ 1100) := by
  rcases diR_facts a s b t with ⟨c, -⟩ | ⟨-, ha, hb, hq, hf⟩
  · exact absurd h c
  obtain ⟨⟨a1, a2⟩, -⟩ := (fg_iff a s).1 ha
  obtain ⟨⟨b1, b2⟩, -⟩ := (fg_iff b t).1 hb
  have hn := quot_near a s b t a1 a2 b1 b2 (by rw [← hq]; exact ((fg_iff _ _).1 hf).1)
  rw [← hq] at hn
  rcases muR_facts (diR a s b t).1.1 (diR a s b t).1.2 b t with ⟨c, c1 | c3⟩ | ⟨c, -, -, hr, hg⟩
  · rw [muR_ok _ _ _ _ hf hb] at c1
    rcases rsl_code (rdd ((diR a s b t).1.1 * b) 1 ((diR a s b t).1.2 + t - 6 + 3)) with ⟨x, -⟩ | ⟨x, -⟩ <;> rw [x] at c1 <;> omega
  · exact .inl c3
  · right
    rw [← hr] at hn
    rw [reR_lo _ _ _ _ hg ha (by omega)]
    exact ⟨c, rfl, hn⟩
theorem cmpI_neg (x y : Int) : cmpI y x = -cmpI x y := by unfold cmpI; split <;> split <;> omega
theorem cmpI_zero (x y : Int) : cmpI x y = 0 ↔ x = y := by unfold cmpI; split <;> (try split) <;> omega
/-- Comparing: antisymmetric, and 0 exactly at equal figures. -/
theorem cmR_facts (a s b t : Int) : (cmR a s b t = (0, 1)) ∨ ((cmR a s b t).2 = 0 ∧ (cmR b t a s).2 = 0 ∧ (cmR b t a s).1 = -(cmR a s b t).1 ∧
    ((a = b ∧ s = t ∧ (cmR a s b t).1 = 0) ∨ ((a == b && s == t) = false ∧ ((cmR a s b t).1 == 0) = false))) := by
  by_cases h : (fg a s && fg b t) = true
  · rw [Bool.and_eq_true] at h
    right
    rw [cmR_ok a s b t h.1 h.2, cmR_ok b t a s h.2 h.1]
    refine ⟨rfl, rfl, cmpI_neg _ _, ?_⟩
    obtain ⟨⟨a1, a2⟩, -⟩ := (fg_iff a s).1 h.1
    obtain ⟨⟨b1, b2⟩, -⟩ := (fg_iff b t).1 h.2
    have hz := cmpI_zero (10000 * s + a) (10000 * t + b)
    by_cases he : a = b ∧ s = t
    · left; exact ⟨he.1, he.2, hz.2 (by omega)⟩
    · right
      refine ⟨by simp; omega, ?_⟩
      have : ¬ cmpI (10000 * s + a) (10000 * t + b) = 0 := fun e => by have := hz.1 e; omega
      simp [this]
  · left; exact cmR_no a s b t (by simpa using h)
end Go.Proofs.YtphebmbapllinaaDoor

/- Plain mathematics of chapter 3: intervals, logarithms by squaring. No program is imported here. -/
namespace Go.Proofs.YtphebmbapllinaaDoor
set_option linter.unusedSimpArgs false
set_option linter.unusedVariables false

/-- A valid interval. -/
def iv (l h : Int) : Bool := vl l && vl h && decide (l ≤ h)
theorem iv_iff (l h : Int) : iv l h = true ↔ ((-1000000000000 ≤ l ∧ l ≤ 1000000000000) ∧ (-1000000000000 ≤ h ∧ h ≤ 1000000000000) ∧ l ≤ h) := by
  unfold iv
  rw [Bool.and_eq_true, Bool.and_eq_true, vl_iff, vl_iff, decide_eq_true_eq, and_assoc]
theorem iv_cases (l h : Int) : (vl l = true ∧ vl h = true ∧ l ≤ h ∧ iv l h = true) ∨ (vl l = true ∧ vl h = true ∧ h < l ∧ iv l h = false) ∨ (vl l = true ∧ vl h = false ∧ iv l h = false) ∨ (vl l = false ∧ iv l h = false) := by
  unfold iv
  cases h1 : vl l <;> cases h2 : vl h <;> by_cases h3 : l ≤ h <;> simp [h3] <;> omega
/-- A result, or ErrLimit. -/
def rsi (l h : Int) : (Int × Int) × Int := if iv l h = true then ((l, h), 0) else ((0, 0), 3)
theorem rsi_ok (l h : Int) (e : iv l h = true) : rsi l h = ((l, h), 0) := if_pos e
theorem rsi_no (l h : Int) (e : iv l h = false) : rsi l h = ((0, 0), 3) := if_neg (by rw [e]; simp)

/-- One step of squaring, rounded down or up, and its bit. -/
def sqD (x : Int) : Int := (x * x).fdiv 100000000
def sqU (x : Int) : Int := cd (x * x) 100000000
def nxD (x : Int) : Int × Int := if sqD x < 1000000000 then (sqD x, 0) else ((sqD x).fdiv 10, 1)
def nxU (x : Int) : Int × Int := if sqU x < 1000000000 then (sqU x, 0) else (cd (sqU x) 10, 1)
theorem nxD_lo (x : Int) (h : sqD x < 1000000000) : nxD x = (sqD x, 0) := if_pos h
theorem nxD_hi (x : Int) (h : 1000000000 ≤ sqD x) : nxD x = ((sqD x).fdiv 10, 1) := if_neg (by omega)
theorem nxU_lo (x : Int) (h : sqU x < 1000000000) : nxU x = (sqU x, 0) := if_pos h
theorem nxU_hi (x : Int) (h : 1000000000 ≤ sqU x) : nxU x = (cd (sqU x) 10, 1) := if_neg (by omega)
theorem sq_bd (x : Int) (h1 : 100000000 ≤ x) (h2 : x ≤ 999999999) : 10000000000000000 ≤ x * x ∧ x * x ≤ 999999998000000001 := by
  have a := Int.mul_le_mul h1 h1 (by omega) (by omega)
  have b := Int.mul_le_mul h2 h2 (by omega) (by omega)
  omega
theorem cd_lit (a b : Int) (hb : 0 ≤ b) : cd a b = -((-a) / b) := by unfold cd; rw [Int.fdiv_eq_ediv_of_nonneg _ hb]
theorem sqD_bd (x : Int) (h1 : 100000000 ≤ x) (h2 : x ≤ 999999999) : 100000000 ≤ sqD x ∧ sqD x ≤ 9999999980 := by
  have h := sq_bd x h1 h2
  unfold sqD
  rw [Int.fdiv_eq_ediv_of_nonneg _ (by omega)]
  omega
theorem sqU_bd (x : Int) (h1 : 100000000 ≤ x) (h2 : x ≤ 999999999) : 100000000 ≤ sqU x ∧ sqU x ≤ 9999999981 := by
  have h := sq_bd x h1 h2
  unfold sqU
  rw [cd_lit _ _ (by omega)]
  omega
theorem nxD_bd (x : Int) (h1 : 100000000 ≤ x) (h2 : x ≤ 999999999) : 100000000 ≤ (nxD x).1 ∧ (nxD x).1 ≤ 999999999 ∧ 0 ≤ (nxD x).2 ∧ (nxD x).2 ≤ 1 := by
  have h := sqD_bd x h1 h2
  by_cases c : sqD x < 1000000000
  · rw [nxD_lo x c]; simp only; omega
  · rw [nxD_hi x (by omega)]; simp only
    rw [Int.fdiv_eq_ediv_of_nonneg _ (by omega)]; omega
theorem nxU_bd (x : Int) (h1 : 100000000 ≤ x) (h2 : x ≤ 999999999) : 100000000 ≤ (nxU x).1 ∧ (nxU x).1 ≤ 999999999 ∧ 0 ≤ (nxU x).2 ∧ (nxU x).2 ≤ 1 := by
  have h := sqU_bd x h1 h2
  by_cases c : sqU x < 1000000000
  · rw [nxU_lo x c]; simp only; omega
  · rw [nxU_hi x (by omega)]; simp only
    rw [cd_lit _ _ (by omega)]; omega
/-- The direction of rounding: false down, true up. -/
def nx (u : Bool) (x : Int) : Int × Int := if u then nxU x else nxD x
theorem nx_t (x : Int) : nx true x = nxU x := rfl
theorem nx_f (x : Int) : nx false x = nxD x := rfl
theorem nx_bd (u : Bool) (x : Int) (h1 : 100000000 ≤ x) (h2 : x ≤ 999999999) : 100000000 ≤ (nx u x).1 ∧ (nx u x).1 ≤ 999999999 ∧ 0 ≤ (nx u x).2 ∧ (nx u x).2 ≤ 1 := by
  cases u
  · exact nxD_bd x h1 h2
  · exact nxU_bd x h1 h2
/-- The rest and the bits behind k steps. -/
def lgs (u : Bool) (x : Int) : Nat → Int × Int
  | 0 => (x, 0)
  | k + 1 => ((nx u (lgs u x k).1).1, 2 * (lgs u x k).2 + (nx u (lgs u x k).1).2)
theorem lgs_zero (u : Bool) (x : Int) : lgs u x 0 = (x, 0) := rfl
theorem lgs_succ (u : Bool) (x : Int) (k : Nat) : lgs u x (k + 1) = ((nx u (lgs u x k).1).1, 2 * (lgs u x k).2 + (nx u (lgs u x k).1).2) := rfl
theorem lgs_bd' (u : Bool) (x : Int) (h1 : 100000000 ≤ x) (h2 : x ≤ 999999999) (k : Nat) : 100000000 ≤ (lgs u x k).1 ∧ (lgs u x k).1 ≤ 999999999 ∧ 0 ≤ (lgs u x k).2 ∧ (lgs u x k).2 + 1 ≤ (2 ^ k : Nat) := by
  induction k with
  | zero => rw [lgs_zero]; simp; omega
  | succ k ih =>
    obtain ⟨a, b, c, d⟩ := ih
    have n := nx_bd u _ a b
    rw [lgs_succ, Nat.pow_succ]
    simp only
    omega
theorem lgs_bd (u : Bool) (x : Int) (h1 : 100000000 ≤ x) (h2 : x ≤ 999999999) (k : Nat) (hk : k ≤ 20) : 100000000 ≤ (lgs u x k).1 ∧ (lgs u x k).1 ≤ 999999999 ∧ 0 ≤ (lgs u x k).2 ∧ (lgs u x k).2 ≤ 1048575 := by
  obtain ⟨a, b, c, d⟩ := lgs_bd' u x h1 h2 k
  have : 2 ^ k ≤ 2 ^ 20 := Nat.pow_le_pow_right (by omega) hk
  rw [show 2 ^ 20 = 1048576 by decide] at this
  omega
/-- The bits of the logarithm. -/
def lgb (u : Bool) (x : Int) : Int := (lgs u x 20).2
theorem lgb_bd (u : Bool) (x : Int) (h1 : 100000000 ≤ x) (h2 : x ≤ 999999999) : 0 ≤ lgb u x ∧ lgb u x ≤ 1048575 := (lgs_bd u x h1 h2 20 (by omega)).2.2
/-- The results of the public functions of chapter 3. -/
def loR (x : Int) : (Int × Int) × Int := if 100000000 ≤ x ∧ x ≤ 999999999 then ((lgb false x, lgb true x + 1), 0) else ((0, 0), 2)
theorem loR_ok (x : Int) (h : 100000000 ≤ x ∧ x ≤ 999999999) : loR x = ((lgb false x, lgb true x + 1), 0) := if_pos h
theorem loR_no (x : Int) (h : ¬ (100000000 ≤ x ∧ x ≤ 999999999)) : loR x = ((0, 0), 2) := if_neg h
def flg (d t : Int) : Int × Int := (lgb false (d * 100000) + t * 1048576, lgb true (d * 100000) + 1 + t * 1048576)
theorem flg_1 (d t : Int) : (flg d t).1 = lgb false (d * 100000) + t * 1048576 := rfl
theorem flg_2 (d t : Int) : (flg d t).2 = lgb true (d * 100000) + 1 + t * 1048576 := rfl
theorem flg_bd (d t : Int) (h : fg d t = true) : -31457280 ≤ (flg d t).1 ∧ (flg d t).1 ≤ 32505855 ∧ -31457279 ≤ (flg d t).2 ∧ (flg d t).2 ≤ 32505856 := by
  obtain ⟨⟨d1, d2⟩, t1, t2⟩ := (fg_iff d t).1 h
  have a := lgb_bd false (d * 100000) (by omega) (by omega)
  have b := lgb_bd true (d * 100000) (by omega) (by omega)
  rw [flg_1, flg_2]
  omega
def flR (d t : Int) : (Int × Int) × Int := if fg d t = true then (flg d t, 0) else ((0, 0), 1)
theorem flR_ok (d t : Int) (h : fg d t = true) : flR d t = (flg d t, 0) := if_pos h
theorem flR_no (d t : Int) (h : fg d t = false) : flR d t = ((0, 0), 1) := if_neg (by rw [h]; simp)
def adR (a b c d : Int) : (Int × Int) × Int := if (iv a b && iv c d) = true then rsi (a + c) (b + d) else ((0, 0), 1)
theorem adR_ok (a b c d : Int) (h : (iv a b && iv c d) = true) : adR a b c d = rsi (a + c) (b + d) := if_pos h
theorem adR_no (a b c d : Int) (h : (iv a b && iv c d) = false) : adR a b c d = ((0, 0), 1) := if_neg (by rw [h]; simp)
def suR (a b c d : Int) : (Int × Int) × Int := if (iv a b && iv c d) = true then rsi (a - d) (b - c) else ((0, 0), 1)
theorem suR_ok (a b c d : Int) (h : (iv a b && iv c d) = true) : suR a b c d = rsi (a - d) (b - c) := if_pos h
theorem suR_no (a b c d : Int) (h : (iv a b && iv c d) = false) : suR a b c d = ((0, 0), 1) := if_neg (by rw [h]; simp)
/-- An interval times a fraction: its bounds. -/
def scl (a b n d : Int) : Int × Int := if n < 0 then ((b * n).fdiv d, cd (a * n) d) else ((a * n).fdiv d, cd (b * n) d)
theorem scl_neg (a b n d : Int) (h : n < 0) : scl a b n d = ((b * n).fdiv d, cd (a * n) d) := if_pos h
theorem scl_pos (a b n d : Int) (h : 0 ≤ n) : scl a b n d = ((a * n).fdiv d, cd (b * n) d) := if_neg (by omega)
def scR (a b n d : Int) : (Int × Int) × Int := if iv a b = false then ((0, 0), 1) else if (-12 ≤ n ∧ n ≤ 12) ∧ (1 ≤ d ∧ d ≤ 12) then rsi (scl a b n d).1 (scl a b n d).2 else ((0, 0), 2)
theorem scR_no (a b n d : Int) (h : iv a b = false) : scR a b n d = ((0, 0), 1) := if_pos h
theorem scR_ok (a b n d : Int) (h : iv a b = true) (h1 : (-12 ≤ n ∧ n ≤ 12) ∧ (1 ≤ d ∧ d ≤ 12)) : scR a b n d = rsi (scl a b n d).1 (scl a b n d).2 := by
  unfold scR; rw [if_neg (by rw [h]; simp), if_pos h1]
theorem scR_rg (a b n d : Int) (h : iv a b = true) (h1 : ¬ ((-12 ≤ n ∧ n ≤ 12) ∧ (1 ≤ d ∧ d ≤ 12))) : scR a b n d = ((0, 0), 2) := by
  unfold scR; rw [if_neg (by rw [h]; simp), if_neg h1]
def maR (u : Int) : (Int × Int) × Int := if vl u = true then ((u - u.fdiv 1048576 * 1048576, u.fdiv 1048576), 0) else ((0, 0), 2)
theorem maR_ok (u : Int) (h : vl u = true) : maR u = ((u - u.fdiv 1048576 * 1048576, u.fdiv 1048576), 0) := if_pos h
theorem maR_no (u : Int) (h : vl u = false) : maR u = ((0, 0), 2) := if_neg (by rw [h]; simp)
theorem mod_eq (u : Int) : u - u.fdiv 1048576 * 1048576 = u % 1048576 := by
  rw [Int.fdiv_eq_ediv_of_nonneg _ (by omega)]; omega
def wiR (a b : Int) : Int × Int := if iv a b = true then (b - a, 0) else (0, 1)
theorem wiR_ok (a b : Int) (h : iv a b = true) : wiR a b = (b - a, 0) := if_pos h
theorem wiR_no (a b : Int) (h : iv a b = false) : wiR a b = (0, 1) := if_neg (by rw [h]; simp)
theorem tmod_emod' (a m : Int) : a.tmod m % m = a % m := by rw [Int.tmod_def, Int.sub_mul_emod_self_left]
theorem mod_1 (a m : Int) : (a.tmod m + m) % m = a % m := by rw [Int.add_emod_right, tmod_emod']
theorem mod_2 (a m : Int) : (a % m + m) % m = a % m := by rw [Int.add_emod_right, Int.emod_emod]
theorem mod_bds (a m : Int) (h : 1 ≤ m) : 0 ≤ a.tmod m + m ∧ a.tmod m ≤ m ∧ 0 ≤ a % m ∧ a % m ≤ m := by
  have h1 := Int.tmod_lt_of_pos a (b := m) (by omega)
  have h2 := Int.tmod_lt_of_pos (-a) (b := m) (by omega)
  rw [Int.neg_tmod] at h2
  have h3 := Int.emod_nonneg a (b := m) (by omega)
  have h4 := Int.emod_lt_of_pos a (b := m) (by omega)
  omega
end Go.Proofs.YtphebmbapllinaaDoor

/- Plain mathematics of chapter 3: the bits of a logarithm as a list. No program is imported here. -/
namespace Go.Proofs.YtphebmbapllinaaDoor
set_option linter.unusedSimpArgs false
set_option linter.unusedVariables false
/-- Bits as numbers, and the number that a list of bits spells. -/
def bI (b : Bool) : Int := if b then 1 else 0
theorem bI_t : bI true = 1 := rfl
theorem bI_f : bI false = 0 := rfl
theorem bI_bd (b : Bool) : 0 ≤ bI b ∧ bI b ≤ 1 := by cases b <;> decide
def numB (l : List Bool) : Int := l.foldl (fun s b => 2 * s + bI b) 0
theorem numB_nil : numB [] = 0 := rfl
theorem numB_snoc (l : List Bool) (b : Bool) : numB (l ++ [b]) = 2 * numB l + bI b := by unfold numB; rw [List.foldl_append]; rfl
theorem numB_bd' (n : Nat) : ∀ l : List Bool, l.length = n → 0 ≤ numB l ∧ numB l + 1 ≤ (2 ^ n : Nat) := by
  induction n with
  | zero => intro l h; rw [List.length_eq_zero_iff.1 h, numB_nil]; simp
  | succ n ih =>
    intro l h
    have hne : l ≠ [] := by intro e; rw [e] at h; simp at h
    have e := List.dropLast_concat_getLast hne
    have hl : l.dropLast.length = n := by rw [List.length_dropLast, h]; rfl
    have := ih l.dropLast hl
    have hb := bI_bd (l.getLast hne)
    rw [← e, numB_snoc, Nat.pow_succ]
    omega
theorem numB_bd (l : List Bool) (h : l.length ≤ 20) : 0 ≤ numB l ∧ numB l ≤ 1048575 := by
  have a := numB_bd' l.length l rfl
  have : 2 ^ l.length ≤ 2 ^ 20 := Nat.pow_le_pow_right (by omega) h
  rw [show 2 ^ 20 = 1048576 by decide] at this
  omega
/-- The bit of a step. -/
def hb (u : Bool) (x : Int) : Bool := if u then decide (1000000000 ≤ sqU x) else decide (1000000000 ≤ sqD x)
theorem hb_nx (u : Bool) (x : Int) : (nx u x).2 = bI (hb u x) := by
  cases u
  · unfold hb
    rw [nx_f, if_neg (by simp)]
    by_cases h : sqD x < 1000000000
    · rw [nxD_lo x h, decide_eq_false (by omega)]; rfl
    · rw [nxD_hi x (by omega), decide_eq_true (by omega)]; rfl
  · unfold hb
    rw [nx_t, if_pos rfl]
    by_cases h : sqU x < 1000000000
    · rw [nxU_lo x h, decide_eq_false (by omega)]; rfl
    · rw [nxU_hi x (by omega), decide_eq_true (by omega)]; rfl
/-- The first bits. -/
def bls (u : Bool) (x : Int) : Nat → List Bool
  | 0 => []
  | k + 1 => bls u x k ++ [hb u (lgs u x k).1]
theorem bls_zero (u : Bool) (x : Int) : bls u x 0 = [] := rfl
theorem bls_succ (u : Bool) (x : Int) (k : Nat) : bls u x (k + 1) = bls u x k ++ [hb u (lgs u x k).1] := rfl
theorem bls_len (u : Bool) (x : Int) (k : Nat) : (bls u x k).length = k := by
  induction k with
  | zero => rfl
  | succ k ih => rw [bls_succ, List.length_append, ih]; rfl
theorem bls_num (u : Bool) (x : Int) (k : Nat) : numB (bls u x k) = (lgs u x k).2 := by
  induction k with
  | zero => rfl
  | succ k ih => rw [bls_succ, numB_snoc, ih, lgs_succ, hb_nx]
end Go.Proofs.YtphebmbapllinaaDoor

/- Plain mathematics of the law over scaled intervals. No program is imported here. -/
namespace Go.Proofs.YtphebmbapllinaaDoor
set_option linter.unusedSimpArgs false
set_option linter.unusedVariables false

theorem scl_back_pos (a b n d : Int) (hn : 0 < n) (hd : 0 < d) :
    (scl (scl a b n d).1 (scl a b n d).2 d n).1 ≤ a ∧ b ≤ (scl (scl a b n d).1 (scl a b n d).2 d n).2 := by
  rw [scl_pos a b n d (by omega)]
  simp only
  rw [scl_pos _ _ d n (by omega)]
  simp only
  have f1 := (frac_pos (a * n) d hd).lo
  have f2 := (frac_pos (b * n) d hd).hi
  have g1 := (frac_pos ((a * n).fdiv d * d) n hn).lo
  have g2 := (frac_pos (cd (b * n) d * d) n hn).hi
  exact ⟨Int.le_of_mul_le_mul_right (Int.le_trans g1 f1) hn, Int.le_of_mul_le_mul_right (Int.le_trans f2 g2) hn⟩
theorem scl_back_neg (a b n d : Int) (hn : n < 0) (hd : 0 < d) :
    (scl (scl a b n d).1 (scl a b n d).2 (-d) (-n)).1 ≤ a ∧ b ≤ (scl (scl a b n d).1 (scl a b n d).2 (-d) (-n)).2 := by
  rw [scl_neg a b n d hn]
  simp only
  rw [scl_neg _ _ (-d) (-n) (by omega)]
  simp only
  have f1 := (frac_pos (b * n) d hd).lo
  have f2 := (frac_pos (a * n) d hd).hi
  have g1 := (frac_pos (cd (a * n) d * -d) (-n) (by omega)).lo
  have g2 := (frac_pos ((b * n).fdiv d * -d) (-n) (by omega)).hi
  have e1 : cd (a * n) d * -d = -(cd (a * n) d * d) := Int.mul_neg _ _
  have e2 : (b * n).fdiv d * -d = -((b * n).fdiv d * d) := Int.mul_neg _ _
  have e3 : a * -n = -(a * n) := Int.mul_neg _ _
  have e4 : b * -n = -(b * n) := Int.mul_neg _ _
  exact ⟨Int.le_of_mul_le_mul_right (a := -n) (by omega) (by omega), Int.le_of_mul_le_mul_right (a := -n) (by omega) (by omega)⟩
theorem rsi_code (l h : Int) : ((rsi l h).2 = 0 ∧ (rsi l h).1 = (l, h) ∧ iv l h = true) ∨ ((rsi l h).2 = 3 ∧ (rsi l h).1 = (0, 0)) := by
  cases e : iv l h
  · rw [rsi_no l h e]; exact .inr ⟨rfl, rfl⟩
  · rw [rsi_ok l h e]; exact .inl ⟨rfl, rfl, rfl⟩
/-- What is known of a scaled interval. -/
theorem scR_facts (a b n d : Int) : ((scR a b n d).2 ≠ 0) ∨
    ((scR a b n d).2 = 0 ∧ iv a b = true ∧ (-12 ≤ n ∧ n ≤ 12) ∧ (1 ≤ d ∧ d ≤ 12) ∧ (scR a b n d).1 = scl a b n d ∧ iv (scR a b n d).1.1 (scR a b n d).1.2 = true) := by
  cases h : iv a b
  · left; rw [scR_no a b n d h]; simp
  · by_cases hr : (-12 ≤ n ∧ n ≤ 12) ∧ (1 ≤ d ∧ d ≤ 12)
    · rw [scR_ok a b n d h hr]
      rcases rsi_code (scl a b n d).1 (scl a b n d).2 with ⟨c, v, i⟩ | ⟨c, -⟩
      · right; rw [v]; exact ⟨c, rfl, hr.1, hr.2, rfl, i⟩
      · left; rw [c]; simp
    · left; rw [scR_rg a b n d h hr]; simp
/-- Scaling back encloses the interval, or is over the limit. -/
theorem scale_back (a b n d : Int) (h : (scR a b n d).2 = 0) :
    (0 < n → (scR (scR a b n d).1.1 (scR a b n d).1.2 d n).2 = 3 ∨ ((scR (scR a b n d).1.1 (scR a b n d).1.2 d n).2 = 0 ∧ (scR (scR a b n d).1.1 (scR a b n d).1.2 d n).1.1 ≤ a ∧ b ≤ (scR (scR a b n d).1.1 (scR a b n d).1.2 d n).1.2)) ∧
    (n < 0 → (scR (scR a b n d).1.1 (scR a b n d).1.2 (-d) (-n)).2 = 3 ∨ ((scR (scR a b n d).1.1 (scR a b n d).1.2 (-d) (-n)).2 = 0 ∧ (scR (scR a b n d).1.1 (scR a b n d).1.2 (-d) (-n)).1.1 ≤ a ∧ b ≤ (scR (scR a b n d).1.1 (scR a b n d).1.2 (-d) (-n)).1.2)) := by
  rcases scR_facts a b n d with hc | ⟨-, hi, ⟨n1, n2⟩, ⟨d1, d2⟩, hv, hj⟩
  · exact absurd h hc
  constructor
  · intro hn
    have hb := scl_back_pos a b n d hn (by omega)
    rw [← hv] at hb
    rw [scR_ok _ _ d n hj (by omega)]
    rcases rsi_code (scl (scR a b n d).1.1 (scR a b n d).1.2 d n).1 (scl (scR a b n d).1.1 (scR a b n d).1.2 d n).2 with ⟨c, v, -⟩ | ⟨c, -⟩
    · right; rw [v]; exact ⟨c, hb⟩
    · left; exact c
  · intro hn
    have hb := scl_back_neg a b n d hn (by omega)
    rw [← hv] at hb
    rw [scR_ok _ _ (-d) (-n) hj (by omega)]
    rcases rsi_code (scl (scR a b n d).1.1 (scR a b n d).1.2 (-d) (-n)).1 (scl (scR a b n d).1.1 (scR a b n d).1.2 (-d) (-n)).2 with ⟨c, v, -⟩ | ⟨c, -⟩
    · right; rw [v]; exact ⟨c, hb⟩
    · left; exact c
/-- A mantissa and its decades. -/
theorem maR_facts (u : Int) : ((maR u).2 = 2) ∨ ((maR u).2 = 0 ∧ 0 ≤ (maR u).1.1 ∧ (maR u).1.1 < 1048576 ∧ (-1000000 ≤ (maR u).1.2 ∧ (maR u).1.2 ≤ 1000000) ∧ (maR u).1.2 * 1048576 + (maR u).1.1 = u) := by
  cases h : vl u
  · left; rw [maR_no u h]
  · right
    have hb := (vl_iff u).1 h
    rw [maR_ok u h]
    refine ⟨rfl, ?_⟩
    simp only
    rw [Int.fdiv_eq_ediv_of_nonneg _ (by omega)]
    omega
end Go.Proofs.YtphebmbapllinaaDoor

/- Plain mathematics of logarithms by squaring: what the bits say of powers. No program is imported here. -/
namespace Go.Proofs.YtphebmbapllinaaDoor
set_option linter.unusedSimpArgs false
set_option linter.unusedVariables false

/-- One step, lower bits. -/
theorem step_lo (r : Nat) (h1 : 100000000 ≤ r) (h2 : r ≤ 999999999) : ∃ c b r' : Nat, (nxD r).1 = r' ∧ (nxD r).2 = b ∧ c = 10 ^ b ∧ (100000000 ≤ r' ∧ r' ≤ 999999999) ∧
    c * r' * 100000000 ≤ r * r ∧ r * r * (99999999 * 99999999) ≤ c * r' * 100000000 * (100000000 * 100000000) := by
  have hs : sqD (r : Int) = ((r * r / 100000000 : Nat) : Int) := by
    unfold sqD; rw [Int.fdiv_eq_ediv_of_nonneg _ (by omega)]; simp
  have hb := nxD_bd (r : Int) (by omega) (by omega)
  have hd : 100000000 * (r * r / 100000000) ≤ r * r ∧ r * r < 100000000 * (r * r / 100000000) + 100000000 := by omega
  generalize r * r = q at *
  generalize q / 100000000 = s at *
  by_cases h : sqD (r : Int) < 1000000000
  · rw [nxD_lo _ h, hs] at hb ⊢
    rw [hs] at h
    simp only at hb
    exact ⟨1, 0, s, rfl, rfl, rfl, by omega, by omega, by omega⟩
  · have he : (sqD (r : Int)).fdiv 10 = ((s / 10 : Nat) : Int) := by rw [hs, Int.fdiv_eq_ediv_of_nonneg _ (by omega)]; simp
    rw [nxD_hi _ (by omega), he] at hb ⊢
    rw [hs] at h
    simp only at hb
    have : 10 * (s / 10) ≤ s ∧ s < 10 * (s / 10) + 10 := by omega
    generalize s / 10 = r' at *
    exact ⟨10, 1, r', rfl, rfl, rfl, by omega, by omega, by omega⟩
/-- One step, upper bits. -/
theorem step_up (r : Nat) (h1 : 100000000 ≤ r) (h2 : r ≤ 999999999) : ∃ c b r' : Nat, (nxU r).1 = r' ∧ (nxU r).2 = b ∧ c = 10 ^ b ∧ (100000000 ≤ r' ∧ r' ≤ 999999999) ∧
    r * r ≤ c * r' * 100000000 ∧ c * r' * 100000000 * (99999999 * 99999999) ≤ r * r * (100000000 * 100000000) := by
  have hs : sqU (r : Int) = (((r * r + 99999999) / 100000000 : Nat) : Int) := by
    have e : (r : Int) * r = ((r * r : Nat) : Int) := by simp
    unfold sqU; rw [cd_lit _ _ (by omega), e]; omega
  have hb := nxU_bd (r : Int) (by omega) (by omega)
  have hq := sq_bd (r : Int) (by omega) (by omega)
  have e : (r : Int) * r = ((r * r : Nat) : Int) := by simp
  rw [e] at hq
  have hd : r * r ≤ 100000000 * ((r * r + 99999999) / 100000000) ∧ 100000000 * ((r * r + 99999999) / 100000000) ≤ r * r + 99999999 := by omega
  generalize r * r = q at *
  generalize (q + 99999999) / 100000000 = s at *
  by_cases h : sqU (r : Int) < 1000000000
  · rw [nxU_lo _ h, hs] at hb ⊢
    rw [hs] at h
    simp only at hb
    exact ⟨1, 0, s, rfl, rfl, rfl, by omega, by omega, by omega⟩
  · have he : cd (sqU (r : Int)) 10 = (((s + 9) / 10 : Nat) : Int) := by rw [hs, cd_lit _ _ (by omega)]; omega
    rw [nxU_hi _ (by omega), he] at hb ⊢
    rw [hs] at h
    simp only at hb
    have : s ≤ 10 * ((s + 9) / 10) ∧ 10 * ((s + 9) / 10) ≤ s + 9 := by omega
    generalize (s + 9) / 10 = r' at *
    exact ⟨10, 1, r', rfl, rfl, rfl, by omega, by omega, by omega⟩

/-- The invariant's step, on plain numbers: p = 10^m, z = D^N, y = x^N, q = D^E, a = (D-1)^E. -/
theorem inv_up {p r z y D q a c r' g : Nat} (hD : 0 < D) (h1 : p * r * z ≤ y * D) (h2 : y * D * a ≤ p * r * z * q) (s1 : c * r' * D ≤ r * r) (s2 : r * r * (g * g) ≤ c * r' * D * (D * D)) :
    p * p * c * r' * (z * z) ≤ y * y * D ∧ y * y * D * (a * a * (g * g)) ≤ p * p * c * r' * (z * z) * (q * q * (D * D)) := by
  constructor
  · refine Nat.le_of_mul_le_mul_right (c := D) ?_ hD
    calc p * p * c * r' * (z * z) * D = (p * z) * (p * z) * (c * r' * D) := by ac_rfl
      _ ≤ (p * z) * (p * z) * (r * r) := Nat.mul_le_mul_left _ s1
      _ = (p * r * z) * (p * r * z) := by ac_rfl
      _ ≤ (y * D) * (y * D) := Nat.mul_le_mul h1 h1
      _ = y * y * D * D := by ac_rfl
  · refine Nat.le_of_mul_le_mul_right (c := D) ?_ hD
    calc y * y * D * (a * a * (g * g)) * D = (y * D * a) * (y * D * a) * (g * g) := by ac_rfl
      _ ≤ (p * r * z * q) * (p * r * z * q) * (g * g) := Nat.mul_le_mul_right _ (Nat.mul_le_mul h2 h2)
      _ = (p * z * q) * (p * z * q) * (r * r * (g * g)) := by ac_rfl
      _ ≤ (p * z * q) * (p * z * q) * (c * r' * D * (D * D)) := Nat.mul_le_mul_left _ s2
      _ = p * p * c * r' * (z * z) * (q * q * (D * D)) * D := by ac_rfl
theorem inv_dn {p r z y D q a c r' g : Nat} (hD : 0 < D) (h1 : y * D ≤ p * r * z) (h2 : p * r * z * a ≤ y * D * q) (s1 : r * r ≤ c * r' * D) (s2 : c * r' * D * (g * g) ≤ r * r * (D * D)) :
    y * y * D ≤ p * p * c * r' * (z * z) ∧ p * p * c * r' * (z * z) * (a * a * (g * g)) ≤ y * y * D * (q * q * (D * D)) := by
  constructor
  · refine Nat.le_of_mul_le_mul_right (c := D) ?_ hD
    calc y * y * D * D = (y * D) * (y * D) := by ac_rfl
      _ ≤ (p * r * z) * (p * r * z) := Nat.mul_le_mul h1 h1
      _ = (p * z) * (p * z) * (r * r) := by ac_rfl
      _ ≤ (p * z) * (p * z) * (c * r' * D) := Nat.mul_le_mul_left _ s1
      _ = p * p * c * r' * (z * z) * D := by ac_rfl
  · refine Nat.le_of_mul_le_mul_right (c := D) ?_ hD
    calc p * p * c * r' * (z * z) * (a * a * (g * g)) * D = (p * z * a) * (p * z * a) * (c * r' * D * (g * g)) := by ac_rfl
      _ ≤ (p * z * a) * (p * z * a) * (r * r * (D * D)) := Nat.mul_le_mul_left _ s2
      _ = (p * r * z * a) * (p * r * z * a) * (D * D) := by ac_rfl
      _ ≤ (y * D * q) * (y * D * q) * (D * D) := Nat.mul_le_mul_right _ (Nat.mul_le_mul h2 h2)
      _ = y * y * D * (q * q * (D * D)) * D := by ac_rfl

theorem pow_two_mul (b n : Nat) : b ^ (2 * n) = b ^ n * b ^ n := by rw [Nat.two_mul, Nat.pow_add]
/-- How often a rounding has gone in. -/
def errs : Nat → Nat
  | 0 => 0
  | k + 1 => 2 * errs k + 2
theorem pow_err (b k : Nat) : b ^ errs (k + 1) = b ^ errs k * b ^ errs k * (b * b) := by
  show b ^ (2 * errs k + 2) = _
  rw [Nat.pow_add, pow_two_mul, show b ^ 2 = b * b from Nat.pow_two b]
theorem pow_k (b k : Nat) : b ^ (2 ^ (k + 1)) = b ^ 2 ^ k * b ^ 2 ^ k := by rw [Nat.pow_succ, Nat.mul_comm (2 ^ k) 2, pow_two_mul]

theorem low_inv (x : Nat) (h1 : 100000000 ≤ x) (h2 : x ≤ 999999999) (k : Nat) : ∃ m r : Nat, lgs false x k = ((r : Int), (m : Int)) ∧ (100000000 ≤ r ∧ r ≤ 999999999) ∧
    10 ^ m * r * 100000000 ^ 2 ^ k ≤ x ^ 2 ^ k * 100000000 ∧ x ^ 2 ^ k * 100000000 * 99999999 ^ errs k ≤ 10 ^ m * r * 100000000 ^ 2 ^ k * 100000000 ^ errs k := by
  induction k with
  | zero => exact ⟨0, x, by rw [lgs_zero]; rfl, ⟨h1, h2⟩, by simp, by simp [errs]⟩
  | succ k ih =>
    obtain ⟨m, r, e, ⟨r1, r2⟩, i1, i2⟩ := ih
    obtain ⟨c, b, r', n1, n2, hc, hr, s1, s2⟩ := step_lo r r1 r2
    obtain ⟨j1, j2⟩ := inv_up (by omega) i1 i2 s1 s2
    refine ⟨2 * m + b, r', ?_, hr, ?_, ?_⟩
    · rw [lgs_succ, e]; simp only [nx_f, n1, n2]; simp
    · rw [pow_k, pow_k, Nat.pow_add, pow_two_mul, ← hc]; exact j1
    · rw [pow_k, pow_k, pow_err, pow_err, Nat.pow_add, pow_two_mul, ← hc]; exact j2
theorem up_inv (x : Nat) (h1 : 100000000 ≤ x) (h2 : x ≤ 999999999) (k : Nat) : ∃ m r : Nat, lgs true x k = ((r : Int), (m : Int)) ∧ (100000000 ≤ r ∧ r ≤ 999999999) ∧
    x ^ 2 ^ k * 100000000 ≤ 10 ^ m * r * 100000000 ^ 2 ^ k ∧ 10 ^ m * r * 100000000 ^ 2 ^ k * 99999999 ^ errs k ≤ x ^ 2 ^ k * 100000000 * 100000000 ^ errs k := by
  induction k with
  | zero => exact ⟨0, x, by rw [lgs_zero]; rfl, ⟨h1, h2⟩, by simp, by simp [errs]⟩
  | succ k ih =>
    obtain ⟨m, r, e, ⟨r1, r2⟩, i1, i2⟩ := ih
    obtain ⟨c, b, r', n1, n2, hc, hr, s1, s2⟩ := step_up r r1 r2
    obtain ⟨j1, j2⟩ := inv_dn (by omega) i1 i2 s1 s2
    refine ⟨2 * m + b, r', ?_, hr, ?_, ?_⟩
    · rw [lgs_succ, e]; simp only [nx_t, n1, n2]; simp
    · rw [pow_k, pow_k, Nat.pow_add, pow_two_mul, ← hc]; exact j1
    · rw [pow_k, pow_k, pow_err, pow_err, Nat.pow_add, pow_two_mul, ← hc]; exact j2

/-- Bernoulli. -/
theorem bern (a : Nat) : ∀ E : Nat, (a + 1) ^ E * (a + 1) ≤ a ^ E * (a + 1) + E * (a + 1) ^ E
  | 0 => by simp
  | E + 1 => by
    have ih := Nat.mul_le_mul_left a (bern a E)
    rw [Nat.pow_succ (a + 1), Nat.pow_succ a]
    generalize (a + 1) ^ E = u at *
    generalize a ^ E = v at *
    calc u * (a + 1) * (a + 1) = a * (u * (a + 1)) + u * (a + 1) := by rw [Nat.mul_add_one (u * (a + 1)), Nat.mul_comm a]
      _ ≤ a * (v * (a + 1) + E * u) + u * (a + 1) := Nat.add_le_add_right ih _
      _ ≤ v * a * (a + 1) + (E + 1) * (u * (a + 1)) := by
        rw [Nat.mul_add a, Nat.succ_mul E, show a * (v * (a + 1)) = v * a * (a + 1) by ac_rfl, show a * (E * u) = E * (u * a) by ac_rfl, Nat.add_assoc]
        refine Nat.add_le_add_left (Nat.add_le_add_right ?_ _) _
        exact Nat.mul_le_mul_left _ (Nat.mul_le_mul_left _ (by omega))
/-- The errors of twenty steps together: less than a fortieth. -/
theorem err_gen (u v E : Nat) (hE : E = 2097150) (h : 100000000 * u ≤ 100000000 * v + E * u) : 97902850 * u ≤ 100000000 * v := by subst hE; omega
theorem err_20 : 100000000 ^ errs 20 * 97902850 ≤ 99999999 ^ errs 20 * 100000000 := by
  have h := bern 99999999 (errs 20)
  rw [show 99999999 + 1 = 100000000 from rfl, Nat.mul_comm _ 100000000, Nat.mul_comm _ 100000000] at h
  rw [Nat.mul_comm _ 97902850, Nat.mul_comm _ 100000000]
  exact err_gen _ _ (errs 20) (by decide) h
theorem cancel_err {S T c d : Nat} (E : Nat) (hd : 0 < 99999999 ^ E) (h : T * 99999999 ^ E ≤ S * 100000000 ^ E) (he : 100000000 ^ E * c ≤ 99999999 ^ E * d) : T * c ≤ S * d := by
  refine Nat.le_of_mul_le_mul_right (c := 99999999 ^ E) ?_ hd
  calc T * c * 99999999 ^ E = T * 99999999 ^ E * c := by ac_rfl
    _ ≤ S * 100000000 ^ E * c := Nat.mul_le_mul_right _ h
    _ = S * (100000000 ^ E * c) := by ac_rfl
    _ ≤ S * (99999999 ^ E * d) := Nat.mul_le_mul_left _ he
    _ = S * d * 99999999 ^ E := by ac_rfl
/-- A decade, in units. -/
def NN : Nat := 2 ^ 20
theorem NN_eq : NN = 1048576 := by decide

theorem fin_low {p r z y : Nat} (hp : 0 < p) (hz : 0 < z) (r1 : 100000000 ≤ r) (r2 : r ≤ 999999999) (i1 : p * r * z ≤ y * 100000000) (j : y * 100000000 * 97902850 ≤ p * r * z * 100000000) :
    p * z ≤ y ∧ y * 97902850 < p * 10 * z * 100000000 := by
  constructor
  · refine Nat.le_of_mul_le_mul_right (c := 100000000) ?_ (by omega)
    calc p * z * 100000000 = p * 100000000 * z := by ac_rfl
      _ ≤ p * r * z := Nat.mul_le_mul_right _ (Nat.mul_le_mul_left _ r1)
      _ ≤ _ := i1
  · refine Nat.lt_of_mul_lt_mul_right (a := 100000000) ?_
    calc y * 97902850 * 100000000 = y * 100000000 * 97902850 := by ac_rfl
      _ ≤ p * r * z * 100000000 := j
      _ < p * (10 * 100000000) * z * 100000000 := by
        refine Nat.mul_lt_mul_of_pos_right (Nat.mul_lt_mul_of_pos_right (Nat.mul_lt_mul_of_pos_left (by omega) hp) hz) (by omega)
      _ = p * 10 * z * 100000000 * 100000000 := by ac_rfl
theorem fin_up {p r z y : Nat} (hp : 0 < p) (hz : 0 < z) (r1 : 100000000 ≤ r) (r2 : r ≤ 999999999) (i1 : y * 100000000 ≤ p * r * z) (j : p * r * z * 97902850 ≤ y * 100000000 * 100000000) :
    y < p * 10 * z ∧ p * z * 97902850 ≤ y * 100000000 := by
  constructor
  · refine Nat.lt_of_mul_lt_mul_right (a := 100000000) ?_
    calc y * 100000000 ≤ p * r * z := i1
      _ < p * (10 * 100000000) * z := by
        refine Nat.mul_lt_mul_of_pos_right (Nat.mul_lt_mul_of_pos_left (by omega) hp) hz
      _ = p * 10 * z * 100000000 := by ac_rfl
  · refine Nat.le_of_mul_le_mul_right (c := 100000000) ?_ (by omega)
    calc p * z * 97902850 * 100000000 = p * 100000000 * z * 97902850 := by ac_rfl
      _ ≤ p * r * z * 97902850 := Nat.mul_le_mul_right _ (Nat.mul_le_mul_right _ (Nat.mul_le_mul_left _ r1))
      _ ≤ y * 100000000 * 100000000 := j
/-- What the lower bits say: a power lies between powers of ten. -/
theorem lgb_low (x : Nat) (h1 : 100000000 ≤ x) (h2 : x ≤ 999999999) : ∃ m : Nat, lgb false x = m ∧
    10 ^ m * 100000000 ^ NN ≤ x ^ NN ∧ x ^ NN * 97902850 < 10 ^ m * 10 * 100000000 ^ NN * 100000000 := by
  obtain ⟨m, r, e, ⟨r1, r2⟩, i1, i2⟩ := low_inv x h1 h2 20
  rw [show (2 : Nat) ^ 20 = NN from rfl] at i1 i2
  have j := cancel_err (errs 20) (Nat.pow_pos (by omega)) i2 err_20
  exact ⟨m, by unfold lgb; rw [e], fin_low (Nat.pow_pos (by omega)) (Nat.pow_pos (by omega)) r1 r2 i1 j⟩
/-- What the upper bits say. -/
theorem lgb_up (x : Nat) (h1 : 100000000 ≤ x) (h2 : x ≤ 999999999) : ∃ m : Nat, lgb true x = m ∧
    x ^ NN < 10 ^ m * 10 * 100000000 ^ NN ∧ 10 ^ m * 100000000 ^ NN * 97902850 ≤ x ^ NN * 100000000 := by
  obtain ⟨m, r, e, ⟨r1, r2⟩, i1, i2⟩ := up_inv x h1 h2 20
  rw [show (2 : Nat) ^ 20 = NN from rfl] at i1 i2
  have j := cancel_err (errs 20) (Nat.pow_pos (by omega)) i2 err_20
  exact ⟨m, by unfold lgb; rw [e], fin_up (Nat.pow_pos (by omega)) (Nat.pow_pos (by omega)) r1 r2 i1 j⟩

/-- Exponents out of powers of ten. -/
theorem pow_lt {m n : Nat} (h : 10 ^ m < 10 ^ n) : m < n := (Nat.pow_lt_pow_iff_right (by omega)).1 h
theorem pow_lt2 {n m j C F : Nat} (h : 10 ^ n * C < 10 ^ m * F) (hF : F ≤ 10 ^ j * C) : n < m + j := by
  refine pow_lt (Nat.lt_of_mul_lt_mul_right (a := C) ?_)
  calc 10 ^ n * C < 10 ^ m * F := h
    _ ≤ 10 ^ m * (10 ^ j * C) := Nat.mul_le_mul_left _ hF
    _ = 10 ^ (m + j) * C := by rw [Nat.pow_add, Nat.mul_assoc]
theorem two_err {A y B c D : Nat} (hc : 0 < c) (hD : 0 < D) (h1 : A * c ≤ y * D) (h2 : y * c < B * D) : A * (c * c) < B * (D * D) :=
  calc A * (c * c) = A * c * c := by ac_rfl
    _ ≤ y * D * c := Nat.mul_le_mul_right _ h1
    _ = y * c * D := by ac_rfl
    _ < B * D * D := Nat.mul_lt_mul_of_pos_right h2 hD
    _ = B * (D * D) := by ac_rfl
/-- The width of a logarithm, and its lower bits are not above the upper ones. -/
theorem lgb_width (x : Nat) (h1 : 100000000 ≤ x) (h2 : x ≤ 999999999) : lgb false x ≤ lgb true x ∧ lgb true x ≤ lgb false x + 1 := by
  obtain ⟨m, e, a1, a2⟩ := lgb_low x h1 h2
  obtain ⟨n, f, b1, b2⟩ := lgb_up x h1 h2
  rw [e, f]
  generalize x ^ NN = y at *
  generalize 100000000 ^ NN = z at *
  have c1 : m < n + 1 := by
    refine pow_lt (Nat.lt_of_mul_lt_mul_right (a := z) ?_)
    rw [Nat.pow_succ]
    exact Nat.lt_of_le_of_lt a1 b1
  have c2 : n < m + 1 + 1 := by
    have h3 := two_err (by omega) (by omega) b2 a2
    refine pow_lt2 (C := 97902850 * 97902850) (F := 100000000 * 100000000) (Nat.lt_of_mul_lt_mul_right (a := z) ?_) (by decide)
    rw [Nat.pow_succ]
    calc 10 ^ n * (97902850 * 97902850) * z = 10 ^ n * z * (97902850 * 97902850) := by ac_rfl
      _ < 10 ^ m * 10 * z * (100000000 * 100000000) := h3
      _ = 10 ^ m * 10 * (100000000 * 100000000) * z := by ac_rfl
  omega
/-- Bernoulli, the other way. -/
theorem bern2 (d : Nat) : ∀ E : Nat, d ^ E * (d + E) ≤ (d + 1) ^ E * d
  | 0 => by simp
  | E + 1 => by
    have ih := Nat.mul_le_mul_right (d + 1) (bern2 d E)
    rw [Nat.pow_succ (d + 1), Nat.pow_succ d]
    generalize (d + 1) ^ E = u at *
    generalize d ^ E = v at *
    calc v * d * (d + (E + 1)) = v * (d * d + d * E + d) := by rw [Nat.mul_assoc, Nat.mul_add d, Nat.mul_add_one d, Nat.add_assoc]
      _ ≤ v * (d * d + d * E + d + E) := Nat.mul_le_mul_left _ (by omega)
      _ = v * (d + E) * (d + 1) := by rw [Nat.mul_assoc, Nat.mul_add_one (d + E), Nat.add_mul d E, Nat.mul_comm E d]; congr 1; omega
      _ ≤ u * d * (d + 1) := ih
      _ = u * (d + 1) * d := by ac_rfl
/-- Greater figures have greater logarithms, without overlap. -/
theorem dig_bd (d : Nat) (h1 : 1000 ≤ d) (h2 : d ≤ 9999) : 100000000 ≤ d * 100000 ∧ d * 100000 ≤ 999999999 :=
  ⟨Nat.le_trans (by decide : 100000000 ≤ 1000 * 100000) (Nat.mul_le_mul_right _ h1), Nat.le_trans (Nat.mul_le_mul_right _ h2) (by decide)⟩
theorem fin_num (d : Nat) (h : d ≤ 9998) : 100 * (100000000 * 100000000 * d) ≤ 97902850 * 97902850 * (d + 1048576) := by
  have e1 : 100 * (100000000 * 100000000 * d) = 1000000000000000000 * d := by rw [← Nat.mul_assoc]
  have e2 : 97902850 * 97902850 * (d + 1048576) = 9584968038122500 * d + 10050567445542338560000 := by rw [Nat.mul_add]
  rw [e1, e2]
  exact Nat.le_trans (Nat.mul_le_mul_left _ h) (Nat.le_trans (by decide) (Nat.le_add_left _ _))
theorem lgb_next (d : Nat) (h1 : 1000 ≤ d) (h2 : d ≤ 9998) : lgb true (((d * 100000 : Nat) : Int)) + 1 < lgb false ((((d + 1) * 100000 : Nat) : Int)) := by
  obtain ⟨n, f, b1, b2⟩ := lgb_up (d * 100000) (dig_bd d (by omega) (by omega)).1 (dig_bd d (by omega) (by omega)).2
  obtain ⟨m, e, a1, a2⟩ := lgb_low ((d + 1) * 100000) (dig_bd (d + 1) (by omega) (by omega)).1 (dig_bd (d + 1) (by omega) (by omega)).2
  have hu : 0 < d ^ NN := Nat.pow_pos (by omega)
  have hv : 0 < 100000 ^ NN := Nat.pow_pos (by omega)
  have hb := bern2 d NN
  rw [e, f]
  rw [Nat.mul_pow] at b2 a2
  have key : 10 ^ n * (97902850 * 97902850 * (d + NN)) < 10 ^ (m + 1) * (100000000 * 100000000 * d) := by
    rw [Nat.pow_succ]
    generalize (d + 1) ^ NN = g at *
    generalize d ^ NN = u at *
    generalize 100000 ^ NN = v at *
    generalize 100000000 ^ NN = z at *
    refine Nat.lt_of_mul_lt_mul_right (a := z * u * v) ?_
    calc 10 ^ n * (97902850 * 97902850 * (d + NN)) * (z * u * v) = (10 ^ n * z * 97902850) * (97902850 * v * (u * (d + NN))) := by ac_rfl
      _ ≤ (u * v * 100000000) * (97902850 * v * (u * (d + NN))) := Nat.mul_le_mul_right _ b2
      _ ≤ (u * v * 100000000) * (97902850 * v * (g * d)) := Nat.mul_le_mul_left _ (Nat.mul_le_mul_left _ hb)
      _ = (g * v * 97902850) * (u * v * 100000000 * d) := by ac_rfl
      _ < (10 ^ m * 10 * z * 100000000) * (u * v * 100000000 * d) := Nat.mul_lt_mul_of_pos_right a2 (Nat.mul_pos (Nat.mul_pos (Nat.mul_pos hu hv) (by omega)) (by omega))
      _ = 10 ^ m * 10 * (100000000 * 100000000 * d) * (z * u * v) := by ac_rfl
  rw [NN_eq] at key
  have fin : n + 2 < m + 1 := by
    refine pow_lt (Nat.lt_of_mul_lt_mul_right (a := 100000000 * 100000000 * d) ?_)
    calc 10 ^ (n + 2) * (100000000 * 100000000 * d) = 10 ^ n * (100 * (100000000 * 100000000 * d)) := by rw [Nat.pow_add, Nat.mul_assoc]
      _ ≤ 10 ^ n * (97902850 * 97902850 * (d + 1048576)) := Nat.mul_le_mul_left _ (fin_num d h2)
      _ < _ := key
  omega
end Go.Proofs.YtphebmbapllinaaDoor

/- Plain mathematics: the logarithm of a rounded product and the sum of the logarithms. No program is imported here. -/
namespace Go.Proofs.YtphebmbapllinaaDoor
set_option linter.unusedSimpArgs false
set_option linter.unusedVariables false

theorem num_1 : 2000 ^ NN ≤ 10 ^ 228 * 1999 ^ NN := by decide +kernel
theorem num_2 : 2001 ^ NN ≤ 10 ^ 228 * 2000 ^ NN := by decide +kernel

theorem prod_hi {m n k jj p a b w z t c F u : Nat} (hz : 0 < z) (hu : 0 < u) (h1 : 10 ^ m * z ≤ p * w) (h2 : a * w < 10 ^ n * 10 * z) (h3 : b * w < 10 ^ k * 10 * z) (ht : t * w = z * 10 ^ jj)
    (hc : p * t * c ≤ a * b * F) (hF : F ≤ 10 ^ 228 * c) (hpos : 0 < F) : m + jj < n + k + 2 + 228 := by
  refine pow_lt2 (C := c) (F := F) (Nat.lt_of_mul_lt_mul_right (a := z * z) ?_) hF
  calc 10 ^ (m + jj) * c * (z * z) = (10 ^ m * z) * (z * 10 ^ jj) * c := by rw [Nat.pow_add]; ac_rfl
    _ = (10 ^ m * z) * (t * w) * c := by rw [ht]
    _ ≤ (p * w) * (t * w) * c := Nat.mul_le_mul_right _ (Nat.mul_le_mul_right _ h1)
    _ = (p * t * c) * (w * w) := by ac_rfl
    _ ≤ (a * b * F) * (w * w) := Nat.mul_le_mul_right _ hc
    _ = (a * w) * (b * w) * F := by ac_rfl
    _ < (10 ^ n * 10 * z) * (10 ^ k * 10 * z) * F := by
      refine Nat.mul_lt_mul_of_pos_right ?_ hpos
      exact Nat.lt_of_le_of_lt (Nat.mul_le_mul_left _ (Nat.le_of_lt h3)) (Nat.mul_lt_mul_of_pos_right h2 (Nat.mul_pos (Nat.mul_pos (Nat.pow_pos (by omega)) (by omega)) hz))
    _ = 10 ^ (n + k + 2) * F * (z * z) := by
      rw [Nat.pow_add, Nat.pow_add, show (10 : Nat) ^ 2 = 10 * 10 from rfl]
      generalize 10 ^ n = x
      generalize 10 ^ k = y
      ac_rfl
theorem prod_lo {m n k jj p a b w z t c F : Nat} (hz : 0 < z) (h1 : 10 ^ m * z ≤ a * w) (h2 : 10 ^ n * z ≤ b * w) (h3 : p * w < 10 ^ k * 10 * z) (ht : t * w = z * 10 ^ jj)
    (hc : a * b * c ≤ p * t * F) (hF : F ≤ 10 ^ 228 * c) (hpos : 0 < F) : m + n < k + 1 + jj + 228 := by
  refine pow_lt2 (C := c) (F := F) (Nat.lt_of_mul_lt_mul_right (a := z * z) ?_) hF
  calc 10 ^ (m + n) * c * (z * z) = (10 ^ m * z) * (10 ^ n * z) * c := by rw [Nat.pow_add]; ac_rfl
    _ ≤ (a * w) * (b * w) * c := Nat.mul_le_mul_right _ (Nat.mul_le_mul h1 h2)
    _ = (a * b * c) * (w * w) := by ac_rfl
    _ ≤ (p * t * F) * (w * w) := Nat.mul_le_mul_right _ hc
    _ = (p * w) * (t * w * F) := by ac_rfl
    _ = (p * w) * (z * 10 ^ jj * F) := by rw [ht]
    _ < (10 ^ k * 10 * z) * (z * 10 ^ jj * F) := Nat.mul_lt_mul_of_pos_right h3 (Nat.mul_pos (Nat.mul_pos hz (Nat.pow_pos (by omega))) hpos)
    _ = 10 ^ (k + 1 + jj) * F * (z * z) := by
      rw [Nat.pow_add, Nat.pow_succ]
      generalize 10 ^ k = x
      generalize 10 ^ jj = y
      ac_rfl
/-- Digits A, B, P with P * T near to A * B (T: 1000 or 10000): the logarithms. -/
theorem prod_logs (A B P T J jj : Nat) (hA : 1000 ≤ A ∧ A ≤ 9999) (hB : 1000 ≤ B ∧ B ≤ 9999) (hP : 1000 ≤ P ∧ P ≤ 9999) (hT : T * 100000 = 100000000 * J) (hJ : J ^ NN = 10 ^ jj)
    (h1 : P * T * 1999 ≤ A * B * 2000) (h2 : A * B * 2000 ≤ P * T * 2001) :
    lgb false ((P : Int) * 100000) + jj < lgb true ((A : Int) * 100000) + lgb true ((B : Int) * 100000) + 230 ∧
    lgb false ((A : Int) * 100000) + lgb false ((B : Int) * 100000) < lgb true ((P : Int) * 100000) + jj + 229 := by
  have cast : ∀ d : Nat, (d : Int) * 100000 = ((d * 100000 : Nat) : Int) := fun d => by simp
  rw [cast, cast, cast]
  have dA := dig_bd A hA.1 hA.2
  have dB := dig_bd B hB.1 hB.2
  have dP := dig_bd P hP.1 hP.2
  obtain ⟨mA, eA, lA, -⟩ := lgb_low (A * 100000) dA.1 dA.2
  obtain ⟨mB, eB, lB, -⟩ := lgb_low (B * 100000) dB.1 dB.2
  obtain ⟨mP, eP, lP, -⟩ := lgb_low (P * 100000) dP.1 dP.2
  obtain ⟨nA, fA, uA, -⟩ := lgb_up (A * 100000) dA.1 dA.2
  obtain ⟨nB, fB, uB, -⟩ := lgb_up (B * 100000) dB.1 dB.2
  obtain ⟨nP, fP, uP, -⟩ := lgb_up (P * 100000) dP.1 dP.2
  rw [eA, eB, eP, fA, fB, fP]
  rw [Nat.mul_pow] at lA lB lP uA uB uP
  have hz : 0 < 100000000 ^ NN := Nat.pow_pos (by omega)
  have ht : T ^ NN * 100000 ^ NN = 100000000 ^ NN * 10 ^ jj := by rw [← Nat.mul_pow, hT, Nat.mul_pow, hJ]
  have c1 : P ^ NN * T ^ NN * 1999 ^ NN ≤ A ^ NN * B ^ NN * 2000 ^ NN := by
    rw [← Nat.mul_pow, ← Nat.mul_pow, ← Nat.mul_pow, ← Nat.mul_pow]; exact Nat.pow_le_pow_left h1 _
  have c2 : A ^ NN * B ^ NN * 2000 ^ NN ≤ P ^ NN * T ^ NN * 2001 ^ NN := by
    rw [← Nat.mul_pow, ← Nat.mul_pow, ← Nat.mul_pow, ← Nat.mul_pow]; exact Nat.pow_le_pow_left h2 _
  have g1 := prod_hi (u := 1) hz (by omega) lP uA uB ht c1 num_1 (Nat.pow_pos (by omega))
  have g2 := prod_lo hz lA lB uP ht c2 num_2 (Nat.pow_pos (by omega))
  omega

/-- The logarithm of a rounded product meets the sum of the logarithms up to 229 units. -/
theorem flg_prod (a s b t : Int) (h : (muR a s b t).2 = 0) :
    (flg (muR a s b t).1.1 (muR a s b t).1.2).1 - ((flg a s).2 + (flg b t).2) ≤ 229 ∧ ((flg a s).1 + (flg b t).1) - (flg (muR a s b t).1.1 (muR a s b t).1.2).2 ≤ 229 := by
  rcases muR_facts a s b t with ⟨c, -⟩ | ⟨-, ha, hb, hr, hf⟩
  · exact absurd h c
  obtain ⟨⟨a1, a2⟩, -⟩ := (fg_iff a s).1 ha
  obtain ⟨⟨b1, b2⟩, -⟩ := (fg_iff b t).1 hb
  obtain ⟨⟨p1, p2⟩, -⟩ := (fg_iff _ _).1 hf
  obtain ⟨e1, e2⟩ := prod_bd a b a1 a2 b1 b2
  have hn := mul_near (a * b) (s + t - 3) e1 e2
  rw [← hr] at hn
  obtain ⟨A, rfl⟩ := Int.eq_ofNat_of_zero_le (show 0 ≤ a by omega)
  obtain ⟨B, rfl⟩ := Int.eq_ofNat_of_zero_le (show 0 ≤ b by omega)
  generalize (muR (A : Int) s (B : Int) t).1.1 = p at *
  generalize (muR (A : Int) s (B : Int) t).1.2 = q at *
  obtain ⟨P, rfl⟩ := Int.eq_ofNat_of_zero_le (show 0 ≤ p by omega)
  have hab : ((A : Int) * B) = ((A * B : Nat) : Int) := by simp
  rw [hab] at hn e1 e2
  rw [flg_1, flg_2, flg_1, flg_2, flg_1, flg_2]
  generalize hE : A * B = E at *
  rcases hn with ⟨-, hq, x1, x2⟩ | ⟨-, hq, x1, x2⟩
  · have g := prod_logs A B P 10000 10 NN (by omega) (by omega) (by omega) (by decide) rfl (by rw [hE]; omega) (by rw [hE]; omega)
    rw [NN_eq] at g
    have hq' : q = s + t + 1 := by omega
    rw [hq']
    omega
  · have g := prod_logs A B P 1000 1 0 (by omega) (by omega) (by omega) (by decide) (by rw [Nat.one_pow]) (by rw [hE]; omega) (by rw [hE]; omega)
    have hq' : q = s + t := by omega
    rw [hq']
    omega
/-- The width of a figure's logarithm, and the next figure's. -/
theorem flg_width (d t : Int) (h : fg d t = true) : 1 ≤ (flg d t).2 - (flg d t).1 ∧ (flg d t).2 - (flg d t).1 ≤ 2 := by
  obtain ⟨⟨d1, d2⟩, -⟩ := (fg_iff d t).1 h
  obtain ⟨D, rfl⟩ := Int.eq_ofNat_of_zero_le (show 0 ≤ d by omega)
  have b := dig_bd D (by omega) (by omega)
  have w := lgb_width (D * 100000) b.1 b.2
  rw [show ((D * 100000 : Nat) : Int) = (D : Int) * 100000 by simp] at w
  rw [flg_1, flg_2]
  omega
theorem flg_next (d t : Int) (h : fg d t = true) (h2 : d ≤ 9998) : (flg d t).2 < (flg (d + 1) t).1 := by
  obtain ⟨⟨d1, -⟩, -⟩ := (fg_iff d t).1 h
  obtain ⟨D, rfl⟩ := Int.eq_ofNat_of_zero_le (show 0 ≤ d by omega)
  have w := lgb_next D (by omega) (by omega)
  rw [show ((D * 100000 : Nat) : Int) = (D : Int) * 100000 by simp, show (((D + 1) * 100000 : Nat) : Int) = ((D : Int) + 1) * 100000 by simp] at w
  rw [flg_1, flg_2]
  omega
theorem loR_facts (x : Int) : ((loR x).2 = 2) ∨ ((loR x).2 = 0 ∧ 0 ≤ (loR x).1.1 ∧ (loR x).1.1 ≤ 1048576 ∧ (loR x).1.2 ≤ 1048576 ∧ 0 ≤ (loR x).1.2 ∧ (loR x).1.2 - (loR x).1.1 ≤ 3) := by
  by_cases h : 100000000 ≤ x ∧ x ≤ 999999999
  · right
    rw [loR_ok x h]
    obtain ⟨X, rfl⟩ := Int.eq_ofNat_of_zero_le (show 0 ≤ x by omega)
    have w := lgb_width X (by omega) (by omega)
    have l := lgb_bd false (X : Int) (by omega) (by omega)
    have u := lgb_bd true (X : Int) (by omega) (by omega)
    refine ⟨rfl, ?_⟩
    simp only
    omega
  · left; rw [loR_no x h]
end Go.Proofs.YtphebmbapllinaaDoor
