/- Plain mathematics of chapter 2: figures, fractions rounded to a figure. No program is imported here. -/
import Derived.Test.YtgadkpkpdpphbaaDoorM02
namespace Go.Proofs.YtgadkpkpdpphbaaDoor
set_option linter.unusedSimpArgs false
set_option linter.unusedVariables false

/-- A valid figure. -/
def fg (d t : Int) : Bool := decide ((1000 ≤ d ∧ d ≤ 9999) ∧ (-30 ≤ t ∧ t ≤ 30))
theorem fg_iff (d t : Int) : fg d t = true ↔ ((1000 ≤ d ∧ d ≤ 9999) ∧ (-30 ≤ t ∧ t ≤ 30)) := by unfold fg; simp
theorem fg_not (d t : Int) : fg d t = false ↔ ¬ ((1000 ≤ d ∧ d ≤ 9999) ∧ (-30 ≤ t ∧ t ≤ 30)) := by unfold fg; simp

/-- The rounded digits, where 10000 becomes 1000 with one more ten. -/
def nrm (x t : Int) : Int × Int := if 9999 < x then (1000, t + 1) else (x, t)
theorem nrm_hi (x t : Int) (h : 9999 < x) : nrm x t = (1000, t + 1) := if_pos h
theorem nrm_lo (x t : Int) (h : x ≤ 9999) : nrm x t = (x, t) := if_neg (by omega)

/-- A fraction rounded to a figure. -/
def rdd (n d t : Int) : Int × Int :=
  if d ≤ 0 ∨ n ≤ 0 then (0, 0)
  else if 10000 * d ≤ n then rdd n (10 * d) (t + 1)
  else if n < 1000 * d then rdd (10 * n) d (t - 1)
  else nrm (nd n d) t
termination_by ((if 10000 * d ≤ n then 1 else 0 : Nat), (if 10000 * d ≤ n then n - d else 1000 * d - n).toNat)
decreasing_by
  · rename_i h1 h2
    by_cases h : 10000 * (10 * d) ≤ n
    · rw [if_pos h, if_pos h2, if_pos h, if_pos h2]
      exact Prod.Lex.right _ (by omega)
    · rw [if_neg h, if_pos h2]
      exact Prod.Lex.left _ _ (by omega)
  · rename_i h1 h2 h3
    rw [if_neg h2, if_neg (show ¬ 10000 * d ≤ 10 * n by omega), if_neg h2, if_neg (show ¬ 10000 * d ≤ 10 * n by omega)]
    exact Prod.Lex.right _ (by omega)
theorem rdd_up (n d t : Int) (hd : 0 < d) (hn : 0 < n) (h : 10000 * d ≤ n) : rdd n (10 * d) (t + 1) = rdd n d t := by
  rw [rdd.eq_1 n d t, if_neg (by omega), if_pos h]
theorem rdd_down (n d t : Int) (hd : 0 < d) (hn : 0 < n) (h : n < 1000 * d) : rdd (10 * n) d (t - 1) = rdd n d t := by
  rw [rdd.eq_1 n d t, if_neg (by omega), if_neg (by omega), if_pos h]
theorem rdd_base (n d t : Int) (hd : 0 < d) (h1 : n < 10000 * d) (h2 : 1000 * d ≤ n) : rdd n d t = nrm (nd n d) t := by
  rw [rdd.eq_1 n d t, if_neg (by omega), if_neg (by omega), if_neg (by omega)]

theorem nd_bd (n d : Int) (hd : 0 < d) (h1 : n < 10000 * d) (h2 : 1000 * d ≤ n) : 1000 ≤ nd n d ∧ nd n d ≤ 10000 := by
  have h := frac_pos n d hd
  have e1 := h.ne
  have e2 := h.ne'
  generalize nd n d = z at *
  constructor
  · have : 999 < z := lt_of_mul hd (by omega)
    omega
  · have : z < 10001 := lt_of_mul hd (by omega)
    omega

/-- A result, or ErrLimit if its tens are out of range. -/
def rsl (f : Int × Int) : (Int × Int) × Int := if fg f.1 f.2 = true then (f, 0) else ((0, 0), 3)
theorem rsl_ok (f : Int × Int) (h : fg f.1 f.2 = true) : rsl f = (f, 0) := if_pos h
theorem rsl_no (f : Int × Int) (h : fg f.1 f.2 = false) : rsl f = ((0, 0), 3) := if_neg (by rw [h]; simp)

/-- Comparing. -/
def cmpI (x y : Int) : Int := if x < y then -1 else if y < x then 1 else 0
theorem cmpI_lt (x y : Int) (h : x < y) : cmpI x y = -1 := if_pos h
theorem cmpI_gt (x y : Int) (h : y < x) : cmpI x y = 1 := by unfold cmpI; rw [if_neg (by omega), if_pos h]
theorem cmpI_eq (x y : Int) (h : x = y) : cmpI x y = 0 := by unfold cmpI; rw [if_neg (by omega), if_neg (by omega)]
def cmR (a s b t : Int) : Int × Int := if (fg a s && fg b t) = true then (cmpI (10000 * s + a) (10000 * t + b), 0) else (0, 1)
theorem cmR_ok (a s b t : Int) (h1 : fg a s = true) (h2 : fg b t = true) : cmR a s b t = (cmpI (10000 * s + a) (10000 * t + b), 0) := if_pos (by rw [h1, h2]; rfl)
theorem cmR_no (a s b t : Int) (h : (fg a s && fg b t) = false) : cmR a s b t = (0, 1) := if_neg (by rw [h]; simp)

/-- What the functions that return a figure return. -/
def mkR (n d : Int) : (Int × Int) × Int := if (1 ≤ n ∧ n ≤ 1000000000) ∧ (1 ≤ d ∧ d ≤ 1000000000) then (rdd n d 3, 0) else ((0, 0), 2)
theorem mkR_ok (n d : Int) (h1 : 1 ≤ n ∧ n ≤ 1000000000) (h2 : 1 ≤ d ∧ d ≤ 1000000000) : mkR n d = (rdd n d 3, 0) := if_pos ⟨h1, h2⟩
theorem mkR_no (n d : Int) (h : ¬ ((1 ≤ n ∧ n ≤ 1000000000) ∧ (1 ≤ d ∧ d ≤ 1000000000))) : mkR n d = ((0, 0), 2) := if_neg h
def muR (a s b t : Int) : (Int × Int) × Int := if (fg a s && fg b t) = true then rsl (rdd (a * b) 1 (s + t - 6 + 3)) else ((0, 0), 1)
theorem muR_ok (a s b t : Int) (h1 : fg a s = true) (h2 : fg b t = true) : muR a s b t = rsl (rdd (a * b) 1 (s + t - 6 + 3)) := if_pos (by rw [h1, h2]; rfl)
theorem muR_no (a s b t : Int) (h : (fg a s && fg b t) = false) : muR a s b t = ((0, 0), 1) := if_neg (by rw [h]; simp)
def diR (a s b t : Int) : (Int × Int) × Int := if (fg a s && fg b t) = true then rsl (rdd a b (s - t + 3)) else ((0, 0), 1)
theorem diR_ok (a s b t : Int) (h1 : fg a s = true) (h2 : fg b t = true) : diR a s b t = rsl (rdd a b (s - t + 3)) := if_pos (by rw [h1, h2]; rfl)
theorem diR_no (a s b t : Int) (h : (fg a s && fg b t) = false) : diR a s b t = ((0, 0), 1) := if_neg (by rw [h]; simp)

/-- Tens may be added before or after rounding. -/
theorem rdd_shift (n d t u : Int) : rdd n d (t + u) = ((rdd n d t).1, (rdd n d t).2 + (if d ≤ 0 ∨ n ≤ 0 then 0 else u)) := by
  fun_induction rdd n d t with
  | case1 n d t h => rw [rdd.eq_1, if_pos h, if_pos h]; rfl
  | case2 n d t h h2 ih =>
    rw [rdd.eq_1, if_neg h, if_pos h2, show t + u + 1 = t + 1 + u by omega, ih, if_neg h, if_neg (by omega)]
  | case3 n d t h h2 h3 ih =>
    rw [rdd.eq_1, if_neg h, if_neg h2, if_pos h3, show t + u - 1 = t - 1 + u by omega, ih, if_neg h, if_neg (by omega)]
  | case4 n d t h h2 h3 =>
    rw [rdd.eq_1, if_neg h, if_neg h2, if_neg h3, if_neg h]
    unfold nrm
    split
    · simp; omega
    · simp
theorem rdd_plus (n d t u : Int) (hn : 0 < n) (hd : 0 < d) : (rdd n d (t + u)).1 = (rdd n d t).1 ∧ (rdd n d (t + u)).2 = (rdd n d t).2 + u := by
  rw [rdd_shift, if_neg (by omega)]; exact ⟨rfl, rfl⟩
/-- The digits are right, the tens not far. -/
theorem rdd_bd (n d t : Int) (hn : 0 < n) (hd : 0 < d) : (1000 ≤ (rdd n d t).1 ∧ (rdd n d t).1 ≤ 9999) := by
  fun_induction rdd n d t with
  | case1 n d t h => omega
  | case2 n d t h h2 ih => exact ih hn (by omega)
  | case3 n d t h h2 h3 ih => exact ih (by omega) hd
  | case4 n d t h h2 h3 =>
    have := nd_bd n d hd (by omega) (by omega)
    unfold nrm
    split
    · simp
    · simp; omega

/-- Figures rounded to fewer digits. -/
def ctR (a s u : Int) : Int × Int := if u * nd a u = 10000 then (1000, s + 1) else (u * nd a u, s)
theorem ctR_hi (a s u : Int) (h : u * nd a u = 10000) : ctR a s u = (1000, s + 1) := if_pos h
theorem ctR_lo (a s u : Int) (h : u * nd a u ≠ 10000) : ctR a s u = (u * nd a u, s) := if_neg h
def roR (a s g : Int) : (Int × Int) × Int := if fg a s = false then ((0, 0), 1) else if 1 ≤ g ∧ g ≤ 4 then rsl (ctR a s (p10 (4 - g).toNat)) else ((0, 0), 2)
theorem roR_no (a s g : Int) (h : fg a s = false) : roR a s g = ((0, 0), 1) := if_pos h
theorem roR_far (a s g : Int) (h : fg a s = true) (h2 : g < 1 ∨ 4 < g) : roR a s g = ((0, 0), 2) := by unfold roR; rw [if_neg (by rw [h]; simp), if_neg (by omega)]
theorem roR_ok (a s g : Int) (h : fg a s = true) (h1 : 1 ≤ g) (h2 : g ≤ 4) : roR a s g = rsl (ctR a s (p10 (4 - g).toNat)) := by unfold roR; rw [if_neg (by rw [h]; simp), if_pos ⟨h1, h2⟩]
theorem nd_one (n : Int) : nd n 1 = n := by
  unfold nd; rw [Int.fdiv_eq_ediv_of_nonneg _ (by omega)]; omega
theorem nd_lit (n : Int) (h : 1000 ≤ n) (h' : n ≤ 9999) (k : Nat) (hk : k ≤ 3) : 1000 ≤ p10 k * nd n (p10 k) ∧ p10 k * nd n (p10 k) ≤ 10000 ∧ 1 ≤ nd n (p10 k) ∧ nd n (p10 k) ≤ 10000 ∧ (p10 k = 1 ∨ p10 k = 10 ∨ p10 k = 100 ∨ p10 k = 1000) := by
  have h0 : k = 0 ∨ k = 1 ∨ k = 2 ∨ k = 3 := by omega
  rcases h0 with rfl | rfl | rfl | rfl <;> simp [p10] <;> unfold nd <;> rw [Int.fdiv_eq_ediv_of_nonneg _ (by omega)] <;> omega
theorem ct_rdd (a s : Int) (k : Nat) (h : 1000 ≤ a) (h' : a ≤ 9999) (hk : k ≤ 3) : ((rdd (nd a (p10 k) * p10 k) 1 3).1, (rdd (nd a (p10 k) * p10 k) 1 3).2 + (s - 3)) = ctR a s (p10 k) := by
  obtain ⟨h1, h2, -⟩ := nd_lit a h h' k hk
  rw [Int.mul_comm (nd a (p10 k))]
  by_cases he : p10 k * nd a (p10 k) = 10000
  · rw [ctR_hi _ _ _ he, he]
    have e : rdd 10000 1 3 = (1000, 4) := by
      rw [← rdd_up 10000 1 3 (by omega) (by omega) (by omega), rdd_base _ _ _ (by omega) (by omega) (by omega), show nd 10000 (10 * 1) = 1000 by decide]; rfl
    rw [e]; simp; omega
  · rw [ctR_lo _ _ _ he]
    generalize p10 k * nd a (p10 k) = m at *
    rw [rdd_base m 1 3 (by omega) (by omega) (by omega), nd_one, nrm_lo _ _ (by omega)]; simp; omega

/-- The relative error. -/
def reE (n d : Int) : Int := cd ((n - d).natAbs * 1000000) d
def reV (a s b t : Int) : Int :=
  if 1 < s - t then 9000001 else if s - t < -6 then 1000000
  else if 0 < s - t then reE (a * p10 (s - t).toNat) b else reE a (b * p10 (t - s).toNat)
def reR (a s b t : Int) : Int × Int := if (fg a s && fg b t) = false then (0, 1) else if 9000000 < reV a s b t then (0, 3) else (reV a s b t, 0)
theorem reR_no (a s b t : Int) (h : (fg a s && fg b t) = false) : reR a s b t = (0, 1) := if_pos h
theorem reR_hi (a s b t : Int) (h1 : fg a s = true) (h2 : fg b t = true) (h : 9000000 < reV a s b t) : reR a s b t = (0, 3) := by unfold reR; rw [if_neg (by rw [h1, h2]; simp), if_pos h]
theorem reR_lo (a s b t : Int) (h1 : fg a s = true) (h2 : fg b t = true) (h : reV a s b t ≤ 9000000) : reR a s b t = (reV a s b t, 0) := by unfold reR; rw [if_neg (by rw [h1, h2]; simp), if_neg (by omega)]
theorem cd_frac (a b : Int) (hb : 0 < b) : a ≤ cd a b * b ∧ cd a b * b < a + b := ⟨(frac_pos a b hb).hi, (frac_pos a b hb).hi'⟩
theorem reE_big (n d : Int) (hd : 0 < d) (h : 10 * d < n) : 9000000 < reE n d := by
  unfold reE
  obtain ⟨h1, h2⟩ := cd_frac ((n - d).natAbs * 1000000) d hd
  generalize cd ((n - d).natAbs * 1000000) d = y at *
  exact lt_of_mul hd (by omega)
theorem reE_small (n d : Int) (hd : 0 < d) (hn : 0 ≤ n) (h : 1000000 * n < d) : reE n d = 1000000 := by
  unfold reE
  obtain ⟨h1, h2⟩ := cd_frac ((n - d).natAbs * 1000000) d hd
  generalize cd ((n - d).natAbs * 1000000) d = y at *
  have a1 : 999999 < y := lt_of_mul hd (by omega)
  have a2 : y < 1000001 := lt_of_mul hd (by omega)
  omega

theorem p10_pos (i : Nat) : 1 ≤ p10 i := by
  induction i with
  | zero => simp [p10]
  | succ i ih => rw [p10_succ]; omega
theorem p10_far : ∀ (i k : Nat), p10 k ≤ p10 (k + i)
  | 0, k => by simp
  | i + 1, k => by
    have := p10_far i k
    have := p10_pos (k + i)
    rw [show k + (i + 1) = (k + i) + 1 by omega, p10_succ]; omega
theorem p10_le (i : Nat) (h : p10 i ≤ 10000000000000) : i ≤ 13 := by
  rcases Nat.lt_or_ge 13 i with h1 | h1
  · have := p10_far (i - 14) 14
    rw [show 14 + (i - 14) = i by omega] at this
    have e : p10 14 = 100000000000000 := by decide
    omega
  · exact h1
theorem nrm_bd (x t : Int) : t ≤ (nrm x t).2 ∧ (nrm x t).2 ≤ t + 1 := by
  unfold nrm; split <;> simp <;> omega
theorem rdd_hi (n : Int) : ∀ (k : Nat) (d t : Int), 0 < d → 1000 * d ≤ n → n < 10000 * (d * p10 k) → t ≤ (rdd n d t).2 ∧ (rdd n d t).2 ≤ t + k + 1
  | 0, d, t, hd, h1, h2 => by
    simp [p10] at h2
    rw [rdd_base n d t hd h2 h1]
    have := nrm_bd (nd n d) t
    omega
  | k + 1, d, t, hd, h1, h2 => by
    by_cases h : 10000 * d ≤ n
    · rw [← rdd_up n d t hd (by omega) h]
      have := rdd_hi n k (10 * d) (t + 1) (by omega) (by omega) (by rw [p10_succ] at h2; rw [show 10 * d * p10 k = d * (10 * p10 k) by rw [Int.mul_comm 10 d, Int.mul_assoc]]; exact h2)
      omega
    · rw [rdd_base n d t hd (by omega) h1]
      have := nrm_bd (nd n d) t
      omega
theorem rdd_lo (d : Int) (hd : 0 < d) : ∀ (k : Nat) (n t : Int), 0 < n → n < 10000 * d → 1000 * d ≤ n * p10 k → t - k ≤ (rdd n d t).2 ∧ (rdd n d t).2 ≤ t + 1
  | 0, n, t, hn, h1, h2 => by
    simp [p10] at h2
    rw [rdd_base n d t hd h1 h2]
    have := nrm_bd (nd n d) t
    omega
  | k + 1, n, t, hn, h1, h2 => by
    by_cases h : n < 1000 * d
    · rw [← rdd_down n d t hd hn h]
      have := rdd_lo d hd k (10 * n) (t - 1) (by omega) (by omega) (by rw [p10_succ] at h2; rw [show 10 * n * p10 k = n * (10 * p10 k) by rw [Int.mul_comm 10 n, Int.mul_assoc]]; exact h2)
      omega
    · rw [rdd_base n d t hd h1 (by omega)]
      have := nrm_bd (nd n d) t
      omega
/-- The tens of a rounded fraction of usual terms. -/
theorem rdd_tens (n d t : Int) (h1 : 1 ≤ n ∧ n ≤ 1000000000) (h2 : 1 ≤ d ∧ d ≤ 1000000000) : t - 12 ≤ (rdd n d t).2 ∧ (rdd n d t).2 ≤ t + 13 := by
  have e : p10 12 = 1000000000000 := by decide
  by_cases h : 1000 * d ≤ n
  · have := rdd_hi n 12 d t (by omega) h (by rw [e]; omega)
    omega
  · have := rdd_lo d (by omega) 12 n t (by omega) (by omega) (by rw [e]; omega)
    omega
theorem rdd_end (n d t : Int) (hd : 0 < d) (h1 : n < 10000 * d) (h2 : 1000 * d ≤ n) : (nd n d ≤ 9999 → rdd n d t = (nd n d, t)) ∧ (9999 < nd n d → rdd n d t = (1000, t + 1)) :=
  ⟨fun h => by rw [rdd_base n d t hd h1 h2, nrm_lo _ _ h], fun h => by rw [rdd_base n d t hd h1 h2, nrm_hi _ _ h]⟩
/-- The program cuts differences of tens at 8. -/
def clamp8 (x : Int) : Int := if (if 8 < x then 8 else x) < -8 then -8 else (if 8 < x then 8 else x)
theorem reE_sat (a s b t : Int) (ha : 1000 ≤ a) (ha' : a ≤ 9999) (hb : 1000 ≤ b) (hb' : b ≤ 9999) (c : Int) (hc : (c = s - t ∧ -8 ≤ c ∧ c ≤ 8) ∨ (c = 8 ∧ 8 < s - t) ∨ (c = -8 ∧ s - t < -8)) (e : Int)
    (he : (0 ≤ c → e = reE (a * p10 c.toNat) b) ∧ (c < 0 → e = reE a (b * p10 (-c).toNat))) : (9000000 < reV a s b t ↔ 9000000 < e) ∧ (reV a s b t ≤ 9000000 → reV a s b t = e) := by
  obtain ⟨he1, he2⟩ := he
  by_cases h1 : 1 < s - t
  · have hv : reV a s b t = 9000001 := by unfold reV; rw [if_pos h1]
    have h2 : 9000000 < e := by
      rw [he1 (by omega)]
      apply reE_big _ _ (by omega)
      have := p10_far (c.toNat - 2) 2
      rw [show 2 + (c.toNat - 2) = c.toNat by omega, show p10 2 = 100 by decide] at this
      have := Int.mul_le_mul_of_nonneg_left this (show 0 ≤ a by omega)
      omega
    rw [hv]; omega
  by_cases h2 : s - t < -6
  · have hv : reV a s b t = 1000000 := by unfold reV; rw [if_neg h1, if_pos h2]
    have h3 : e = 1000000 := by
      rw [he2 (by omega)]
      apply reE_small _ _ ?_ (by omega)
      · have := p10_far ((-c).toNat - 7) 7
        rw [show 7 + ((-c).toNat - 7) = (-c).toNat by omega, show p10 7 = 10000000 by decide] at this
        have := Int.mul_le_mul_of_nonneg_left this (show 0 ≤ b by omega)
        omega
      · exact Int.mul_pos (by omega) (by have := p10_pos (-c).toNat; omega)
    rw [hv]; omega
  · have hcs : c = s - t := by omega
    have hv : reV a s b t = e := by
      unfold reV
      rw [if_neg h1, if_neg h2]
      by_cases h3 : 0 < s - t
      · rw [if_pos h3, he1 (by omega), hcs]
      · rw [if_neg h3]
        by_cases h4 : c = 0
        · rw [he1 (by omega), h4, show t - s = 0 by omega]; simp [p10]
        · rw [he2 (by omega), hcs, show -(s - t) = t - s by omega]
    rw [hv]; exact ⟨Iff.rfl, fun _ => rfl⟩
end Go.Proofs.YtgadkpkpdpphbaaDoor
