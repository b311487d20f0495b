/- Plain mathematics of chapter 3: intervals, logarithms by squaring. No program is imported here. -/
import Derived.Test.YtgadkpkpdpphbaaDoorM03
namespace Go.Proofs.YtgadkpkpdpphbaaDoor
set_option linter.unusedSimpArgs false
set_option linter.unusedVariables false

/-- A valid interval. -/
def iv (l h : Int) : Bool := vl l && vl h && decide (l ≤ h)
theorem iv_iff (l h : Int) : iv l h = true ↔ ((-1000000000000 ≤ l ∧ l ≤ 1000000000000) ∧ (-1000000000000 ≤ h ∧ h ≤ 1000000000000) ∧ l ≤ h) := by
  unfold iv
  rw [Bool.and_eq_true, Bool.and_eq_true, vl_iff, vl_iff, decide_eq_true_eq, and_assoc]
theorem iv_cases (l h : Int) : (vl l = true ∧ vl h = true ∧ l ≤ h ∧ iv l h = true) ∨ (vl l = true ∧ vl h = true ∧ h < l ∧ iv l h = false) ∨ (vl l = true ∧ vl h = false ∧ iv l h = false) ∨ (vl l = false ∧ iv l h = false) := by
  unfold iv
  cases h1 : vl l <;> cases h2 : vl h <;> by_cases h3 : l ≤ h <;> simp [h3] <;> omega
/-- A result, or ErrLimit. -/
def rsi (l h : Int) : (Int × Int) × Int := if iv l h = true then ((l, h), 0) else ((0, 0), 3)
theorem rsi_ok (l h : Int) (e : iv l h = true) : rsi l h = ((l, h), 0) := if_pos e
theorem rsi_no (l h : Int) (e : iv l h = false) : rsi l h = ((0, 0), 3) := if_neg (by rw [e]; simp)

/-- One step of squaring, rounded down or up, and its bit. -/
def sqD (x : Int) : Int := (x * x).fdiv 100000000
def sqU (x : Int) : Int := cd (x * x) 100000000
def nxD (x : Int) : Int × Int := if sqD x < 1000000000 then (sqD x, 0) else ((sqD x).fdiv 10, 1)
def nxU (x : Int) : Int × Int := if sqU x < 1000000000 then (sqU x, 0) else (cd (sqU x) 10, 1)
theorem nxD_lo (x : Int) (h : sqD x < 1000000000) : nxD x = (sqD x, 0) := if_pos h
theorem nxD_hi (x : Int) (h : 1000000000 ≤ sqD x) : nxD x = ((sqD x).fdiv 10, 1) := if_neg (by omega)
theorem nxU_lo (x : Int) (h : sqU x < 1000000000) : nxU x = (sqU x, 0) := if_pos h
theorem nxU_hi (x : Int) (h : 1000000000 ≤ sqU x) : nxU x = (cd (sqU x) 10, 1) := if_neg (by omega)
theorem sq_bd (x : Int) (h1 : 100000000 ≤ x) (h2 : x ≤ 999999999) : 10000000000000000 ≤ x * x ∧ x * x ≤ 999999998000000001 := by
  have a := Int.mul_le_mul h1 h1 (by omega) (by omega)
  have b := Int.mul_le_mul h2 h2 (by omega) (by omega)
  omega
theorem cd_lit (a b : Int) (hb : 0 ≤ b) : cd a b = -((-a) / b) := by unfold cd; rw [Int.fdiv_eq_ediv_of_nonneg _ hb]
theorem sqD_bd (x : Int) (h1 : 100000000 ≤ x) (h2 : x ≤ 999999999) : 100000000 ≤ sqD x ∧ sqD x ≤ 9999999980 := by
  have h := sq_bd x h1 h2
  unfold sqD
  rw [Int.fdiv_eq_ediv_of_nonneg _ (by omega)]
  omega
theorem sqU_bd (x : Int) (h1 : 100000000 ≤ x) (h2 : x ≤ 999999999) : 100000000 ≤ sqU x ∧ sqU x ≤ 9999999981 := by
  have h := sq_bd x h1 h2
  unfold sqU
  rw [cd_lit _ _ (by omega)]
  omega
theorem nxD_bd (x : Int) (h1 : 100000000 ≤ x) (h2 : x ≤ 999999999) : 100000000 ≤ (nxD x).1 ∧ (nxD x).1 ≤ 999999999 ∧ 0 ≤ (nxD x).2 ∧ (nxD x).2 ≤ 1 := by
  have h := sqD_bd x h1 h2
  by_cases c : sqD x < 1000000000
  · rw [nxD_lo x c]; simp only; omega
  · rw [nxD_hi x (by omega)]; simp only
    rw [Int.fdiv_eq_ediv_of_nonneg _ (by omega)]; omega
theorem nxU_bd (x : Int) (h1 : 100000000 ≤ x) (h2 : x ≤ 999999999) : 100000000 ≤ (nxU x).1 ∧ (nxU x).1 ≤ 999999999 ∧ 0 ≤ (nxU x).2 ∧ (nxU x).2 ≤ 1 := by
  have h := sqU_bd x h1 h2
  by_cases c : sqU x < 1000000000
  · rw [nxU_lo x c]; simp only; omega
  · rw [nxU_hi x (by omega)]; simp only
    rw [cd_lit _ _ (by omega)]; omega
/-- The direction of rounding: false down, true up. -/
def nx (u : Bool) (x : Int) : Int × Int := if u then nxU x else nxD x
theorem nx_t (x : Int) : nx true x = nxU x := rfl
theorem nx_f (x : Int) : nx false x = nxD x := rfl
theorem nx_bd (u : Bool) (x : Int) (h1 : 100000000 ≤ x) (h2 : x ≤ 999999999) : 100000000 ≤ (nx u x).1 ∧ (nx u x).1 ≤ 999999999 ∧ 0 ≤ (nx u x).2 ∧ (nx u x).2 ≤ 1 := by
  cases u
  · exact nxD_bd x h1 h2
  · exact nxU_bd x h1 h2
/-- The rest and the bits behind k steps. -/
def lgs (u : Bool) (x : Int) : Nat → Int × Int
  | 0 => (x, 0)
  | k + 1 => ((nx u (lgs u x k).1).1, 2 * (lgs u x k).2 + (nx u (lgs u x k).1).2)
theorem lgs_zero (u : Bool) (x : Int) : lgs u x 0 = (x, 0) := rfl
theorem lgs_succ (u : Bool) (x : Int) (k : Nat) : lgs u x (k + 1) = ((nx u (lgs u x k).1).1, 2 * (lgs u x k).2 + (nx u (lgs u x k).1).2) := rfl
theorem lgs_bd' (u : Bool) (x : Int) (h1 : 100000000 ≤ x) (h2 : x ≤ 999999999) (k : Nat) : 100000000 ≤ (lgs u x k).1 ∧ (lgs u x k).1 ≤ 999999999 ∧ 0 ≤ (lgs u x k).2 ∧ (lgs u x k).2 + 1 ≤ (2 ^ k : Nat) := by
  induction k with
  | zero => rw [lgs_zero]; simp; omega
  | succ k ih =>
    obtain ⟨a, b, c, d⟩ := ih
    have n := nx_bd u _ a b
    rw [lgs_succ, Nat.pow_succ]
    simp only
    omega
theorem lgs_bd (u : Bool) (x : Int) (h1 : 100000000 ≤ x) (h2 : x ≤ 999999999) (k : Nat) (hk : k ≤ 20) : 100000000 ≤ (lgs u x k).1 ∧ (lgs u x k).1 ≤ 999999999 ∧ 0 ≤ (lgs u x k).2 ∧ (lgs u x k).2 ≤ 1048575 := by
  obtain ⟨a, b, c, d⟩ := lgs_bd' u x h1 h2 k
  have : 2 ^ k ≤ 2 ^ 20 := Nat.pow_le_pow_right (by omega) hk
  rw [show 2 ^ 20 = 1048576 by decide] at this
  omega
/-- The bits of the logarithm. -/
def lgb (u : Bool) (x : Int) : Int := (lgs u x 20).2
theorem lgb_bd (u : Bool) (x : Int) (h1 : 100000000 ≤ x) (h2 : x ≤ 999999999) : 0 ≤ lgb u x ∧ lgb u x ≤ 1048575 := (lgs_bd u x h1 h2 20 (by omega)).2.2
/-- The results of the public functions of chapter 3. -/
def loR (x : Int) : (Int × Int) × Int := if 100000000 ≤ x ∧ x ≤ 999999999 then ((lgb false x, lgb true x + 1), 0) else ((0, 0), 2)
theorem loR_ok (x : Int) (h : 100000000 ≤ x ∧ x ≤ 999999999) : loR x = ((lgb false x, lgb true x + 1), 0) := if_pos h
theorem loR_no (x : Int) (h : ¬ (100000000 ≤ x ∧ x ≤ 999999999)) : loR x = ((0, 0), 2) := if_neg h
def flg (d t : Int) : Int × Int := (lgb false (d * 100000) + t * 1048576, lgb true (d * 100000) + 1 + t * 1048576)
theorem flg_1 (d t : Int) : (flg d t).1 = lgb false (d * 100000) + t * 1048576 := rfl
theorem flg_2 (d t : Int) : (flg d t).2 = lgb true (d * 100000) + 1 + t * 1048576 := rfl
theorem flg_bd (d t : Int) (h : fg d t = true) : -31457280 ≤ (flg d t).1 ∧ (flg d t).1 ≤ 32505855 ∧ -31457279 ≤ (flg d t).2 ∧ (flg d t).2 ≤ 32505856 := by
  obtain ⟨⟨d1, d2⟩, t1, t2⟩ := (fg_iff d t).1 h
  have a := lgb_bd false (d * 100000) (by omega) (by omega)
  have b := lgb_bd true (d * 100000) (by omega) (by omega)
  rw [flg_1, flg_2]
  omega
def flR (d t : Int) : (Int × Int) × Int := if fg d t = true then (flg d t, 0) else ((0, 0), 1)
theorem flR_ok (d t : Int) (h : fg d t = true) : flR d t = (flg d t, 0) := if_pos h
theorem flR_no (d t : Int) (h : fg d t = false) : flR d t = ((0, 0), 1) := if_neg (by rw [h]; simp)
def adR (a b c d : Int) : (Int × Int) × Int := if (iv a b && iv c d) = true then rsi (a + c) (b + d) else ((0, 0), 1)
theorem adR_ok (a b c d : Int) (h : (iv a b && iv c d) = true) : adR a b c d = rsi (a + c) (b + d) := if_pos h
theorem adR_no (a b c d : Int) (h : (iv a b && iv c d) = false) : adR a b c d = ((0, 0), 1) := if_neg (by rw [h]; simp)
def suR (a b c d : Int) : (Int × Int) × Int := if (iv a b && iv c d) = true then rsi (a - d) (b - c) else ((0, 0), 1)
theorem suR_ok (a b c d : Int) (h : (iv a b && iv c d) = true) : suR a b c d = rsi (a - d) (b - c) := if_pos h
theorem suR_no (a b c d : Int) (h : (iv a b && iv c d) = false) : suR a b c d = ((0, 0), 1) := if_neg (by rw [h]; simp)
/-- An interval times a fraction: its bounds. -/
def scl (a b n d : Int) : Int × Int := if n < 0 then ((b * n).fdiv d, cd (a * n) d) else ((a * n).fdiv d, cd (b * n) d)
theorem scl_neg (a b n d : Int) (h : n < 0) : scl a b n d = ((b * n).fdiv d, cd (a * n) d) := if_pos h
theorem scl_pos (a b n d : Int) (h : 0 ≤ n) : scl a b n d = ((a * n).fdiv d, cd (b * n) d) := if_neg (by omega)
def scR (a b n d : Int) : (Int × Int) × Int := if iv a b = false then ((0, 0), 1) else if (-12 ≤ n ∧ n ≤ 12) ∧ (1 ≤ d ∧ d ≤ 12) then rsi (scl a b n d).1 (scl a b n d).2 else ((0, 0), 2)
theorem scR_no (a b n d : Int) (h : iv a b = false) : scR a b n d = ((0, 0), 1) := if_pos h
theorem scR_ok (a b n d : Int) (h : iv a b = true) (h1 : (-12 ≤ n ∧ n ≤ 12) ∧ (1 ≤ d ∧ d ≤ 12)) : scR a b n d = rsi (scl a b n d).1 (scl a b n d).2 := by
  unfold scR; rw [if_neg (by rw [h]; simp), if_pos h1]
theorem scR_rg (a b n d : Int) (h : iv a b = true) (h1 : ¬ ((-12 ≤ n ∧ n ≤ 12) ∧ (1 ≤ d ∧ d ≤ 12))) : scR a b n d = ((0, 0), 2) := by
  unfold scR; rw [if_neg (by rw [h]; simp), if_neg h1]
def maR (u : Int) : (Int × Int) × Int := if vl u = true then ((u - u.fdiv 1048576 * 1048576, u.fdiv 1048576), 0) else ((0, 0), 2)
theorem maR_ok (u : Int) (h : vl u = true) : maR u = ((u - u.fdiv 1048576 * 1048576, u.fdiv 1048576), 0) := if_pos h
theorem maR_no (u : Int) (h : vl u = false) : maR u = ((0, 0), 2) := if_neg (by rw [h]; simp)
theorem mod_eq (u : Int) : u - u.fdiv 1048576 * 1048576 = u % 1048576 := by
  rw [Int.fdiv_eq_ediv_of_nonneg _ (by omega)]; omega
def wiR (a b : Int) : Int × Int := if iv a b = true then (b - a, 0) else (0, 1)
theorem wiR_ok (a b : Int) (h : iv a b = true) : wiR a b = (b - a, 0) := if_pos h
theorem wiR_no (a b : Int) (h : iv a b = false) : wiR a b = (0, 1) := if_neg (by rw [h]; simp)
theorem tmod_emod' (a m : Int) : a.tmod m % m = a % m := by rw [Int.tmod_def, Int.sub_mul_emod_self_left]
theorem mod_1 (a m : Int) : (a.tmod m + m) % m = a % m := by rw [Int.add_emod_right, tmod_emod']
theorem mod_2 (a m : Int) : (a % m + m) % m = a % m := by rw [Int.add_emod_right, Int.emod_emod]
theorem mod_bds (a m : Int) (h : 1 ≤ m) : 0 ≤ a.tmod m + m ∧ a.tmod m ≤ m ∧ 0 ≤ a % m ∧ a % m ≤ m := by
  have h1 := Int.tmod_lt_of_pos a (b := m) (by omega)
  have h2 := Int.tmod_lt_of_pos (-a) (b := m) (by omega)
  rw [Int.neg_tmod] at h2
  have h3 := Int.emod_nonneg a (b := m) (by omega)
  have h4 := Int.emod_lt_of_pos a (b := m) (by omega)
  omega
end Go.Proofs.YtgadkpkpdpphbaaDoor
