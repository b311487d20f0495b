/- Plain mathematics, merged. -/
import Derived.Test.YtphebmbapllinaaDoorMA
/- Plain mathematics of chapter 4: figures by their numbers, the figures next to a logarithm, spans. No program is imported here. -/
namespace Go.Proofs.YtphebmbapllinaaDoor
set_option linter.unusedSimpArgs false
set_option linter.unusedVariables false

/-- The logarithm of the figure with a number: 9000 figures for each power of ten, 0 for 1000 with the tens 0. -/
def fnl (n : Int) : Int × Int := flg (1000 + n % 9000) (n / 9000)
theorem fnl_eq (n : Int) : fnl n = flg (1000 + n % 9000) (n / 9000) := rfl
theorem fn_fg (n : Int) (h1 : -270000 ≤ n) (h2 : n ≤ 278999) : fg (1000 + n % 9000) (n / 9000) = true := (fg_iff _ _).2 (by omega)
theorem fn_no (n : Int) (h : n < -270000 ∨ 278999 < n) : fg (1000 + n % 9000) (n / 9000) = false := (fg_not _ _).2 (by omega)
theorem fnl_wid (n : Int) (h1 : -270000 ≤ n) (h2 : n ≤ 278999) : (fnl n).1 < (fnl n).2 ∧ (fnl n).2 ≤ (fnl n).1 + 2 := by
  have w := flg_width _ _ (fn_fg n h1 h2)
  rw [← fnl_eq] at w
  omega
theorem fnl_step (n : Int) (h1 : -270000 ≤ n) (h2 : n ≤ 278998) : (fnl n).2 ≤ (fnl (n + 1)).1 := by
  have f := fn_fg n h1 (by omega)
  by_cases h : n % 9000 ≤ 8998
  · have w := flg_next _ _ f (by omega)
    rw [← fnl_eq, show 1000 + n % 9000 + 1 = 1000 + (n + 1) % 9000 by omega, show n / 9000 = (n + 1) / 9000 by omega, ← fnl_eq] at w
    omega
  · have e1 : 1000 + n % 9000 = 9999 := by omega
    have e2 : 1000 + (n + 1) % 9000 = 1000 := by omega
    have e3 : (n + 1) / 9000 = n / 9000 + 1 := by omega
    rw [fnl_eq, fnl_eq, e1, e2, e3, flg_1, flg_2]
    have a := lgb_bd true (9999 * 100000) (by omega) (by omega)
    have b := lgb_bd false (1000 * 100000) (by omega) (by omega)
    omega
theorem fnl_up (n : Int) (h1 : -270000 ≤ n) (k : Nat) (h2 : n + k ≤ 278999) : (fnl n).1 ≤ (fnl (n + k)).1 ∧ (fnl n).2 ≤ (fnl (n + k)).2 := by
  induction k with
  | zero => simp
  | succ k ih =>
    have i := ih (by omega)
    have s := fnl_step (n + k) (by omega) (by omega)
    have w := fnl_wid (n + k) (by omega) (by omega)
    have w' := fnl_wid (n + k + 1) (by omega) (by omega)
    rw [show n + ((k + 1 : Nat) : Int) = n + k + 1 by omega]
    omega
theorem fnl_mono {a b : Int} (h1 : -270000 ≤ a) (h : a ≤ b) (h2 : b ≤ 278999) : (fnl a).1 ≤ (fnl b).1 ∧ (fnl a).2 ≤ (fnl b).2 := by
  have u := fnl_up a h1 (b - a).toNat (by omega)
  rwa [show a + ((b - a).toNat : Int) = b by omega] at u
theorem fnl_lt {a b : Int} (h1 : -270000 ≤ a) (h : a < b) (h2 : b ≤ 278999) : (fnl a).2 ≤ (fnl b).1 := by
  have s := fnl_step a h1 (by omega)
  have m := fnl_mono (a := a + 1) (b := b) (by omega) (by omega) h2
  omega

/-- The logarithm of a number of a figure is over u: its upper end, or its lower one at least u. -/
def ovr (hi : Bool) (u n : Int) : Bool := if hi then decide (u < (fnl n).2) else decide (u ≤ (fnl n).1)
theorem ovr_t (u n : Int) : ovr true u n = decide (u < (fnl n).2) := by unfold ovr; rw [if_pos rfl]
theorem ovr_f (u n : Int) : ovr false u n = decide (u ≤ (fnl n).1) := by unfold ovr; rw [if_neg (by simp)]
theorem ovr_mono (hi : Bool) (u : Int) {a b : Int} (h1 : -270000 ≤ a) (h : a ≤ b) (h2 : b ≤ 278999) (ha : ovr hi u a = true) : ovr hi u b = true := by
  have m := fnl_mono h1 h h2
  cases hi
  · rw [ovr_f] at *; simp at ha ⊢; omega
  · rw [ovr_t] at *; simp at ha ⊢; omega

/-- How often a condition fails below n. -/
def cntF (p : Nat → Bool) : Nat → Nat
  | 0 => 0
  | n + 1 => cntF p n + (if p n then 0 else 1)
theorem cntF_succ (p : Nat → Bool) (n : Nat) : cntF p (n + 1) = cntF p n + (if p n then 0 else 1) := rfl
theorem cntF_le (p : Nat → Bool) (n : Nat) : cntF p n ≤ n := by
  induction n with
  | zero => exact Nat.le_refl _
  | succ n ih => rw [cntF_succ]; split <;> omega
theorem cntF_thr (p : Nat → Bool) (N k : Nat) (hk : k ≤ N) (h1 : ∀ i, i < k → p i = false) (h2 : ∀ i, k ≤ i → i < N → p i = true) : cntF p N = k := by
  induction N generalizing k with
  | zero => simp [cntF]; omega
  | succ N ih =>
    rw [cntF_succ]
    by_cases h : k = N + 1
    · subst h
      rw [ih N (Nat.le_refl _) (fun i hi => h1 i (by omega)) (fun i a b => by omega), h1 N (by omega)]
      rfl
    · rw [ih k (by omega) h1 (fun i a b => h2 i a (by omega)), h2 N (by omega) (by omega)]
      rfl
theorem thr_ex (p : Nat → Bool) (N : Nat) (hm : ∀ a b, a ≤ b → b < N → p a = true → p b = true) : ∃ k, k ≤ N ∧ (∀ i, i < k → p i = false) ∧ (∀ i, k ≤ i → i < N → p i = true) := by
  induction N with
  | zero => exact ⟨0, Nat.le_refl _, fun i h => by omega, fun i _ h => by omega⟩
  | succ N ih =>
    obtain ⟨k, hk, h1, h2⟩ := ih (fun a b h hb => hm a b h (by omega))
    by_cases hN : p N = true
    · exact ⟨k, by omega, h1, fun i a b => by
        by_cases e : i = N
        · rw [e]; exact hN
        · exact h2 i a (by omega)⟩
    · have hN' : p N = false := by simpa using hN
      refine ⟨N + 1, Nat.le_refl _, fun i hi => ?_, fun i a b => by omega⟩
      cases hp : p i
      · rfl
      · exact absurd (hm i N (by omega) (by omega) hp) hN
/-- How many figures there are. -/
def NF : Nat := 549000
theorem NF_eq : NF = 549000 := rfl
/-- The condition by the number of the program, from 0. -/
def pq (hi : Bool) (u : Int) (i : Nat) : Bool := ovr hi u ((i : Int) - 270000)
theorem pq_eq (hi : Bool) (u : Int) (i : Nat) : pq hi u i = ovr hi u ((i : Int) - 270000) := rfl
theorem pq_mono (hi : Bool) (u : Int) (a b : Nat) (h : a ≤ b) (hb : b < NF) (ha : pq hi u a = true) : pq hi u b = true := by
  rw [NF_eq] at hb
  exact ovr_mono hi u (by omega) (by omega) (by omega) ha
/-- The least number for which the condition holds. -/
def ff (hi : Bool) (u : Int) : Int := (cntF (pq hi u) NF : Int) - 270000
theorem ff_eq (hi : Bool) (u : Int) : ff hi u = (cntF (pq hi u) NF : Int) - 270000 := rfl
theorem ff_bd (hi : Bool) (u : Int) : -270000 ≤ ff hi u ∧ ff hi u ≤ 279000 := by
  have := cntF_le (pq hi u) NF
  rw [ff_eq]
  rw [NF_eq] at *
  omega
theorem ff_is (hi : Bool) (u k : Int) (k1 : -270000 ≤ k) (k2 : k ≤ 279000) (h1 : ∀ n, -270000 ≤ n → n < k → ovr hi u n = false) (h2 : ∀ n, k ≤ n → n ≤ 278999 → ovr hi u n = true) : ff hi u = k := by
  have := cntF_thr (pq hi u) NF (k + 270000).toNat (by rw [NF_eq]; omega) (fun i hi' => h1 _ (by omega) (by omega)) (fun i a b => by rw [NF_eq] at b; exact h2 _ (by omega) (by omega))
  rw [ff_eq, this]
  omega
theorem ff_both (hi : Bool) (u : Int) : (∀ n, -270000 ≤ n → n < ff hi u → ovr hi u n = false) ∧ (∀ n, ff hi u ≤ n → n ≤ 278999 → ovr hi u n = true) := by
  obtain ⟨k, hk, h1, h2⟩ := thr_ex (pq hi u) NF (pq_mono hi u)
  have e := cntF_thr (pq hi u) NF k hk h1 h2
  rw [ff_eq, e]
  rw [NF_eq] at hk h2
  constructor
  · intro n a b
    have := h1 (n + 270000).toNat (by omega)
    rwa [pq_eq, show ((n + 270000).toNat : Int) - 270000 = n by omega] at this
  · intro n a b
    have := h2 (n + 270000).toNat (by omega) (by omega)
    rwa [pq_eq, show ((n + 270000).toNat : Int) - 270000 = n by omega] at this
theorem ff_lo {hi : Bool} {u n : Int} (h1 : -270000 ≤ n) (h2 : n < ff hi u) : ovr hi u n = false := (ff_both hi u).1 n h1 h2
theorem ff_hi {hi : Bool} {u n : Int} (h1 : ff hi u ≤ n) (h2 : n ≤ 278999) : ovr hi u n = true := (ff_both hi u).2 n h1 h2

/-- The figure with a number, or ErrNotFound. -/
def nfR (n : Int) : (Int × Int) × Int := if -270000 ≤ n ∧ n ≤ 278999 then ((1000 + n % 9000, n / 9000), 0) else ((0, 0), 4)
theorem nfR_ok (n : Int) (h : -270000 ≤ n ∧ n ≤ 278999) : nfR n = ((1000 + n % 9000, n / 9000), 0) := if_pos h
theorem nfR_no (n : Int) (h : ¬ (-270000 ≤ n ∧ n ≤ 278999)) : nfR n = ((0, 0), 4) := if_neg h
theorem nfR_cases (n : Int) : ((-270000 ≤ n ∧ n ≤ 278999) ∧ nfR n = ((1000 + n % 9000, n / 9000), 0)) ∨ (¬ (-270000 ≤ n ∧ n ≤ 278999) ∧ nfR n = ((0, 0), 4)) := by
  by_cases h : -270000 ≤ n ∧ n ≤ 278999
  · exact .inl ⟨h, nfR_ok n h⟩
  · exact .inr ⟨h, nfR_no n h⟩
/-- Units that are not too great. -/
def un (u : Int) : Bool := decide (-31457280 ≤ u ∧ u ≤ 31457280)
theorem un_iff (u : Int) : un u = true ↔ (-31457280 ≤ u ∧ u ≤ 31457280) := by unfold un; simp
theorem un_not (u : Int) : un u = false ↔ ¬ (-31457280 ≤ u ∧ u ≤ 31457280) := by unfold un; simp
def fbR (u : Int) : (Int × Int) × Int := if un u = true then nfR (ff true u - 1) else ((0, 0), 2)
theorem fbR_ok (u : Int) (h : un u = true) : fbR u = nfR (ff true u - 1) := if_pos h
theorem fbR_no (u : Int) (h : un u = false) : fbR u = ((0, 0), 2) := if_neg (by rw [h]; simp)
def faR (u : Int) : (Int × Int) × Int := if un u = true then nfR (ff false u) else ((0, 0), 2)
theorem faR_ok (u : Int) (h : un u = true) : faR u = nfR (ff false u) := if_pos h
theorem faR_no (u : Int) (h : un u = false) : faR u = ((0, 0), 2) := if_neg (by rw [h]; simp)
/-- The span of an interval: two figures and a code. -/
structure Sp where
  a : Int
  s : Int
  b : Int
  t : Int
  c : Int
def spN (m n : Int) : Sp := if (-270000 ≤ m ∧ m ≤ 278999) ∧ (-270000 ≤ n ∧ n ≤ 278999) then ⟨1000 + m % 9000, m / 9000, 1000 + n % 9000, n / 9000, 0⟩ else ⟨0, 0, 0, 0, 4⟩
theorem spN_ok (m n : Int) (h : (-270000 ≤ m ∧ m ≤ 278999) ∧ (-270000 ≤ n ∧ n ≤ 278999)) : spN m n = ⟨1000 + m % 9000, m / 9000, 1000 + n % 9000, n / 9000, 0⟩ := if_pos h
theorem spN_no (m n : Int) (h : ¬ ((-270000 ≤ m ∧ m ≤ 278999) ∧ (-270000 ≤ n ∧ n ≤ 278999))) : spN m n = ⟨0, 0, 0, 0, 4⟩ := if_neg h
def spU (l h : Int) : Sp := if (un l && un h) = true then spN (ff true l - 1) (ff false h) else ⟨0, 0, 0, 0, 2⟩
theorem spU_ok (l h : Int) (e : un l = true) (e' : un h = true) : spU l h = spN (ff true l - 1) (ff false h) := if_pos (by rw [e, e']; rfl)
theorem spU_no (l h : Int) (e : (un l && un h) = false) : spU l h = ⟨0, 0, 0, 0, 2⟩ := if_neg (by rw [e]; simp)
def spR (l h : Int) : Sp := if iv l h = true then spU l h else ⟨0, 0, 0, 0, 1⟩
theorem spR_ok (l h : Int) (e : iv l h = true) : spR l h = spU l h := if_pos e
theorem spR_no (l h : Int) (e : iv l h = false) : spR l h = ⟨0, 0, 0, 0, 1⟩ := if_neg (by rw [e]; simp)
def psR (a s b t : Int) : Sp := if (fg a s && fg b t) = true then spU ((flg a s).1 + (flg b t).1) ((flg a s).2 + (flg b t).2) else ⟨0, 0, 0, 0, 1⟩
theorem psR_ok (a s b t : Int) (h : (fg a s && fg b t) = true) : psR a s b t = spU ((flg a s).1 + (flg b t).1) ((flg a s).2 + (flg b t).2) := if_pos h
theorem psR_no (a s b t : Int) (h : (fg a s && fg b t) = false) : psR a s b t = ⟨0, 0, 0, 0, 1⟩ := if_neg (by rw [h]; simp)
def qsR (a s b t : Int) : Sp := if (fg a s && fg b t) = true then spU ((flg a s).1 - (flg b t).2) ((flg a s).2 - (flg b t).1) else ⟨0, 0, 0, 0, 1⟩
theorem qsR_ok (a s b t : Int) (h : (fg a s && fg b t) = true) : qsR a s b t = spU ((flg a s).1 - (flg b t).2) ((flg a s).2 - (flg b t).1) := if_pos h
theorem qsR_no (a s b t : Int) (h : (fg a s && fg b t) = false) : qsR a s b t = ⟨0, 0, 0, 0, 1⟩ := if_neg (by rw [h]; simp)
def pwR (a s n d : Int) : Sp := if fg a s = false then ⟨0, 0, 0, 0, 1⟩ else if (scR (flg a s).1 (flg a s).2 n d).2 = 0 then spU (scR (flg a s).1 (flg a s).2 n d).1.1 (scR (flg a s).1 (flg a s).2 n d).1.2 else ⟨0, 0, 0, 0, (scR (flg a s).1 (flg a s).2 n d).2⟩
theorem pwR_no (a s n d : Int) (h : fg a s = false) : pwR a s n d = ⟨0, 0, 0, 0, 1⟩ := if_pos h
theorem pwR_ok (a s n d : Int) (h : fg a s = true) (h2 : (scR (flg a s).1 (flg a s).2 n d).2 = 0) : pwR a s n d = spU (scR (flg a s).1 (flg a s).2 n d).1.1 (scR (flg a s).1 (flg a s).2 n d).1.2 := by
  unfold pwR; rw [if_neg (by rw [h]; simp), if_pos h2]
theorem pwR_bad (a s n d : Int) (h : fg a s = true) (h2 : (scR (flg a s).1 (flg a s).2 n d).2 ≠ 0) : pwR a s n d = ⟨0, 0, 0, 0, (scR (flg a s).1 (flg a s).2 n d).2⟩ := by
  unfold pwR; rw [if_neg (by rw [h]; simp), if_neg h2]
/-- The code of two ends: invalid, or in the wrong order. -/
def scd (a s b t : Int) : Int := if (fg a s && fg b t) = false then 1 else if 10000 * t + b < 10000 * s + a then 5 else 0
theorem scd_no (a s b t : Int) (h : (fg a s && fg b t) = false) : scd a s b t = 1 := if_pos h
theorem scd_st (a s b t : Int) (h : (fg a s && fg b t) = true) (h2 : 10000 * t + b < 10000 * s + a) : scd a s b t = 5 := by unfold scd; rw [if_neg (by rw [h]; simp), if_pos h2]
theorem scd_ok (a s b t : Int) (h : (fg a s && fg b t) = true) (h2 : 10000 * s + a ≤ 10000 * t + b) : scd a s b t = 0 := by unfold scd; rw [if_neg (by rw [h]; simp), if_neg (by omega)]
theorem scd_cases (a s b t : Int) : ((fg a s && fg b t) = false ∧ scd a s b t = 1) ∨ ((fg a s && fg b t) = true ∧ fg a s = true ∧ fg b t = true ∧ 10000 * t + b < 10000 * s + a ∧ scd a s b t = 5) ∨ ((fg a s && fg b t) = true ∧ fg a s = true ∧ fg b t = true ∧ 10000 * s + a ≤ 10000 * t + b ∧ scd a s b t = 0) := by
  cases h : (fg a s && fg b t)
  · exact .inl ⟨rfl, scd_no a s b t h⟩
  · have h' := h
    rw [Bool.and_eq_true] at h'
    by_cases h2 : 10000 * t + b < 10000 * s + a
    · exact .inr (.inl ⟨rfl, h'.1, h'.2, h2, scd_st a s b t h h2⟩)
    · exact .inr (.inr ⟨rfl, h'.1, h'.2, by omega, scd_ok a s b t h (by omega)⟩)
def seR (a s b t : Int) : Int × Int := if scd a s b t = 0 then reR b t a s else (0, scd a s b t)
theorem seR_ok (a s b t : Int) (h : scd a s b t = 0) : seR a s b t = reR b t a s := if_pos h
theorem seR_no (a s b t : Int) (h : scd a s b t ≠ 0) : seR a s b t = (0, scd a s b t) := if_neg h
def miR (a s b t : Int) : (Int × Int) × Int := if scd a s b t = 0 then faR (((flg a s).1 + (flg b t).2).fdiv 2) else ((0, 0), scd a s b t)
theorem miR_ok (a s b t : Int) (h : scd a s b t = 0) : miR a s b t = faR (((flg a s).1 + (flg b t).2).fdiv 2) := if_pos h
theorem miR_no (a s b t : Int) (h : scd a s b t ≠ 0) : miR a s b t = ((0, 0), scd a s b t) := if_neg h
end Go.Proofs.YtphebmbapllinaaDoor

/- Plain mathematics of the laws of chapter 4: figures below and above, powers and roots. No program is imported here. -/
namespace Go.Proofs.YtphebmbapllinaaDoor
set_option linter.unusedSimpArgs false
set_option linter.unusedVariables false

/-- Three figures in order. -/
def btw (a s b t c u : Int) : Prop := (fg a s = true ∧ fg b t = true ∧ fg c u = true) ∧ 10000 * s + a ≤ 10000 * t + b ∧ 10000 * t + b ≤ 10000 * u + c
/-- A figure's number, and back. -/
def num (a s : Int) : Int := 9000 * s + (a - 1000)
theorem num_bd (a s : Int) (h : fg a s = true) : (-270000 ≤ num a s ∧ num a s ≤ 278999) ∧ 1000 + num a s % 9000 = a ∧ num a s / 9000 = s := by
  obtain ⟨⟨a1, a2⟩, s1, s2⟩ := (fg_iff a s).1 h
  unfold num
  omega
theorem num_fnl (a s : Int) (h : fg a s = true) : fnl (num a s) = flg a s := by
  obtain ⟨-, h1, h2⟩ := num_bd a s h
  rw [fnl_eq, h1, h2]
theorem num_of (m : Int) : num (1000 + m % 9000) (m / 9000) = m := by unfold num; omega
theorem flg_at (m : Int) : flg (1000 + m % 9000) (m / 9000) = fnl m := rfl
/-- Greater logarithms, greater numbers. -/
theorem lt_num {a b : Int} (a1 : -270000 ≤ a) (a2 : a ≤ 278999) (b1 : -270000 ≤ b) (b2 : b ≤ 278999) (h : (fnl a).2 ≤ (fnl b).1) : a < b := by
  rcases Int.lt_or_le a b with h1 | h1
  · exact h1
  · have := (fnl_mono b1 h1 a2).1
    have := fnl_wid a a1 a2
    omega
theorem below_le {u k : Int} (h1 : -270000 ≤ k) (h2 : k ≤ 278999) (h : k < ff true u) : (fnl k).2 ≤ u := by
  have := ff_lo h1 h
  rw [ovr_t] at this
  simpa using this
theorem above_ge {u k : Int} (h1 : -270000 ≤ k) (h2 : k ≤ 278999) (h : ff false u ≤ k) : u ≤ (fnl k).1 := by
  have := ff_hi h h2
  rw [ovr_f] at this
  simpa using this
theorem ff_le {l h : Int} (hl : l ≤ h) : ff true l ≤ ff false h := by
  have b1 := ff_bd true l
  have b2 := ff_bd false h
  rcases Int.lt_or_le (ff false h) (ff true l) with c | c
  · have x := below_le (u := l) b2.1 (by omega) c
    have y := above_ge (u := h) b2.1 (by omega) (Int.le_refl _)
    have := fnl_wid (ff false h) b2.1 (by omega)
    omega
  · exact c
theorem ff_mono {hi : Bool} {l h : Int} (hl : l ≤ h) : ff hi l ≤ ff hi h := by
  have b1 := ff_bd hi l
  have b2 := ff_bd hi h
  rcases Int.lt_or_le (ff hi h) (ff hi l) with c | c
  · have x := ff_lo (hi := hi) (u := l) b2.1 c
    have y := ff_hi (hi := hi) (u := h) (Int.le_refl _) (by omega)
    cases hi
    · rw [ovr_f] at x y; simp at x y; omega
    · rw [ovr_t] at x y; simp at x y; omega
  · exact c
theorem ff_near (u : Int) (h : ff false u ≤ 278999) : ff false u ≤ ff true u + 1 := by
  have b1 := ff_bd true u
  have b2 := ff_bd false u
  rcases Int.lt_or_le (ff true u + 1) (ff false u) with c | c
  · have x := ff_hi (hi := true) (u := u) (Int.le_refl _) (by omega)
    have y := ff_lo (hi := false) (u := u) (n := ff true u + 1) (by omega) c
    have s := fnl_step (ff true u) b1.1 (by omega)
    rw [ovr_t] at x
    rw [ovr_f] at y
    simp at x y
    omega
  · exact c
theorem rank_le {m n : Int} (h : m ≤ n) : 10000 * (m / 9000) + (1000 + m % 9000) ≤ 10000 * (n / 9000) + (1000 + n % 9000) := by omega

/-- The figure below. -/
theorem fb_facts (u : Int) : ((fbR u).2 ≠ 0) ∨ ((fbR u).2 = 0 ∧ flR (fbR u).1.1 (fbR u).1.2 = (flg (fbR u).1.1 (fbR u).1.2, 0) ∧ (flg (fbR u).1.1 (fbR u).1.2).2 ≤ u) := by
  cases hu : un u
  · left; rw [fbR_no u hu]; simp
  · rw [fbR_ok u hu]
    rcases nfR_cases (ff true u - 1) with ⟨⟨h1, h2⟩, h⟩ | ⟨-, h⟩
    · right
      rw [h]
      exact ⟨rfl, flR_ok _ _ (fn_fg _ h1 h2), by rw [flg_at]; exact below_le h1 h2 (by omega)⟩
    · left; rw [h]; simp
theorem fa_facts (u : Int) : ((faR u).2 ≠ 0) ∨ ((faR u).2 = 0 ∧ flR (faR u).1.1 (faR u).1.2 = (flg (faR u).1.1 (faR u).1.2, 0) ∧ u ≤ (flg (faR u).1.1 (faR u).1.2).1) := by
  cases hu : un u
  · left; rw [faR_no u hu]; simp
  · rw [faR_ok u hu]
    rcases nfR_cases (ff false u) with ⟨⟨h1, h2⟩, h⟩ | ⟨-, h⟩
    · right
      rw [h]
      exact ⟨rfl, flR_ok _ _ (fn_fg _ h1 h2), by rw [flg_at]; exact above_ge h1 h2 (Int.le_refl _)⟩
    · left; rw [h]; simp

theorem reE_le2 (n d : Int) (hd : 0 < d) (h : (n - d) * 1000000 ≤ 2100 * d) (h' : (d - n) * 1000000 ≤ 2100 * d) : reE n d ≤ 2100 := by
  unfold reE
  obtain ⟨h1, h2⟩ := cd_frac ((n - d).natAbs * 1000000) d hd
  generalize cd ((n - d).natAbs * 1000000) d = y at *
  have : y < 2101 := lt_of_mul hd (by omega)
  omega
/-- Two figures at most two numbers apart. -/
theorem re_near (m n : Int) (m1 : -270000 ≤ m) (n2 : n ≤ 278999) (h1 : m ≤ n) (h2 : n ≤ m + 2) :
    (reR (1000 + n % 9000) (n / 9000) (1000 + m % 9000) (m / 9000)).2 = 0 ∧ (reR (1000 + n % 9000) (n / 9000) (1000 + m % 9000) (m / 9000)).1 ≤ 2100 := by
  have k : reV (1000 + n % 9000) (n / 9000) (1000 + m % 9000) (m / 9000) ≤ 2100 := by
    unfold reV
    by_cases h : n / 9000 = m / 9000
    · rw [if_neg (by omega), if_neg (by omega), if_neg (by omega), show (m / 9000 - n / 9000).toNat = 0 by omega, show p10 0 = 1 from rfl, Int.mul_one]
      exact reE_le2 _ _ (by omega) (by omega) (by omega)
    · rw [if_neg (by omega), if_neg (by omega), if_pos (by omega), show (n / 9000 - m / 9000).toNat = 1 by omega, show p10 1 = 10 from rfl]
      exact reE_le2 _ _ (by omega) (by omega) (by omega)
  rw [reR_lo _ _ _ _ (fn_fg n (by omega) n2) (fn_fg m m1 (by omega)) (by omega)]
  exact ⟨rfl, k⟩
theorem ba_facts (u : Int) (h1 : (fbR u).2 = 0) (h2 : (faR u).2 = 0) :
    btw (fbR u).1.1 (fbR u).1.2 (fbR u).1.1 (fbR u).1.2 (faR u).1.1 (faR u).1.2 ∧ (reR (faR u).1.1 (faR u).1.2 (fbR u).1.1 (fbR u).1.2).2 = 0 ∧ (reR (faR u).1.1 (faR u).1.2 (fbR u).1.1 (fbR u).1.2).1 ≤ 2100 := by
  cases hu : un u
  · rw [fbR_no u hu] at h1; simp at h1
  · rw [fbR_ok u hu] at h1 ⊢
    rw [faR_ok u hu] at h2 ⊢
    rcases nfR_cases (ff true u - 1) with ⟨⟨c1, c2⟩, h⟩ | ⟨-, h⟩
    · rcases nfR_cases (ff false u) with ⟨⟨d1, d2⟩, h'⟩ | ⟨-, h'⟩
      · rw [h, h']
        have x := ff_le (Int.le_refl u)
        have y := ff_near u d2
        exact ⟨⟨⟨fn_fg _ c1 c2, fn_fg _ c1 c2, fn_fg _ d1 d2⟩, Int.le_refl _, rank_le (by omega)⟩, re_near _ _ c1 d2 (by omega) (by omega)⟩
      · rw [h'] at h2; simp at h2
    · rw [h] at h1; simp at h1

/-- What is known of a span: its two numbers. -/
theorem spU_facts (l h : Int) : ((spU l h).c ≠ 0) ∨ (∃ m n : Int, spU l h = ⟨1000 + m % 9000, m / 9000, 1000 + n % 9000, n / 9000, 0⟩ ∧ (-270000 ≤ m ∧ m ≤ 278999) ∧ (-270000 ≤ n ∧ n ≤ 278999) ∧ m = ff true l - 1 ∧ n = ff false h ∧ (fnl m).2 ≤ l ∧ h ≤ (fnl n).1) := by
  cases hu : (un l && un h)
  · left; rw [spU_no l h hu]; simp
  · rw [Bool.and_eq_true] at hu
    rw [spU_ok l h hu.1 hu.2]
    by_cases hm : (-270000 ≤ ff true l - 1 ∧ ff true l - 1 ≤ 278999) ∧ (-270000 ≤ ff false h ∧ ff false h ≤ 278999)
    · right
      exact ⟨_, _, spN_ok _ _ hm, hm.1, hm.2, rfl, rfl, below_le hm.1.1 hm.1.2 (by omega), above_ge hm.2.1 hm.2.2 (Int.le_refl _)⟩
    · left; rw [spN_no _ _ hm]; simp
/-- The ends of a span are in order. -/
theorem sp_order (l h : Int) (e : (spR l h).c = 0) : btw (spR l h).a (spR l h).s (spR l h).a (spR l h).s (spR l h).b (spR l h).t := by
  cases hi : iv l h
  · rw [spR_no l h hi] at e; simp at e
  · rw [spR_ok l h hi] at e ⊢
    have hl := ((iv_iff l h).1 hi).2.2
    rcases spU_facts l h with c | ⟨m, n, e1, ⟨m1, m2⟩, ⟨n1, n2⟩, em, en, -, -⟩
    · exact absurd e c
    · rw [e1]
      have := ff_le hl
      exact ⟨⟨fn_fg _ m1 m2, fn_fg _ m1 m2, fn_fg _ n1 n2⟩, Int.le_refl _, rank_le (by omega)⟩

/-- What is known of the span of a power. -/
theorem pw_facts (a s n d : Int) (h : (pwR a s n d).c = 0) : fg a s = true ∧ (-12 ≤ n ∧ n ≤ 12) ∧ (1 ≤ d ∧ d ≤ 12) ∧
    ∃ i j : Int, pwR a s n d = ⟨1000 + i % 9000, i / 9000, 1000 + j % 9000, j / 9000, 0⟩ ∧ (-270000 ≤ i ∧ i ≤ 278999) ∧ (-270000 ≤ j ∧ j ≤ 278999) ∧
      i = ff true (scl (flg a s).1 (flg a s).2 n d).1 - 1 ∧ j = ff false (scl (flg a s).1 (flg a s).2 n d).2 ∧ (fnl i).2 ≤ (scl (flg a s).1 (flg a s).2 n d).1 ∧ (scl (flg a s).1 (flg a s).2 n d).2 ≤ (fnl j).1 := by
  cases hf : fg a s
  · rw [pwR_no a s n d hf] at h; simp at h
  · rcases scR_facts (flg a s).1 (flg a s).2 n d with hc | ⟨hc, -, hn, hd, hv, -⟩
    · rw [pwR_bad a s n d hf hc] at h; exact absurd h hc
    · rw [pwR_ok a s n d hf hc] at h ⊢
      rw [hv] at h ⊢
      rcases spU_facts (scl (flg a s).1 (flg a s).2 n d).1 (scl (flg a s).1 (flg a s).2 n d).2 with c | ⟨m, k, e1, hm, hk, em, ek, x, y⟩
      · exact absurd h c
      · exact ⟨rfl, hn, hd, m, k, e1, hm, hk, em, ek, x, y⟩
theorem fd_mono {x y n : Int} (hn : 0 < n) (h : x ≤ y) : x.fdiv n ≤ y.fdiv n := by
  rw [Int.fdiv_eq_ediv_of_nonneg _ (by omega), Int.fdiv_eq_ediv_of_nonneg _ (by omega)]
  exact Int.ediv_le_ediv hn h
theorem cd_mono {x y n : Int} (hn : 0 < n) (h : x ≤ y) : cd x n ≤ cd y n := by
  unfold cd
  have := fd_mono hn (show -y ≤ -x by omega)
  omega
theorem pow_core (k i j i' j' i'' j'' n d : Int) (hk : -270000 ≤ k ∧ k ≤ 278999) (hi : -270000 ≤ i ∧ i ≤ 278999) (hj : -270000 ≤ j ∧ j ≤ 278999) (hi' : -270000 ≤ i' ∧ i' ≤ 278999) (hj'' : -270000 ≤ j'' ∧ j'' ≤ 278999)
    (hn : 0 < n) (hd : 0 < d) (hx : (fnl i).2 ≤ ((fnl k).1 * n).fdiv d) (hy : cd ((fnl k).2 * n) d ≤ (fnl j).1)
    (em : i' = ff true (((fnl i).1 * d).fdiv n) - 1) (en : j' = ff false (cd ((fnl i).2 * d) n)) (hx' : (fnl i').2 ≤ ((fnl i).1 * d).fdiv n)
    (em' : i'' = ff true (((fnl j).1 * d).fdiv n) - 1) (en' : j'' = ff false (cd ((fnl j).2 * d) n)) (hy'' : cd ((fnl j).2 * d) n ≤ (fnl j'').1) :
    i' ≤ j' ∧ j' ≤ j'' ∧ i' ≤ i'' ∧ i'' ≤ j'' ∧ i' < k ∧ k < j'' := by
  have wi := (fnl_wid i hi.1 hi.2).1
  have wj := (fnl_wid j hj.1 hj.2).1
  have wk := (fnl_wid k hk.1 hk.2).1
  have o0 : (fnl k).1 * n ≤ (fnl k).2 * n := Int.mul_le_mul_of_nonneg_right (Int.le_of_lt wk) (Int.le_of_lt hn)
  have f1 := (frac_pos ((fnl k).1 * n) d hd).lo
  have f2 := (frac_pos ((fnl k).2 * n) d hd).hi
  have o2 : ((fnl k).1 * n).fdiv d ≤ cd ((fnl k).2 * n) d := Int.le_of_mul_le_mul_right (Int.le_trans f1 (Int.le_trans o0 f2)) hd
  have hij : i < j := lt_num hi.1 hi.2 hj.1 hj.2 (Int.le_trans hx (Int.le_trans o2 hy))
  have hm := fnl_mono hi.1 (Int.le_of_lt hij) hj.2
  have p1 : (fnl i).1 * d ≤ (fnl j).1 * d := Int.mul_le_mul_of_nonneg_right hm.1 (Int.le_of_lt hd)
  have p2 : (fnl i).2 * d ≤ (fnl j).2 * d := Int.mul_le_mul_of_nonneg_right hm.2 (Int.le_of_lt hd)
  have p3 : (fnl i).1 * d ≤ (fnl i).2 * d := Int.mul_le_mul_of_nonneg_right (Int.le_of_lt wi) (Int.le_of_lt hd)
  have p4 : (fnl j).1 * d ≤ (fnl j).2 * d := Int.mul_le_mul_of_nonneg_right (Int.le_of_lt wj) (Int.le_of_lt hd)
  have lohi : ∀ x y : Int, x ≤ y → x.fdiv n ≤ cd y n := fun x y hxy =>
    Int.le_of_mul_le_mul_right (Int.le_trans (frac_pos x n hn).lo (Int.le_trans hxy (frac_pos y n hn).hi)) hn
  have q1 := ff_le (lohi _ _ p3)
  have q2 := ff_le (lohi _ _ p4)
  have q3 := ff_mono (hi := true) (fd_mono hn p1)
  have q4 := ff_mono (hi := false) (cd_mono hn p2)
  have r1 : (fnl i').2 ≤ (fnl k).1 := by
    have a1 : (fnl i).1 * d ≤ ((fnl k).1 * n).fdiv d * d := Int.mul_le_mul_of_nonneg_right (Int.le_trans (Int.le_of_lt wi) hx) (Int.le_of_lt hd)
    have a2 := (frac_pos ((fnl i).1 * d) n hn).lo
    exact Int.le_trans hx' (Int.le_of_mul_le_mul_right (Int.le_trans a2 (Int.le_trans a1 f1)) hn)
  have r2 : (fnl k).2 ≤ (fnl j'').1 := by
    have a1 : cd ((fnl k).2 * n) d * d ≤ (fnl j).2 * d := Int.mul_le_mul_of_nonneg_right (Int.le_trans hy (Int.le_of_lt wj)) (Int.le_of_lt hd)
    have a2 := (frac_pos ((fnl j).2 * d) n hn).hi
    exact Int.le_trans (Int.le_of_mul_le_mul_right (Int.le_trans f2 (Int.le_trans a1 a2)) hn) hy''
  have s1 := lt_num hi'.1 hi'.2 hk.1 hk.2 r1
  have s2 := lt_num hk.1 hk.2 hj''.1 hj''.2 r2
  generalize ff true (((fnl i).1 * d).fdiv n) = u1 at *
  generalize ff false (cd ((fnl i).2 * d) n) = u2 at *
  generalize ff true (((fnl j).1 * d).fdiv n) = u3 at *
  generalize ff false (cd ((fnl j).2 * d) n) = u4 at *
  clear hx hy hx' hy'' f1 f2 o0 o2 p1 p2 p3 p4 lohi r1 r2 hm wi wj wk
  omega
/-- The middle of the three ways back. -/
def rk (m : Int) : Int := 10000 * (m / 9000) + (1000 + m % 9000)
theorem rk_le {m n : Int} (h : m ≤ n) : rk m ≤ rk n := rank_le h
theorem rk_eq (m : Int) : rk m = 10000 * (m / 9000) + (1000 + m % 9000) := rfl
theorem btw_of (i j k : Int) (hi : -270000 ≤ i ∧ i ≤ 278999) (hj : -270000 ≤ j ∧ j ≤ 278999) (hk : -270000 ≤ k ∧ k ≤ 278999) (h1 : i ≤ j) (h2 : j ≤ k) :
    btw (1000 + i % 9000) (i / 9000) (1000 + j % 9000) (j / 9000) (1000 + k % 9000) (k / 9000) :=
  ⟨⟨fn_fg i hi.1 hi.2, fn_fg j hj.1 hj.2, fn_fg k hk.1 hk.2⟩, rank_le h1, rank_le h2⟩
/-- Back from a root: the figure lies between the outer ends. -/
theorem pow_back (a s n d : Int) (P Q R : Sp) (hP : pwR a s n d = P) (hQ : pwR P.a P.s d n = Q) (hR : pwR P.b P.t d n = R) (h : P.c = 0) (hn : 1 ≤ n) (h2 : Q.c = 0) (h3 : R.c = 0) :
    btw Q.a Q.s Q.b Q.t R.b R.t ∧ btw Q.a Q.s R.a R.s R.b R.t ∧ btw Q.a Q.s a s R.b R.t := by
  obtain ⟨hf, -, ⟨d1, d2⟩, i, j, e, hi, hj, -, -, hx, hy⟩ := pw_facts a s n d (by rw [hP]; exact h)
  rw [hP] at e
  subst e
  simp only at hQ hR
  obtain ⟨-, -, -, i', j', e2, hi', hj', em, en, hx', -⟩ := pw_facts _ _ d n (by rw [hQ]; exact h2)
  rw [hQ] at e2
  subst e2
  obtain ⟨-, -, -, i'', j'', e3, hi'', hj'', em', en', -, hy''⟩ := pw_facts _ _ d n (by rw [hR]; exact h3)
  rw [hR] at e3
  subst e3
  clear hP hQ hR h h2 h3
  obtain ⟨hk, k3, k4⟩ := num_bd a s hf
  have kf := num_fnl a s hf
  rw [← kf] at hx hy
  generalize num a s = k at *
  subst k3 k4
  rw [flg_at] at em en hx' em' en' hy''
  rw [scl_pos _ _ n d (by omega)] at hx hy
  rw [scl_pos _ _ d n (by omega)] at hx' hy'' em en em' en'
  obtain ⟨c1, c2, c3, c4, c5, c6⟩ := pow_core k i j i' j' i'' j'' n d hk hi hj hi' hj'' (by omega) (by omega) hx hy em en hx' em' en' hy''
  exact ⟨btw_of _ _ _ hi' hj' hj'' c1 c2, btw_of _ _ _ hi' hi'' hj'' c3 c4, btw_of _ _ _ hi' hk hj'' (Int.le_of_lt c5) (Int.le_of_lt c6)⟩
/-- The error of a span is that of its ends. -/
theorem se_facts (a s b t : Int) : ((seR a s b t).2 ≠ 0) ∨ ((seR a s b t).2 = 0 ∧ reR b t a s = seR a s b t) := by
  by_cases h : scd a s b t = 0
  · rw [seR_ok a s b t h]
    by_cases h2 : (reR b t a s).2 = 0
    · exact .inr ⟨h2, rfl⟩
    · exact .inl h2
  · left; rw [seR_no a s b t h]; exact h
end Go.Proofs.YtphebmbapllinaaDoor

/- Chapter 5: scales, positions, places and distances, as functions of numbers. -/
namespace Go.Proofs.YtphebmbapllinaaDoor
set_option linter.unusedVariables false
set_option linter.unusedSimpArgs false

def sc (s : Int) : Bool := decide (0 ≤ s ∧ s ≤ 5)
theorem sc_iff (s : Int) : sc s = true ↔ (0 ≤ s ∧ s ≤ 5) := by unfold sc; simp
theorem sc_not (s : Int) : sc s = false ↔ ¬ (0 ≤ s ∧ s ≤ 5) := by unfold sc; simp
theorem sc_tf (s : Int) : sc s = true ∨ sc s = false := by cases sc s <;> simp
theorem scale_cases (s : Int) (h : sc s = true) : s = 0 ∨ s = 1 ∨ s = 2 ∨ s = 3 ∨ s = 4 ∨ s = 5 := by
  have := (sc_iff s).1 h
  omega

def riR (s : Int) : Bool × Int := if sc s = true then (decide (s ≠ 3), 0) else (false, 2)
theorem riR_ok (s : Int) (h : sc s = true) : riR s = (decide (s ≠ 3), 0) := if_pos h
theorem riR_no (s : Int) (h : sc s = false) : riR s = (false, 2) := if_neg (by rw [h]; simp)

/-- How many decades a scale shows. -/
def dec (s : Int) : Int := if s = 1 then 2 else if s = 2 then 3 else 1
def deR (s : Int) : Int × Int := if sc s = true then (dec s, 0) else (0, 2)
theorem deR_ok (s : Int) (h : sc s = true) : deR s = (dec s, 0) := if_pos h
theorem deR_no (s : Int) (h : sc s = false) : deR s = (0, 2) := if_neg (by rw [h]; simp)

/-- A figure on a scale of k decades. -/
def rep (d t k : Int) : Int × Int := ((lgb false (d * 100000) + t % k * 1048576).fdiv k, cd (lgb true (d * 100000) + 1 + t % k * 1048576) k)
theorem cd_one (a : Int) : cd a 1 = a := by unfold cd; simp
theorem rep_one (d t : Int) : rep d t 1 = (lgb false (d * 100000), lgb true (d * 100000) + 1) := by
  unfold rep
  rw [Int.emod_one, cd_one, Int.zero_mul, Int.add_zero, Int.add_zero, Int.fdiv_one]
/-- A figure on the folded scale. -/
def fld (d : Int) : Int × Int :=
  if lgb false (d * 100000) - (lgb true 314200000 + 1) < 0 then (lgb false (d * 100000) - (lgb true 314200000 + 1) + 1048576, lgb true (d * 100000) + 1 - lgb false 314200000 + 1048576)
  else (lgb false (d * 100000) - (lgb true 314200000 + 1), lgb true (d * 100000) + 1 - lgb false 314200000)
theorem fld_lo (d : Int) (h : lgb false (d * 100000) - (lgb true 314200000 + 1) < 0) : fld d = (lgb false (d * 100000) - (lgb true 314200000 + 1) + 1048576, lgb true (d * 100000) + 1 - lgb false 314200000 + 1048576) := if_pos h
theorem fld_hi (d : Int) (h : ¬ lgb false (d * 100000) - (lgb true 314200000 + 1) < 0) : fld d = (lgb false (d * 100000) - (lgb true 314200000 + 1), lgb true (d * 100000) + 1 - lgb false 314200000) := if_neg h

/-- The position of a figure. -/
def psn (s d t : Int) : Int × Int :=
  if s = 1 then rep d t 2 else if s = 2 then rep d t 3
  else if s = 3 then (1048576 - (lgb true (d * 100000) + 1), 1048576 - lgb false (d * 100000))
  else if s = 4 then fld d
  else if s = 5 then (((d - 1000) * 1048576).fdiv 9000, cd ((d - 1000) * 1048576) 9000)
  else (lgb false (d * 100000), lgb true (d * 100000) + 1)
theorem psn_0 (d t : Int) : psn 0 d t = (lgb false (d * 100000), lgb true (d * 100000) + 1) := rfl
theorem psn_1 (d t : Int) : psn 1 d t = rep d t 2 := rfl
theorem psn_2 (d t : Int) : psn 2 d t = rep d t 3 := rfl
theorem psn_3 (d t : Int) : psn 3 d t = (1048576 - (lgb true (d * 100000) + 1), 1048576 - lgb false (d * 100000)) := by rw [psn, if_neg (by decide), if_neg (by decide), if_pos rfl]
theorem psn_4 (d t : Int) : psn 4 d t = fld d := by rw [psn, if_neg (by decide), if_neg (by decide), if_neg (by decide), if_pos rfl]
theorem psn_5 (d t : Int) : psn 5 d t = (((d - 1000) * 1048576).fdiv 9000, cd ((d - 1000) * 1048576) 9000) := by rw [psn, if_neg (by decide), if_neg (by decide), if_neg (by decide), if_neg (by decide), if_pos rfl]

theorem rep_bd (d t k : Int) (h : fg d t = true) (k1 : 1 ≤ k) (k2 : k ≤ 3) : 0 ≤ (rep d t k).1 ∧ (rep d t k).1 ≤ 3145728 ∧ 0 ≤ (rep d t k).2 ∧ (rep d t k).2 ≤ 3145728 ∧ (rep d t k).1 ≤ 1048576 ∧ (rep d t k).2 ≤ 1048576 := by
  obtain ⟨⟨d1, d2⟩, -⟩ := (fg_iff d t).1 h
  obtain ⟨a1, a2⟩ := lgb_bd false (d * 100000) (by omega) (by omega)
  obtain ⟨b1, b2⟩ := lgb_bd true (d * 100000) (by omega) (by omega)
  unfold rep
  rw [cd_lit _ _ (by omega), Int.fdiv_eq_ediv_of_nonneg _ (by omega)]
  rcases (show k = 1 ∨ k = 2 ∨ k = 3 by omega) with rfl | rfl | rfl <;> simp only <;> omega
theorem fld_bd (d t : Int) (h : fg d t = true) : -2 ≤ (fld d).1 ∧ (fld d).1 ≤ 1048577 ∧ -1048577 ≤ (fld d).2 ∧ (fld d).2 ≤ 2097153 := by
  obtain ⟨⟨d1, d2⟩, -⟩ := (fg_iff d t).1 h
  obtain ⟨a1, a2⟩ := lgb_bd false (d * 100000) (by omega) (by omega)
  obtain ⟨b1, b2⟩ := lgb_bd true (d * 100000) (by omega) (by omega)
  obtain ⟨p1, p2⟩ := lgb_bd false 314200000 (by omega) (by omega)
  obtain ⟨q1, q2⟩ := lgb_bd true 314200000 (by omega) (by omega)
  unfold fld
  generalize lgb true 314200000 = q at *
  generalize lgb false 314200000 = p at *
  generalize lgb false (d * 100000) = a at *
  generalize lgb true (d * 100000) = b at *
  split
  · simp only; omega
  · simp only; omega
/-- Rough bounds of a position: enough for the arithmetic behind it. -/
theorem psn_bd (s d t : Int) (h : fg d t = true) : -2000000 ≤ (psn s d t).1 ∧ (psn s d t).1 ≤ 3200000 ∧ -2000000 ≤ (psn s d t).2 ∧ (psn s d t).2 ≤ 3200000 := by
  obtain ⟨⟨d1, d2⟩, -⟩ := (fg_iff d t).1 h
  obtain ⟨a1, a2⟩ := lgb_bd false (d * 100000) (by omega) (by omega)
  obtain ⟨b1, b2⟩ := lgb_bd true (d * 100000) (by omega) (by omega)
  have r2 := rep_bd d t 2 h (by omega) (by omega)
  have r3 := rep_bd d t 3 h (by omega) (by omega)
  have f := fld_bd d t h
  unfold psn
  repeat' split
  · omega
  · omega
  · simp only; omega
  · omega
  · rw [cd_lit _ _ (by omega), Int.fdiv_eq_ediv_of_nonneg _ (by omega)]; simp only; omega
  · simp only; omega

/-- What PositionOf answers first: the code. -/
def pcd (s d t : Int) : Int := if fg d t = false then 1 else if sc s = false ∨ (s = 5 ∧ t ≠ 0) then 2 else 0
def poR (s d t : Int) : (Int × Int) × Int := if pcd s d t = 0 then (psn s d t, 0) else ((0, 0), pcd s d t)
theorem pcd_cases (s d t : Int) : (fg d t = false ∧ pcd s d t = 1) ∨ (fg d t = true ∧ sc s = false ∧ pcd s d t = 2) ∨ (fg d t = true ∧ s = 5 ∧ t ≠ 0 ∧ pcd s d t = 2) ∨ (fg d t = true ∧ sc s = true ∧ ¬ (s = 5 ∧ t ≠ 0) ∧ pcd s d t = 0) := by
  unfold pcd
  cases h1 : fg d t
  · simp
  · cases h2 : sc s
    · simp
    · by_cases h3 : s = 5 ∧ t ≠ 0
      · obtain ⟨rfl, h4⟩ := h3
        simp [h4]
      · simp [h3]
theorem poR_ok (s d t : Int) (h : pcd s d t = 0) : poR s d t = (psn s d t, 0) := if_pos h
theorem poR_no (s d t : Int) (h : pcd s d t ≠ 0) : poR s d t = ((0, 0), pcd s d t) := if_neg h

def ln (l : Int) : Bool := decide (1 ≤ l ∧ l ≤ 100000)
theorem ln_iff (l : Int) : ln l = true ↔ (1 ≤ l ∧ l ≤ 100000) := by unfold ln; simp
theorem ln_tf (l : Int) : ln l = true ∨ ln l = false := by cases ln l <;> simp
def plc (a b l : Int) : Int × Int := ((a * l).fdiv 1048576, cd (b * l) 1048576)
/-- The place of a figure: its code, its interval. -/
def qcd (s d t l : Int) : Int := if pcd s d t ≠ 0 then pcd s d t else if ln l = false then 2 else 0
def plR (s d t l : Int) : (Int × Int) × Int := if qcd s d t l = 0 then (plc (psn s d t).1 (psn s d t).2 l, 0) else ((0, 0), qcd s d t l)
theorem plR_ok (s d t l : Int) (h : qcd s d t l = 0) : plR s d t l = (plc (psn s d t).1 (psn s d t).2 l, 0) := if_pos h
theorem plR_no (s d t l : Int) (h : qcd s d t l ≠ 0) : plR s d t l = ((0, 0), qcd s d t l) := if_neg h
theorem qcd_cases (s d t l : Int) : (pcd s d t = 1 ∧ fg d t = false ∧ qcd s d t l = 1) ∨ (pcd s d t = 2 ∧ fg d t = true ∧ qcd s d t l = 2) ∨ (pcd s d t = 0 ∧ fg d t = true ∧ ln l = false ∧ qcd s d t l = 2) ∨ (pcd s d t = 0 ∧ fg d t = true ∧ ln l = true ∧ qcd s d t l = 0) := by
  unfold qcd
  rcases pcd_cases s d t with ⟨h, e⟩ | ⟨h, -, e⟩ | ⟨h, -, -, e⟩ | ⟨h, -, -, e⟩
  · simp [e, h]
  · simp [e, h]
  · simp [e, h]
  · cases hl : ln l <;> simp [e, h]
theorem mul_len (a l : Int) (a1 : -2000000 ≤ a) (a2 : a ≤ 3200000) (l1 : 1 ≤ l) (l2 : l ≤ 100000) : -200000000000 ≤ a * l ∧ a * l ≤ 320000000000 := by
  constructor
  · have h1 := Int.mul_le_mul_of_nonneg_right a1 (show 0 ≤ l by omega)
    omega
  · have h1 := Int.mul_le_mul_of_nonneg_right a2 (show 0 ≤ l by omega)
    omega
theorem plc_bd (a b l : Int) (a1 : -2000000 ≤ a) (a2 : a ≤ 3200000) (b1 : -2000000 ≤ b) (b2 : b ≤ 3200000) (l1 : 1 ≤ l) (l2 : l ≤ 100000) : -200000 ≤ (plc a b l).1 ∧ (plc a b l).1 ≤ 310000 ∧ -200000 ≤ (plc a b l).2 ∧ (plc a b l).2 ≤ 310000 := by
  have p := mul_len a l a1 a2 l1 l2
  have q := mul_len b l b1 b2 l1 l2
  unfold plc
  rw [cd_lit _ _ (by omega), Int.fdiv_eq_ediv_of_nonneg _ (by omega)]
  simp only
  omega

end Go.Proofs.YtphebmbapllinaaDoor

/- Chapter 5: positions and places are intervals; what a distance is. -/
namespace Go.Proofs.YtphebmbapllinaaDoor
set_option linter.unusedVariables false
set_option linter.unusedSimpArgs false

theorem lgb_le (x : Int) (h1 : 100000000 ≤ x) (h2 : x ≤ 999999999) : lgb false x ≤ lgb true x := by
  obtain ⟨n, rfl⟩ := Int.eq_ofNat_of_zero_le (show 0 ≤ x by omega)
  exact (lgb_width n (by omega) (by omega)).1
theorem fdiv_le_cd {a b k : Int} (h : a ≤ b) (hk : 1 ≤ k) : a.fdiv k ≤ cd b k := by
  rw [cd_lit _ _ (by omega), Int.fdiv_eq_ediv_of_nonneg _ (by omega)]
  have h1 := Int.mul_ediv_add_emod a k
  have h2 := Int.mul_ediv_add_emod (-b) k
  have h3 := Int.emod_nonneg a (show k ≠ 0 by omega)
  have h4 := Int.emod_nonneg (-b) (show k ≠ 0 by omega)
  by_cases hc : a / k ≤ -(-b / k)
  · exact hc
  · exfalso
    have h5 : 1 ≤ a / k + (-b / k) := by omega
    have h6 := Int.mul_le_mul_of_nonneg_left h5 (show 0 ≤ k by omega)
    rw [Int.mul_add] at h6
    omega
theorem rep_le (d t k : Int) (h : fg d t = true) (hk : 1 ≤ k) : (rep d t k).1 ≤ (rep d t k).2 := by
  obtain ⟨⟨d1, d2⟩, -⟩ := (fg_iff d t).1 h
  have := lgb_le (d * 100000) (by omega) (by omega)
  unfold rep
  exact fdiv_le_cd (by omega) hk
theorem fld_le (d t : Int) (h : fg d t = true) : (fld d).1 ≤ (fld d).2 := by
  obtain ⟨⟨d1, d2⟩, -⟩ := (fg_iff d t).1 h
  have h1 := lgb_le (d * 100000) (by omega) (by omega)
  have h2 := lgb_le 314200000 (by omega) (by omega)
  unfold fld
  generalize lgb true 314200000 = q at *
  generalize lgb false 314200000 = p at *
  generalize lgb false (d * 100000) = a at *
  generalize lgb true (d * 100000) = b at *
  split <;> simp only <;> omega
theorem psn_le (s d t : Int) (h : fg d t = true) : (psn s d t).1 ≤ (psn s d t).2 := by
  obtain ⟨⟨d1, d2⟩, -⟩ := (fg_iff d t).1 h
  have h1 := lgb_le (d * 100000) (by omega) (by omega)
  unfold psn
  repeat' split
  · exact rep_le d t 2 h (by omega)
  · exact rep_le d t 3 h (by omega)
  · simp only; omega
  · exact fld_le d t h
  · exact fdiv_le_cd (by omega) (by omega)
  · simp only; omega
theorem plc_le (a b l : Int) (h : a ≤ b) (h0 : 0 ≤ l) : (plc a b l).1 ≤ (plc a b l).2 := by
  unfold plc
  exact fdiv_le_cd (Int.mul_le_mul_of_nonneg_right h h0) (by omega)

/-- The place of a figure, as an interval. -/
def pl (s d t l : Int) : Int × Int := plc (psn s d t).1 (psn s d t).2 l
theorem pl_bd (s d t l : Int) (h : fg d t = true) (hl : ln l = true) : -200000 ≤ (pl s d t l).1 ∧ (pl s d t l).1 ≤ 310000 ∧ -200000 ≤ (pl s d t l).2 ∧ (pl s d t l).2 ≤ 310000 ∧ (pl s d t l).1 ≤ (pl s d t l).2 := by
  obtain ⟨p1, p2, p3, p4⟩ := psn_bd s d t h
  obtain ⟨l1, l2⟩ := (ln_iff l).1 hl
  obtain ⟨q1, q2, q3, q4⟩ := plc_bd _ _ l p1 p2 p3 p4 l1 l2
  exact ⟨q1, q2, q3, q4, plc_le _ _ l (psn_le s d t h) (by omega)⟩
theorem plR_pl (s d t l : Int) (h : qcd s d t l = 0) : plR s d t l = (pl s d t l, 0) := plR_ok s d t l h

/-- What DistanceBetween answers. -/
def dbR (s a t b u l : Int) : (Int × Int) × Int :=
  if (fg a t && fg b u) = false then ((0, 0), 1) else if qcd s a t l ≠ 0 ∨ qcd s b u l ≠ 0 then ((0, 0), 2)
  else (((pl s b u l).1 - (pl s a t l).2, (pl s b u l).2 - (pl s a t l).1), 0)
theorem dbR_in (s a t b u l : Int) (h : (fg a t && fg b u) = false) : dbR s a t b u l = ((0, 0), 1) := if_pos h
theorem dbR_rg (s a t b u l : Int) (h : (fg a t && fg b u) = true) (h1 : qcd s a t l ≠ 0 ∨ qcd s b u l ≠ 0) : dbR s a t b u l = ((0, 0), 2) := by
  unfold dbR; rw [if_neg (by rw [h]; simp), if_pos h1]
theorem dbR_ok (s a t b u l : Int) (h : (fg a t && fg b u) = true) (h1 : qcd s a t l = 0) (h2 : qcd s b u l = 0) : dbR s a t b u l = (((pl s b u l).1 - (pl s a t l).2, (pl s b u l).2 - (pl s a t l).1), 0) := by
  unfold dbR; rw [if_neg (by rw [h]; simp), if_neg (by omega)]
theorem db_cases (s a t b u l : Int) : ((fg a t && fg b u) = false ∧ (fg a t = false ∨ (fg a t = true ∧ fg b u = false))) ∨
    ((fg a t && fg b u) = true ∧ fg a t = true ∧ fg b u = true ∧ qcd s a t l = 2 ∧ (qcd s b u l = 2 ∨ qcd s b u l = 0)) ∨
    ((fg a t && fg b u) = true ∧ fg a t = true ∧ fg b u = true ∧ qcd s a t l = 0 ∧ qcd s b u l = 2) ∨
    ((fg a t && fg b u) = true ∧ fg a t = true ∧ fg b u = true ∧ qcd s a t l = 0 ∧ qcd s b u l = 0 ∧ ln l = true) := by
  cases h1 : fg a t
  · simp
  · cases h2 : fg b u
    · simp
    · rcases qcd_cases s a t l with ⟨-, h, -⟩ | ⟨-, -, e⟩ | ⟨-, -, -, e⟩ | ⟨-, -, hl, e⟩
      · rw [h1] at h; cases h
      all_goals rcases qcd_cases s b u l with ⟨-, h', -⟩ | ⟨-, -, e'⟩ | ⟨-, -, -, e'⟩ | ⟨-, -, hl', e'⟩
      all_goals first
        | (rw [h2] at h'; cases h'; done)
        | simp_all
theorem sub_iv (a b c d : Int) (a1 : -200000 ≤ a) (b2 : b ≤ 310000) (ab : a ≤ b) (c1 : -200000 ≤ c) (d2 : d ≤ 310000) (cd' : c ≤ d) : suR a b c d = ((a - d, b - c), 0) := by
  have e1 : iv a b = true := (iv_iff a b).2 ⟨by omega, by omega, ab⟩
  have e2 : iv c d = true := (iv_iff c d).2 ⟨by omega, by omega, cd'⟩
  rw [suR_ok a b c d (by rw [e1, e2]; rfl), rsi_ok]
  exact (iv_iff _ _).2 ⟨by omega, by omega, by omega⟩
theorem db_sub (s a t b u l : Int) (h1 : fg a t = true) (h2 : fg b u = true) (hl : ln l = true) :
    suR (pl s b u l).1 (pl s b u l).2 (pl s a t l).1 (pl s a t l).2 = (((pl s b u l).1 - (pl s a t l).2, (pl s b u l).2 - (pl s a t l).1), 0) := by
  obtain ⟨p1, p2, p3, p4, p5⟩ := pl_bd s a t l h1 hl
  obtain ⟨q1, q2, q3, q4, q5⟩ := pl_bd s b u l h2 hl
  exact sub_iv _ _ _ _ q1 q4 q5 p1 p4 p5
end Go.Proofs.YtphebmbapllinaaDoor

/- Chapter 5: greater figures stand farther to the right; places lie on the rule. -/
namespace Go.Proofs.YtphebmbapllinaaDoor
set_option linter.unusedVariables false
set_option linter.unusedSimpArgs false

theorem half_num (d : Nat) (h : d ≤ 9998) : 1000 * (100000000 * (d * d)) ≤ 97902850 * ((d + 524288) * (d + 524288)) := by
  have h1 : d * d ≤ 9998 * 9998 := Nat.mul_le_mul h h
  have h2 : 524288 * 524288 ≤ (d + 524288) * (d + 524288) := Nat.mul_le_mul (by omega) (by omega)
  calc 1000 * (100000000 * (d * d)) ≤ 1000 * (100000000 * (9998 * 9998)) := Nat.mul_le_mul_left _ (Nat.mul_le_mul_left _ h1)
    _ ≤ 97902850 * (524288 * 524288) := by decide
    _ ≤ _ := Nat.mul_le_mul_left _ h2
/-- Half a decade, in units. -/
def NH : Nat := 2 ^ 19
theorem NH_eq : NH = 524288 := by decide
theorem NN_half : NN = 2 * NH := by decide
/-- Neighbours are three units apart at least. -/
theorem lgb_three (d : Nat) (h1 : 1000 ≤ d) (h2 : d ≤ 9998) : lgb false (((d * 100000 : Nat) : Int)) + 3 ≤ lgb false ((((d + 1) * 100000 : Nat) : Int)) := by
  obtain ⟨n, f, b1, b2⟩ := lgb_low (d * 100000) (dig_bd d (by omega) (by omega)).1 (dig_bd d (by omega) (by omega)).2
  obtain ⟨m, e, a1, a2⟩ := lgb_low ((d + 1) * 100000) (dig_bd (d + 1) (by omega) (by omega)).1 (dig_bd (d + 1) (by omega) (by omega)).2
  have hb := bern2 d NH
  have p1 : d ^ NN = d ^ NH * d ^ NH := by rw [NN_half, pow_two_mul]
  have p2 : (d + 1) ^ NN = (d + 1) ^ NH * (d + 1) ^ NH := by rw [NN_half, pow_two_mul]
  have hz : 0 < 100000000 ^ NN := Nat.pow_pos (by omega)
  rw [e, f]
  rw [Nat.mul_pow, p1] at b1
  rw [Nat.mul_pow, p2] at a2
  clear p1 p2 b2 a1 e f
  have key : 10 ^ n * (97902850 * ((d + NH) * (d + NH))) < 10 ^ (m + 1) * (100000000 * (d * d)) := by
    rw [Nat.pow_succ]
    generalize (d + 1) ^ NH = g at *
    generalize d ^ NH = u at *
    generalize 100000 ^ NN = v at *
    generalize 100000000 ^ NN = z at *
    refine Nat.lt_of_mul_lt_mul_right (a := z) ?_
    calc 10 ^ n * (97902850 * ((d + NH) * (d + NH))) * z = (10 ^ n * z) * (97902850 * ((d + NH) * (d + NH))) := by ac_rfl
      _ ≤ (u * u * v) * (97902850 * ((d + NH) * (d + NH))) := Nat.mul_le_mul_right _ b1
      _ = (u * (d + NH)) * (u * (d + NH)) * (v * 97902850) := by ac_rfl
      _ ≤ (g * d) * (g * d) * (v * 97902850) := Nat.mul_le_mul_right _ (Nat.mul_le_mul hb hb)
      _ = (g * g * v * 97902850) * (d * d) := by ac_rfl
      _ < (10 ^ m * 10 * z * 100000000) * (d * d) := Nat.mul_lt_mul_of_pos_right a2 (Nat.mul_pos (by omega) (by omega))
      _ = 10 ^ m * 10 * (100000000 * (d * d)) * z := by ac_rfl
  rw [NH_eq] at key
  have fin : n + 3 < m + 1 := by
    refine pow_lt (Nat.lt_of_mul_lt_mul_right (a := 100000000 * (d * d)) ?_)
    calc 10 ^ (n + 3) * (100000000 * (d * d)) = 10 ^ n * (1000 * (100000000 * (d * d))) := by rw [Nat.pow_add, Nat.mul_assoc]
      _ ≤ 10 ^ n * (97902850 * ((d + 524288) * (d + 524288))) := Nat.mul_le_mul_left _ (half_num d h2)
      _ < _ := key
  omega
theorem lg3 (d : Int) (h1 : 1000 ≤ d) (h2 : d ≤ 9998) : lgb false (d * 100000) + 3 ≤ lgb false ((d + 1) * 100000) ∧ lgb true (d * 100000) + 1 < lgb false ((d + 1) * 100000) := by
  obtain ⟨n, rfl⟩ := Int.eq_ofNat_of_zero_le (show 0 ≤ d by omega)
  have a := lgb_three n (by omega) (by omega)
  have b := lgb_next n (by omega) (by omega)
  have e1 : ((n * 100000 : Nat) : Int) = (n : Int) * 100000 := by simp
  have e2 : (((n + 1) * 100000 : Nat) : Int) = ((n : Int) + 1) * 100000 := by simp
  rw [e1, e2] at a b
  exact ⟨a, b⟩
theorem lg_mono (d : Int) (h1 : 1000 ≤ d) : ∀ k : Nat, d + k ≤ 9999 → lgb false (d * 100000) ≤ lgb false ((d + k) * 100000)
  | 0, _ => by simp
  | k + 1, h => by
    have ih := lg_mono d h1 k (by omega)
    have s := (lg3 (d + k) (by omega) (by omega)).1
    have e : d + (k : Int) + 1 = d + ((k + 1 : Nat) : Int) := by omega
    rw [e] at s
    omega
theorem lg_le (d e : Int) (h1 : 1000 ≤ d) (h : d ≤ e) (h2 : e ≤ 9999) : lgb false (d * 100000) ≤ lgb false (e * 100000) := by
  have := lg_mono d h1 (e - d).toNat (by omega)
  rwa [show d + ((e - d).toNat : Int) = e by omega] at this
theorem lg_wd (d : Int) (h1 : 1000 ≤ d) (h2 : d ≤ 9999) : lgb false (d * 100000) ≤ lgb true (d * 100000) ∧ lgb true (d * 100000) ≤ lgb false (d * 100000) + 1 := by
  obtain ⟨n, rfl⟩ := Int.eq_ofNat_of_zero_le (show 0 ≤ d by omega)
  have e1 : (n : Int) * 100000 = ((n * 100000 : Nat) : Int) := by simp
  rw [e1]
  exact lgb_width (n * 100000) (dig_bd n (by omega) (by omega)).1 (dig_bd n (by omega) (by omega)).2
theorem fdiv_step (a b k : Int) (h : a + 3 ≤ b) (k1 : 1 ≤ k) (k2 : k ≤ 3) : a.fdiv k < b.fdiv k := by
  rw [Int.fdiv_eq_ediv_of_nonneg _ (by omega), Int.fdiv_eq_ediv_of_nonneg _ (by omega)]
  rcases (show k = 1 ∨ k = 2 ∨ k = 3 by omega) with rfl | rfl | rfl <;> omega
theorem fld_next (d : Int) (h1 : 1000 ≤ d) (h2 : d ≤ 9998) (h3 : d ≠ 3142) : (fld d).1 < (fld (d + 1)).1 := by
  have s := (lg3 d h1 h2).1
  have q := lg_wd 3142 (by omega) (by omega)
  have e : (3142 : Int) * 100000 = 314200000 := by decide
  have hm : d ≤ 3141 → lgb false ((d + 1) * 100000) ≤ lgb false 314200000 := fun h => by have := lg_le (d + 1) 3142 (by omega) (by omega) (by omega); rwa [e] at this
  have hM : 3143 ≤ d → lgb true 314200000 + 1 < lgb false (d * 100000) := fun h => by
    have a := (lg3 3142 (by omega) (by omega)).2
    have b := lg_le 3143 d (by omega) h (by omega)
    rw [e] at a
    exact Int.lt_of_lt_of_le a b
  rw [e] at q
  unfold fld
  generalize lgb false ((d + 1) * 100000) = x at *
  generalize lgb true ((d + 1) * 100000) = y at *
  generalize lgb false (d * 100000) = a at *
  generalize lgb true (d * 100000) = b at *
  generalize lgb true 314200000 = u at *
  generalize lgb false 314200000 = v at *
  by_cases c1 : d ≤ 3141
  · have := hm c1
    rw [if_pos (by omega), if_pos (by omega)]
    simp only; omega
  · have := hM (by omega)
    rw [if_neg (by omega), if_neg (by omega)]
    simp only; omega
/-- On a rising scale the next figure stands farther to the right. -/
theorem psn_up (s d t : Int) (h1 : 1000 ≤ d) (h2 : d ≤ 9998) (hs : s ≠ 3) (h4 : ¬ (s = 4 ∧ d = 3142)) : (psn s d t).1 < (psn s (d + 1) t).1 := by
  have a := (lg3 d h1 h2).1
  unfold psn
  rw [if_neg hs, if_neg hs]
  by_cases c1 : s = 1
  · rw [if_pos c1, if_pos c1]
    unfold rep
    exact fdiv_step _ _ 2 (by omega) (by omega) (by omega)
  rw [if_neg c1, if_neg c1]
  by_cases c2 : s = 2
  · rw [if_pos c2, if_pos c2]
    unfold rep
    exact fdiv_step _ _ 3 (by omega) (by omega) (by omega)
  rw [if_neg c2, if_neg c2]
  by_cases c4 : s = 4
  · rw [if_pos c4, if_pos c4]
    exact fld_next d h1 h2 (by omega)
  rw [if_neg c4, if_neg c4]
  by_cases c5 : s = 5
  · rw [if_pos c5, if_pos c5]
    simp only
    rw [Int.fdiv_eq_ediv_of_nonneg _ (by omega), Int.fdiv_eq_ediv_of_nonneg _ (by omega)]
    omega
  rw [if_neg c5, if_neg c5]
  simp only; omega
/-- On the falling scale it stands farther to the left. -/
theorem psn_down (d t : Int) (h1 : 1000 ≤ d) (h2 : d ≤ 9998) : (psn 3 (d + 1) t).1 < (psn 3 d t).1 := by
  have a := (lg3 d h1 h2).2
  have b := (lg_wd (d + 1) (by omega) (by omega)).1
  rw [psn_3, psn_3]
  simp only; omega
/-- The same figure on A and its root on C. -/
theorem psn_root (d t : Int) (h1 : 1000 ≤ d) (h2 : d ≤ 9999) : 2 * (psn 1 d 0).1 ≤ (psn 0 d t).1 ∧ (psn 0 d t).2 ≤ 2 * (psn 1 d 0).2 := by
  rw [psn_1, psn_0]
  unfold rep
  rw [Int.fdiv_eq_ediv_of_nonneg _ (by omega), cd_lit _ _ (by omega)]
  simp only; omega
theorem fld_on (d : Int) (h1 : 1000 ≤ d) (h2 : d ≤ 9999) : -2 ≤ (fld d).1 ∧ (fld d).2 ≤ 1048580 := by
  obtain ⟨a1, a2⟩ := lgb_bd false (d * 100000) (by omega) (by omega)
  obtain ⟨b1, b2⟩ := lgb_bd true (d * 100000) (by omega) (by omega)
  obtain ⟨p1, p2⟩ := lgb_bd false 314200000 (by omega) (by omega)
  obtain ⟨q1, q2⟩ := lgb_bd true 314200000 (by omega) (by omega)
  have w := lg_wd d h1 h2
  have q := lg_wd 3142 (by omega) (by omega)
  rw [show (3142 : Int) * 100000 = 314200000 from by decide] at q
  unfold fld
  generalize lgb true 314200000 = q at *
  generalize lgb false 314200000 = p at *
  generalize lgb false (d * 100000) = a at *
  generalize lgb true (d * 100000) = b at *
  split
  · simp only; omega
  · simp only; omega
/-- Positions lie on the scale. -/
theorem psn_on (s d t : Int) (h : fg d t = true) : -2 ≤ (psn s d t).1 ∧ (psn s d t).2 ≤ 1048580 := by
  obtain ⟨⟨d1, d2⟩, -⟩ := (fg_iff d t).1 h
  obtain ⟨a1, a2⟩ := lgb_bd false (d * 100000) (by omega) (by omega)
  obtain ⟨b1, b2⟩ := lgb_bd true (d * 100000) (by omega) (by omega)
  have r2 := rep_bd d t 2 h (by omega) (by omega)
  have r3 := rep_bd d t 3 h (by omega) (by omega)
  have f := fld_on d d1 d2
  unfold psn
  repeat' split
  · omega
  · omega
  · simp only; omega
  · omega
  · rw [cd_lit _ _ (by omega), Int.fdiv_eq_ediv_of_nonneg _ (by omega)]; simp only; omega
  · simp only; omega
/-- Places lie on the rule. -/
theorem pl_on (s d t l : Int) (h : fg d t = true) (hl : ln l = true) : -1 ≤ (pl s d t l).1 ∧ (pl s d t l).2 ≤ l + 1 ∧ (pl s d t l).1 ≤ (pl s d t l).2 := by
  obtain ⟨l1, l2⟩ := (ln_iff l).1 hl
  obtain ⟨p1, p2⟩ := psn_on s d t h
  refine ⟨?_, ?_, (pl_bd s d t l h hl).2.2.2.2⟩
  · unfold pl plc
    have := Int.mul_le_mul_of_nonneg_right p1 (show 0 ≤ l by omega)
    rw [Int.fdiv_eq_ediv_of_nonneg _ (by omega)]
    simp only; omega
  · unfold pl plc
    have := Int.mul_le_mul_of_nonneg_right p2 (show 0 ≤ l by omega)
    rw [cd_lit _ _ (by omega)]
    simp only; omega
/-- A distance the other way. -/
theorem db_back (s a t b u l : Int) (h : (dbR s a t b u l).2 = 0) : dbR s b u a t l = ((-(dbR s a t b u l).1.2, -(dbR s a t b u l).1.1), 0) := by
  rcases db_cases s a t b u l with ⟨e, -⟩ | ⟨e, -, -, e1, -⟩ | ⟨e, -, -, -, e2⟩ | ⟨e, f1, f2, e1, e2, -⟩
  · rw [dbR_in _ _ _ _ _ _ e] at h; cases h
  · rw [dbR_rg _ _ _ _ _ _ e (.inl (by omega))] at h; cases h
  · rw [dbR_rg _ _ _ _ _ _ e (.inr (by omega))] at h; cases h
  · rw [dbR_ok s a t b u l e e1 e2, dbR_ok s b u a t l (by rw [f1, f2]; rfl) e2 e1]
    simp only
    rw [show (pl s a t l).1 - (pl s b u l).2 = -((pl s b u l).2 - (pl s a t l).1) by omega, show (pl s a t l).2 - (pl s b u l).1 = -((pl s b u l).1 - (pl s a t l).2) by omega]

/-- What the law needs of PositionOf. -/
theorem po_facts (s d t : Int) (h : (poR s d t).2 = 0) : fg d t = true ∧ sc s = true ∧ ¬ (s = 5 ∧ t ≠ 0) := by
  rcases pcd_cases s d t with ⟨-, e⟩ | ⟨-, -, e⟩ | ⟨-, -, -, e⟩ | ⟨h1, h2, h3, -⟩
  · rw [poR_no _ _ _ (by omega)] at h; simp only at h; omega
  · rw [poR_no _ _ _ (by omega)] at h; simp only at h; omega
  · rw [poR_no _ _ _ (by omega)] at h; simp only at h; omega
  · exact ⟨h1, h2, h3⟩
theorem po_of (s d t : Int) (h1 : fg d t = true) (h2 : sc s = true) (h3 : ¬ (s = 5 ∧ t ≠ 0)) : poR s d t = (psn s d t, 0) := by
  rcases pcd_cases s d t with ⟨e, -⟩ | ⟨-, e, -⟩ | ⟨-, e, e', -⟩ | ⟨-, -, -, e⟩
  · rw [h1] at e; cases e
  · rw [h2] at e; cases e
  · exact absurd ⟨e, e'⟩ h3
  · exact poR_ok _ _ _ e
theorem pl_facts (s d t l : Int) (h : (plR s d t l).2 = 0) : -1 ≤ (plR s d t l).1.1 ∧ (plR s d t l).1.2 ≤ l + 1 ∧ (plR s d t l).1.1 ≤ (plR s d t l).1.2 := by
  rcases qcd_cases s d t l with ⟨-, -, e⟩ | ⟨-, -, e⟩ | ⟨-, -, -, e⟩ | ⟨-, h1, h2, e⟩
  · rw [plR_no _ _ _ _ (by omega)] at h; simp only at h; omega
  · rw [plR_no _ _ _ _ (by omega)] at h; simp only at h; omega
  · rw [plR_no _ _ _ _ (by omega)] at h; simp only at h; omega
  · rw [plR_pl s d t l e]
    exact pl_on s d t l h1 h2
end Go.Proofs.YtphebmbapllinaaDoor

/- Chapter 6: readings of a point, as functions of numbers. -/
namespace Go.Proofs.YtphebmbapllinaaDoor
set_option linter.unusedVariables false
set_option linter.unusedSimpArgs false

theorem all_succ {P : Nat → Prop} {n : Nat} (h : ∀ k, k < n → P k) (hn : P n) : ∀ k, k < n + 1 → P k := by
  intro k hk
  rcases Nat.lt_succ_iff_lt_or_eq.1 hk with h3 | rfl
  · exact h k h3
  · exact hn
/-- The least, the greatest and the number of those below n for which q holds. -/
def fstQ (q : Nat → Bool) : Nat → Int
  | 0 => -1
  | n + 1 => if fstQ q n < 0 ∧ q n = true then n else fstQ q n
def lstQ (q : Nat → Bool) : Nat → Int
  | 0 => -1
  | n + 1 => if q n = true then n else lstQ q n
def cntQ (q : Nat → Bool) : Nat → Int
  | 0 => 0
  | n + 1 => if q n = true then cntQ q n + 1 else cntQ q n
theorem fstQ_spec (q : Nat → Bool) : ∀ n : Nat, (fstQ q n = -1 ∧ ∀ k, k < n → q k = false) ∨ (∃ k : Nat, k < n ∧ fstQ q n = k ∧ q k = true ∧ ∀ j, j < k → q j = false)
  | 0 => .inl ⟨rfl, fun k h => absurd h (by omega)⟩
  | n + 1 => by
    unfold fstQ
    rcases fstQ_spec q n with ⟨e, h⟩ | ⟨k, hk, e, h1, h2⟩
    · rw [e]
      cases hq : q n
      · left
        rw [if_neg (by simp)]
        exact ⟨rfl, all_succ h hq⟩
      · right
        rw [if_pos ⟨by omega, rfl⟩]
        exact ⟨n, by omega, rfl, hq, h⟩
    · right
      rw [if_neg (by omega)]
      exact ⟨k, by omega, e, h1, h2⟩
theorem lstQ_spec (q : Nat → Bool) : ∀ n : Nat, (lstQ q n = -1 ∧ ∀ k, k < n → q k = false) ∨ (∃ k : Nat, k < n ∧ lstQ q n = k ∧ q k = true ∧ ∀ j, k < j → j < n → q j = false)
  | 0 => .inl ⟨rfl, fun k h => absurd h (by omega)⟩
  | n + 1 => by
    unfold lstQ
    cases hq : q n
    · rw [if_neg (by simp)]
      rcases lstQ_spec q n with ⟨e, h⟩ | ⟨k, hk, e, h1, h2⟩
      · left
        exact ⟨e, all_succ h hq⟩
      · right
        exact ⟨k, by omega, e, h1, fun j hj hn => (all_succ (P := fun j => k < j → q j = false) (fun j a b => h2 j b a) (fun _ => hq)) j hn hj⟩
    · right
      rw [if_pos rfl]
      exact ⟨n, by omega, rfl, hq, fun j h1 h2 => absurd h1 (by omega)⟩
theorem cntQ_bd (q : Nat → Bool) : ∀ n : Nat, 0 ≤ cntQ q n ∧ cntQ q n ≤ n
  | 0 => by simp [cntQ]
  | n + 1 => by
    have := cntQ_bd q n
    unfold cntQ
    split <;> omega
theorem cntQ_zero (q : Nat → Bool) : ∀ n : Nat, (cntQ q n = 0 ∧ ∀ k, k < n → q k = false) ∨ (0 < cntQ q n ∧ ∃ k, k < n ∧ q k = true)
  | 0 => .inl ⟨rfl, fun k h => absurd h (by omega)⟩
  | n + 1 => by
    have b := cntQ_bd q n
    unfold cntQ
    cases hq : q n
    · rw [if_neg (by simp)]
      rcases cntQ_zero q n with ⟨e, h⟩ | ⟨e, k, hk, h⟩
      · exact .inl ⟨e, all_succ h hq⟩
      · exact .inr ⟨e, k, by omega, h⟩
    · rw [if_pos rfl]
      exact .inr ⟨by omega, n, by omega, hq⟩
theorem fstQ_hit (q : Nat → Bool) (n k : Nat) (hk : k < n) (h1 : q k = true) (h2 : ∀ j, j < k → q j = false) : fstQ q n = k := by
  rcases fstQ_spec q n with ⟨-, h⟩ | ⟨m, hm, e, h3, h4⟩
  · rw [h k hk] at h1; cases h1
  · rcases Nat.lt_trichotomy k m with h | rfl | h
    · rw [h4 k h] at h1; cases h1
    · exact e
    · rw [h2 m h] at h3; cases h3
theorem fstQ_none (q : Nat → Bool) (n : Nat) (h : ∀ j, j < n → q j = false) : fstQ q n = -1 := by
  rcases fstQ_spec q n with ⟨e, -⟩ | ⟨m, hm, e, h3, h4⟩
  · exact e
  · rw [h m hm] at h3; cases h3
theorem lstQ_hit (q : Nat → Bool) (n k : Nat) (hk : k < n) (h1 : q k = true) (h2 : ∀ j, k < j → j < n → q j = false) : lstQ q n = k := by
  rcases lstQ_spec q n with ⟨-, h⟩ | ⟨m, hm, e, h3, h4⟩
  · rw [h k hk] at h1; cases h1
  · rcases Nat.lt_trichotomy k m with h | rfl | h
    · rw [h2 m h hm] at h3; cases h3
    · exact e
    · rw [h4 k h hk] at h1; cases h1
theorem lstQ_none (q : Nat → Bool) (n : Nat) (h : ∀ j, j < n → q j = false) : lstQ q n = -1 := by
  rcases lstQ_spec q n with ⟨e, -⟩ | ⟨m, hm, e, h3, h4⟩
  · exact e
  · rw [h m hm] at h3; cases h3
/-- All three together. -/
theorem none_or (q : Nat → Bool) (n : Nat) : (fstQ q n = -1 ∧ lstQ q n = -1 ∧ cntQ q n = 0) ∨ (0 ≤ fstQ q n ∧ fstQ q n ≤ lstQ q n ∧ lstQ q n < n ∧ 0 < cntQ q n) := by
  rcases cntQ_zero q n with ⟨e, h⟩ | ⟨e, k, hk, h⟩
  · exact .inl ⟨fstQ_none q n h, lstQ_none q n h, e⟩
  · right
    rcases fstQ_spec q n with ⟨-, h'⟩ | ⟨m, hm, em, h3, h4⟩
    · rw [h' k hk] at h; cases h
    · rcases lstQ_spec q n with ⟨-, h'⟩ | ⟨l, hl, el, h5, h6⟩
      · rw [h' k hk] at h; cases h
      · rw [em, el]
        refine ⟨by omega, ?_, by omega, e⟩
        rcases Nat.lt_or_ge l m with hlt | hge
        · rw [h4 l hlt] at h5; cases h5
        · omega

/-- The place of the least value, and that value. -/
def bstQ (g : Nat → Int) : Nat → Int × Int
  | 0 => (0, -1)
  | n + 1 => if (bstQ g n).2 < 0 ∨ g n < (bstQ g n).2 then ((n : Int), g n) else bstQ g n
theorem bstQ_spec (g : Nat → Int) (hg : ∀ k, 0 ≤ g k) : ∀ n : Nat, (n = 0 ∧ bstQ g n = (0, -1)) ∨ (∃ k : Nat, k < n ∧ bstQ g n = ((k : Int), g k) ∧ (∀ j, j < n → g k ≤ g j) ∧ ∀ j, j < k → g k < g j)
  | 0 => .inl ⟨rfl, rfl⟩
  | n + 1 => by
    right
    unfold bstQ
    rcases bstQ_spec g hg n with ⟨rfl, e⟩ | ⟨k, hk, e, h1, h2⟩
    · rw [e]
      rw [if_pos (.inl (by simp))]
      exact ⟨0, by omega, rfl, fun j hj => (show j = 0 by omega) ▸ Int.le_refl _, fun j hj => absurd hj (by omega)⟩
    · rw [e]
      have h0 := hg k
      by_cases hlt : g n < g k
      · rw [if_pos (.inr hlt)]
        refine ⟨n, by omega, rfl, fun j hj => ?_, fun j hj => ?_⟩
        · rcases Nat.lt_succ_iff_lt_or_eq.1 hj with h3 | rfl
          · exact Int.le_trans (Int.le_of_lt hlt) (h1 j h3)
          · exact Int.le_refl _
        · exact Int.lt_of_lt_of_le hlt (h1 j hj)
      · rw [if_neg (by simp only; omega)]
        refine ⟨k, by omega, rfl, fun j hj => ?_, h2⟩
        rcases Nat.lt_succ_iff_lt_or_eq.1 hj with h3 | rfl
        · exact h1 j h3
        · omega
theorem bstQ_hit (g : Nat → Int) (hg : ∀ k, 0 ≤ g k) (n k : Nat) (hk : k < n) (h1 : ∀ j, j < n → g k ≤ g j) (h2 : ∀ j, j < k → g k < g j) : bstQ g n = ((k : Int), g k) := by
  rcases bstQ_spec g hg n with ⟨rfl, -⟩ | ⟨m, hm, e, h3, h4⟩
  · omega
  · rcases Nat.lt_trichotomy k m with h | rfl | h
    · have := h4 k h; have := h1 m hm; omega
    · exact e
    · have := h2 m h; have := h3 k hk; omega

/-- The figure of a scale with a number. -/
def atD (n : Nat) : Int := 1000 + 10 * ((n : Int) % 900)
def atT (n : Nat) : Int := (n : Int) / 900
theorem at_fg (n : Nat) (h : n < 2700) : fg (atD n) (atT n) = true := by
  refine (fg_iff _ _).2 ?_
  unfold atD atT
  omega
theorem at_bd (n : Nat) (h : n < 2700) : 1000 ≤ atD n ∧ atD n ≤ 9990 ∧ 0 ≤ atT n ∧ atT n ≤ 2 := by
  unfold atD atT
  omega
/-- How many figures a scale has. -/
def figs (s : Int) : Nat := (900 * dec s).toNat
theorem dec_bd (s : Int) : 1 ≤ dec s ∧ dec s ≤ 3 := by
  unfold dec
  split
  · omega
  · split <;> omega
theorem figs_is (s : Int) : ((figs s : Nat) : Int) = 900 * dec s := by
  have := dec_bd s
  unfold figs
  omega
theorem figs_bd (s : Int) : 900 ≤ figs s ∧ figs s ≤ 2700 := by
  have := dec_bd s
  have := figs_is s
  omega
theorem at_tens (s : Int) (n : Nat) (h : n < figs s) : 0 ≤ atT n ∧ atT n < dec s := by
  have := dec_bd s
  have := figs_is s
  unfold atT
  omega

/-- A figure may be at a point. -/
def may (s d t l p e : Int) : Bool := decide ((pl s d t l).1 - e ≤ p ∧ p ≤ (pl s d t l).2 + e)
theorem may_iff (s d t l p e : Int) : may s d t l p e = true ↔ ((pl s d t l).1 - e ≤ p ∧ p ≤ (pl s d t l).2 + e) := by unfold may; simp
def mayN (s l p e : Int) (n : Nat) : Bool := may s (atD n) (atT n) l p e
/-- Scale, length, point and eye are in their ranges. -/
def ok6 (s l p e : Int) : Bool := (sc s && ln l) && (decide (0 ≤ p ∧ p ≤ l) && decide (0 ≤ e ∧ e ≤ 200))
theorem ok6_iff (s l p e : Int) : ok6 s l p e = true ↔ (sc s = true ∧ ln l = true ∧ (0 ≤ p ∧ p ≤ l) ∧ (0 ≤ e ∧ e ≤ 200)) := by
  unfold ok6; simp [and_assoc]
theorem ok6_tf (s l p e : Int) : ok6 s l p e = true ∨ ok6 s l p e = false := by cases ok6 s l p e <;> simp

/-- What MayBeAt answers. -/
def mbR (s d t l p e : Int) : Bool × Int := if fg d t = false then (false, 1) else if ok6 s l p e = false ∨ (s = 5 ∧ t ≠ 0) then (false, 2) else (may s d t l p e, 0)
theorem mbR_in (s d t l p e : Int) (h : fg d t = false) : mbR s d t l p e = (false, 1) := if_pos h
theorem mbR_rg (s d t l p e : Int) (h : fg d t = true) (h1 : ok6 s l p e = false ∨ (s = 5 ∧ t ≠ 0)) : mbR s d t l p e = (false, 2) := by unfold mbR; rw [if_neg (by rw [h]; simp), if_pos h1]
theorem mbR_ok (s d t l p e : Int) (h : fg d t = true) (h1 : ok6 s l p e = true) (h2 : ¬ (s = 5 ∧ t ≠ 0)) : mbR s d t l p e = (may s d t l p e, 0) := by unfold mbR; rw [if_neg (by rw [h]; simp), if_neg (by rw [h1]; simpa using h2)]

/-- The numbers of the first, the last and the best reading, and how many there are. -/
def fstN (s l p e : Int) : Int := fstQ (mayN s l p e) (figs s)
def lstN (s l p e : Int) : Int := lstQ (mayN s l p e) (figs s)
def cntN (s l p e : Int) : Int := cntQ (mayN s l p e) (figs s)
theorem rd_none_or (s l p e : Int) : (fstN s l p e = -1 ∧ lstN s l p e = -1 ∧ cntN s l p e = 0) ∨ (0 ≤ fstN s l p e ∧ fstN s l p e ≤ lstN s l p e ∧ lstN s l p e < 2700 ∧ 0 < cntN s l p e) := by
  have := figs_bd s
  rcases none_or (mayN s l p e) (figs s) with h | ⟨h1, h2, h3, h4⟩
  · exact .inl h
  · exact .inr ⟨h1, h2, by unfold lstN; omega, h4⟩
def rdR (ok : Bool) (n : Int) : (Int × Int) × Int := if ok = false then ((0, 0), 2) else if n < 0 then ((0, 0), 4) else ((atD n.toNat, atT n.toNat), 0)
theorem rdR_rg (ok : Bool) (n : Int) (h : ok = false) : rdR ok n = ((0, 0), 2) := if_pos h
theorem rdR_no (ok : Bool) (n : Int) (h : ok = true) (h1 : n < 0) : rdR ok n = ((0, 0), 4) := by unfold rdR; rw [if_neg (by rw [h]; simp), if_pos h1]
theorem rdR_ok (ok : Bool) (n : Int) (h : ok = true) (h1 : ¬ n < 0) : rdR ok n = ((atD n.toNat, atT n.toNat), 0) := by unfold rdR; rw [if_neg (by rw [h]; simp), if_neg h1]
def frR (s l p e : Int) : (Int × Int) × Int := rdR (ok6 s l p e) (fstN s l p e)
def lrR (s l p e : Int) : (Int × Int) × Int := rdR (ok6 s l p e) (lstN s l p e)
def crR (s l p e : Int) : Int × Int := if ok6 s l p e = false then (0, 2) else (cntN s l p e, 0)
theorem crR_rg (s l p e : Int) (h : ok6 s l p e = false) : crR s l p e = (0, 2) := if_pos h
theorem crR_ok (s l p e : Int) (h : ok6 s l p e = true) : crR s l p e = (cntN s l p e, 0) := if_neg (by rw [h]; simp)

/-- How far (doubled) a figure stands from a point. -/
def awy (s l p : Int) (n : Nat) : Int := ((pl s (atD n) (atT n) l).1 + (pl s (atD n) (atT n) l).2 - 2 * p).natAbs
theorem awy_nn (s l p : Int) (n : Nat) : 0 ≤ awy s l p n := by unfold awy; omega
def bstN (s l p : Int) : Int := (bstQ (awy s l p) (figs s)).1
def brR (s l p : Int) : (Int × Int) × Int := if ok6 s l p 0 = false then ((0, 0), 2) else ((atD (bstN s l p).toNat, atT (bstN s l p).toNat), 0)
theorem brR_rg (s l p : Int) (h : ok6 s l p 0 = false) : brR s l p = ((0, 0), 2) := if_pos h
theorem brR_ok (s l p : Int) (h : ok6 s l p 0 = true) : brR s l p = ((atD (bstN s l p).toNat, atT (bstN s l p).toNat), 0) := if_neg (by rw [h]; simp)
theorem bstN_spec (s l p : Int) : ∃ k : Nat, k < figs s ∧ bstN s l p = k ∧ (∀ j, j < figs s → awy s l p k ≤ awy s l p j) ∧ ∀ j, j < k → awy s l p k < awy s l p j := by
  have := figs_bd s
  rcases bstQ_spec (awy s l p) (awy_nn s l p) (figs s) with ⟨h, -⟩ | ⟨k, hk, e, h1, h2⟩
  · omega
  · exact ⟨k, hk, by unfold bstN; rw [e], h1, h2⟩

/-- The error of a reading. -/
def rrR (s l p e : Int) : Int × Int := if ok6 s l p e = false then (0, 2) else if fstN s l p e < 0 then (0, 4) else reR (atD (lstN s l p e).toNat) (atT (lstN s l p e).toNat) (atD (fstN s l p e).toNat) (atT (fstN s l p e).toNat)
theorem rrR_rg (s l p e : Int) (h : ok6 s l p e = false) : rrR s l p e = (0, 2) := if_pos h
theorem rrR_no (s l p e : Int) (h : ok6 s l p e = true) (h1 : fstN s l p e < 0) : rrR s l p e = (0, 4) := by unfold rrR; rw [if_neg (by rw [h]; simp), if_pos h1]
theorem rrR_ok (s l p e : Int) (h : ok6 s l p e = true) (h1 : ¬ fstN s l p e < 0) : rrR s l p e = reR (atD (lstN s l p e).toNat) (atT (lstN s l p e).toNat) (atD (fstN s l p e).toNat) (atT (fstN s l p e).toNat) := by
  unfold rrR; rw [if_neg (by rw [h]; simp), if_neg h1]

/-- Two figures are apart on a rule of some length. -/
def apt (s a t b u l e : Int) : Bool := decide ((pl s b u l).2 + e ≤ (pl s a t l).1 ∨ (pl s a t l).2 + e ≤ (pl s b u l).1)
theorem apt_iff (s a t b u l e : Int) : apt s a t b u l e = true ↔ ((pl s b u l).2 + e ≤ (pl s a t l).1 ∨ (pl s a t l).2 + e ≤ (pl s b u l).1) := by unfold apt; simp
/-- The number (from 0) of the first length at which they are. -/
def ndN (s a t b u e : Int) : Int := fstQ (fun i => apt s a t b u (100 * ((i : Int) + 1)) e) 1000
/-- The arguments of NeededLength are in their ranges. -/
def ok7 (s t e g : Int) : Bool := (sc s && decide (0 ≤ e ∧ e ≤ 200)) && (decide (1 ≤ g ∧ g ≤ 4) && decide (0 ≤ t ∧ t ≤ dec s - 1))
theorem ok7_iff (s t e g : Int) : ok7 s t e g = true ↔ (sc s = true ∧ (0 ≤ e ∧ e ≤ 200) ∧ (1 ≤ g ∧ g ≤ 4) ∧ (0 ≤ t ∧ t ≤ dec s - 1)) := by unfold ok7; simp [and_assoc]
/-- The rounded figure, and the next one's digits. -/
def nlA (d t g : Int) : Int × Int := ctR d t (p10 (4 - g).toNat)
def nlB (d t g : Int) : Int := (nlA d t g).1 + p10 (4 - g).toNat
def nlR (s d t e g : Int) : Int × Int :=
  if fg d t = false then (0, 1) else if ok7 s t e g = false then (0, 2)
  else if fg (nlB d t g) (nlA d t g).2 = false ∨ (nlA d t g).2 ≠ t then (0, 2)
  else if ndN s (nlA d t g).1 t (nlB d t g) t e < 0 then (0, 4) else (100 * (ndN s (nlA d t g).1 t (nlB d t g) t e + 1), 0)
theorem nlA_fg {d t g : Int} (h : fg d t = true) (g1 : 1 ≤ g) (g2 : g ≤ 4) (hB : fg (nlB d t g) t = true) : fg (nlA d t g).1 t = true := by
  have hu := p10_bd (4 - g).toNat (by omega)
  have b := (fg_iff _ _).1 hB
  have c := (fg_iff _ _).1 h
  refine (fg_iff _ _).2 ⟨⟨?_, ?_⟩, b.2⟩
  · unfold nlA ctR
    split
    · simp
    · simp only
      exact (nd_lit d c.1.1 c.1.2 (4 - g).toNat (by omega)).1
  · have : (nlA d t g).1 + p10 (4 - g).toNat ≤ 9999 := b.1.2
    omega
theorem nl_cases (s d t e g : Int) : (fg d t = false ∧ nlR s d t e g = (0, 1)) ∨ (fg d t = true ∧ ok7 s t e g = false ∧ nlR s d t e g = (0, 2)) ∨
    (fg d t = true ∧ ok7 s t e g = true ∧ (fg (nlB d t g) (nlA d t g).2 = false ∨ (fg (nlB d t g) (nlA d t g).2 = true ∧ (nlA d t g).2 ≠ t)) ∧ nlR s d t e g = (0, 2)) ∨
    (fg d t = true ∧ ok7 s t e g = true ∧ (nlA d t g).2 = t ∧ fg (nlB d t g) t = true ∧
      nlR s d t e g = if ndN s (nlA d t g).1 t (nlB d t g) t e < 0 then (0, 4) else (100 * (ndN s (nlA d t g).1 t (nlB d t g) t e + 1), 0)) := by
  cases h1 : fg d t
  · left; exact ⟨rfl, by unfold nlR; rw [if_pos h1]⟩
  cases h2 : ok7 s t e g
  · right; left; exact ⟨rfl, rfl, by unfold nlR; rw [if_neg (by rw [h1]; simp), if_pos h2]⟩
  cases h3 : fg (nlB d t g) (nlA d t g).2
  · right; right; left; exact ⟨rfl, rfl, .inl rfl, by unfold nlR; rw [if_neg (by rw [h1]; simp), if_neg (by rw [h2]; simp), if_pos (.inl h3)]⟩
  by_cases h4 : (nlA d t g).2 = t
  · right; right; right; exact ⟨rfl, rfl, h4, by rw [← h3, h4], by unfold nlR; rw [if_neg (by rw [h1]; simp), if_neg (by rw [h2]; simp), if_neg (by rw [h3]; simp [h4])]⟩
  · right; right; left; exact ⟨rfl, rfl, .inr ⟨rfl, h4⟩, by unfold nlR; rw [if_neg (by rw [h1]; simp), if_neg (by rw [h2]; simp), if_pos (.inr h4)]⟩
end Go.Proofs.YtphebmbapllinaaDoor

/- Chapter 6: what its laws say of the readings. -/
namespace Go.Proofs.YtphebmbapllinaaDoor
set_option linter.unusedVariables false
set_option linter.unusedSimpArgs false

/-- A figure of a scale by its digits' and its tens' number. -/
theorem at_of (x y : Nat) (hx : x < 900) : atD (900 * y + x) = 1000 + 10 * x ∧ atT (900 * y + x) = y := by
  unfold atD atT
  omega
theorem at_in (s : Int) (x y : Nat) (hx : x < 900) (hy : (y : Int) < dec s) : 900 * y + x < figs s := by
  have := figs_is s
  omega
theorem dec_5 (s t : Int) (h0 : 0 ≤ t) (h : t < dec s) : ¬ (s = 5 ∧ t ≠ 0) := by
  rintro ⟨rfl, h2⟩
  have : dec 5 = 1 := rfl
  omega
theorem pl_ok (s d t l : Int) (h1 : fg d t = true) (h2 : sc s = true) (h3 : ¬ (s = 5 ∧ t ≠ 0)) (h4 : ln l = true) : plR s d t l = (pl s d t l, 0) := by
  refine plR_pl s d t l ?_
  rcases qcd_cases s d t l with ⟨-, h, -⟩ | ⟨e, -, -⟩ | ⟨-, -, h, -⟩ | ⟨-, -, -, e⟩
  · rw [h1] at h; cases h
  · rcases pcd_cases s d t with ⟨h, -⟩ | ⟨-, h, -⟩ | ⟨-, h, h', -⟩ | ⟨-, -, -, e'⟩
    · rw [h1] at h; cases h
    · rw [h2] at h; cases h
    · exact absurd ⟨h, h'⟩ h3
    · omega
  · rw [h4] at h; cases h
  · exact e

/-- The codes of the three readings. -/
theorem rd_cases (s l p e : Int) : (ok6 s l p e = false ∧ frR s l p e = ((0, 0), 2) ∧ lrR s l p e = ((0, 0), 2) ∧ crR s l p e = (0, 2)) ∨
    (ok6 s l p e = true ∧ frR s l p e = ((0, 0), 4) ∧ lrR s l p e = ((0, 0), 4) ∧ crR s l p e = (0, 0)) ∨
    (ok6 s l p e = true ∧ ∃ a b c d n : Int, frR s l p e = ((a, b), 0) ∧ lrR s l p e = ((c, d), 0) ∧ crR s l p e = (n, 0) ∧ 0 < n ∧ btw a b a b c d) := by
  rcases ok6_tf s l p e with h | h
  · rcases rd_none_or s l p e with ⟨e1, e2, e3⟩ | ⟨h1, h2, h3, h4⟩
    · exact .inr (.inl ⟨h, rdR_no _ _ h (by omega), rdR_no _ _ h (by omega), by rw [crR_ok _ _ _ _ h, e3]⟩)
    · refine .inr (.inr ⟨h, _, _, _, _, _, rdR_ok _ _ h (by omega), rdR_ok _ _ h (by omega), crR_ok _ _ _ _ h, h4, ?_⟩)
      have f1 := at_fg (fstN s l p e).toNat (by omega)
      have f2 := at_fg (lstN s l p e).toNat (by omega)
      refine ⟨⟨f1, f1, f2⟩, by omega, ?_⟩
      unfold atD atT
      omega
  · exact .inl ⟨h, rdR_rg _ _ h, rdR_rg _ _ h, crR_rg _ _ _ _ h⟩
/-- A figure of a scale is among the readings of its own place. -/
theorem own_reading (s l e : Int) (x y : Nat) (hs : sc s = true) (hl : ln l = true) (he : 0 ≤ e ∧ e ≤ 200) (hx : x < 900) (hy : (y : Int) < dec s) :
    let a := max 0 (min l (pl s (1000 + 10 * x) y l).1)
    fg (1000 + 10 * x) y = true ∧ plR s (1000 + 10 * x) y l = (pl s (1000 + 10 * x) y l, 0) ∧ mbR s (1000 + 10 * x) y l a e = (may s (1000 + 10 * x) y l a e, 0) ∧
      crR s l a e = (cntN s l a e, 0) ∧ (may s (1000 + 10 * x) y l a e = true → 0 < cntN s l a e) ∧ (a = (pl s (1000 + 10 * x) y l).1 → may s (1000 + 10 * x) y l a e = true) := by
  intro a
  have hf : fg (1000 + 10 * (x : Int)) y = true := by
    have := dec_bd s
    refine (fg_iff _ _).2 ?_
    omega
  have h5 := dec_5 s y (by omega) hy
  have ha : ok6 s l a e = true := (ok6_iff _ _ _ _).2 ⟨hs, hl, by have := (ln_iff l).1 hl; show 0 ≤ max 0 (min l _) ∧ max 0 (min l _) ≤ l; omega, he⟩
  refine ⟨hf, pl_ok _ _ _ _ hf hs h5 hl, mbR_ok _ _ _ _ _ _ hf ha h5, crR_ok _ _ _ _ ha, ?_, ?_⟩
  · intro hm
    obtain ⟨e1, e2⟩ := at_of x y hx
    rcases cntQ_zero (mayN s l a e) (figs s) with ⟨-, h⟩ | ⟨h, -⟩
    · have := h _ (at_in s x y hx hy)
      unfold mayN at this
      rw [e1, e2, hm] at this
      cases this
    · exact h
  · intro h
    have b := (pl_bd s _ _ l hf hl).2.2.2.2
    refine (may_iff _ _ _ _ _ _).2 ?_
    omega
/-- No figure of the scale stands nearer than the best one. -/
theorem best_near (s l p : Int) (x y : Nat) (h : ok6 s l p 0 = true) (hx : x < 900) (hy : (y : Int) < dec s) :
    ∃ d t : Int, brR s l p = ((d, t), 0) ∧ plR s d t l = (pl s d t l, 0) ∧ plR s (1000 + 10 * x) y l = (pl s (1000 + 10 * x) y l, 0) ∧
      max ((pl s d t l).1 + (pl s d t l).2 - 2 * p) (-((pl s d t l).1 + (pl s d t l).2 - 2 * p)) ≤ max ((pl s (1000 + 10 * x) y l).1 + (pl s (1000 + 10 * x) y l).2 - 2 * p) (-((pl s (1000 + 10 * x) y l).1 + (pl s (1000 + 10 * x) y l).2 - 2 * p)) := by
  obtain ⟨hs, hl, -, -⟩ := (ok6_iff _ _ _ _).1 h
  obtain ⟨k, hk, e, h1, -⟩ := bstN_spec s l p
  have hk2 := figs_bd s
  have hf := at_fg k (by omega)
  have ht := at_tens s k hk
  have hf2 : fg (1000 + 10 * (x : Int)) y = true := by
    have := dec_bd s
    refine (fg_iff _ _).2 ?_
    omega
  refine ⟨atD k, atT k, by rw [brR_ok _ _ _ h, e]; rfl, pl_ok _ _ _ _ hf hs (dec_5 s _ ht.1 ht.2) hl, pl_ok _ _ _ _ hf2 hs (dec_5 s _ (by omega) hy) hl, ?_⟩
  have := h1 _ (at_in s x y hx hy)
  obtain ⟨e1, e2⟩ := at_of x y hx
  unfold awy at this
  rw [e1, e2] at this
  omega
/-- What the needed length says. -/
theorem need_facts (s d t e g n : Int) (h : nlR s d t e g = (n, 0)) :
    fg d t = true ∧ ok7 s t e g = true ∧ fg (nlB d t g) t = true ∧ fg (nlA d t g).1 t = true ∧ roR d t g = (((nlA d t g).1, t), 0) ∧ 100 ≤ n ∧ n ≤ 100000 ∧
      apt s (nlA d t g).1 t (nlB d t g) t n e = true ∧ (n ≠ 100 → apt s (nlA d t g).1 t (nlB d t g) t (n - 100) e = false) := by
  unfold nlR at h
  split at h
  · cases h
  rename_i h1
  split at h
  · cases h
  rename_i h2
  split at h
  · cases h
  rename_i h3
  split at h
  · cases h
  rename_i h4
  have h1 : fg d t = true := by simpa using h1
  have h2 : ok7 s t e g = true := by simpa using h2
  obtain ⟨h3a, h3b⟩ : fg (nlB d t g) (nlA d t g).2 = true ∧ (nlA d t g).2 = t := by
    constructor
    · cases hh : fg (nlB d t g) (nlA d t g).2
      · exact absurd (.inl hh) h3
      · rfl
    · by_cases hh : (nlA d t g).2 = t
      · exact hh
      · exact absurd (.inr hh) h3
  obtain ⟨-, -, ⟨g1, g2⟩, -⟩ := (ok7_iff _ _ _ _).1 h2
  obtain ⟨hn, -⟩ := Prod.mk.inj h
  rw [h3b] at h3a
  have fa := nlA_fg h1 g1 g2 h3a
  refine ⟨h1, h2, h3a, fa, ?_, ?_⟩
  · rw [roR_ok d t g h1 g1 g2]
    show rsl (nlA d t g) = _
    have e0 : nlA d t g = ((nlA d t g).1, t) := Prod.ext rfl h3b
    rw [e0]
    exact rsl_ok _ fa
  have hsp := fstQ_spec (fun i => apt s (nlA d t g).1 t (nlB d t g) t (100 * ((i : Int) + 1)) e) 1000
  rw [← ndN] at hsp
  generalize ndN s (nlA d t g).1 t (nlB d t g) t e = z at *
  rcases hsp with ⟨e0, -⟩ | ⟨k, hk, e0, h5, h6⟩
  · omega
  · rw [e0] at hn
    refine ⟨by omega, by omega, by rw [← hn]; exact h5, fun hne => ?_⟩
    have := h6 (k - 1) (by omega)
    rw [show n - 100 = 100 * (((k - 1 : Nat) : Int) + 1) by omega]
    exact this
/-- The codes of the three readings, by parts. -/
theorem rd_parts (s l p e : Int) : (ok6 s l p e = false ∧ (frR s l p e).2 = 2 ∧ (lrR s l p e).2 = 2 ∧ (crR s l p e).2 = 2) ∨
    (ok6 s l p e = true ∧ (frR s l p e).2 = 4 ∧ (lrR s l p e).2 = 4 ∧ (crR s l p e).2 = 0 ∧ (crR s l p e).1 = 0) ∨
    (ok6 s l p e = true ∧ (frR s l p e).2 = 0 ∧ (lrR s l p e).2 = 0 ∧ (crR s l p e).2 = 0 ∧ 0 < (crR s l p e).1 ∧ btw (frR s l p e).1.1 (frR s l p e).1.2 (frR s l p e).1.1 (frR s l p e).1.2 (lrR s l p e).1.1 (lrR s l p e).1.2) := by
  rcases rd_cases s l p e with ⟨h, e1, e2, e3⟩ | ⟨h, e1, e2, e3⟩ | ⟨h, a, b, c, d, n, e1, e2, e3, hn, hb⟩
  · left; rw [e1, e2, e3]; exact ⟨h, rfl, rfl, rfl⟩
  · right; left; rw [e1, e2, e3]; exact ⟨h, rfl, rfl, rfl, rfl⟩
  · right; right; rw [e1, e2, e3]; exact ⟨h, rfl, rfl, rfl, hn, hb⟩
theorem own_bd (s l e : Int) (x : Nat) (y : Nat) (hs : sc s = true) (hl : ln l = true) (hx : x < 900) (hy : (y : Int) < dec s) : -200000 ≤ (pl s (1000 + 10 * x) y l).1 ∧ (pl s (1000 + 10 * x) y l).1 ≤ 310000 := by
  have hf : fg (1000 + 10 * (x : Int)) y = true := by
    have := dec_bd s
    refine (fg_iff _ _).2 ?_
    omega
  obtain ⟨a, b, -⟩ := pl_bd s _ _ l hf hl
  exact ⟨a, b⟩
theorem own_bd2 (s l : Int) (x : Nat) (y : Nat) (hs : sc s = true) (hl : ln l = true) (hx : x < 900) (hy : (y : Int) < dec s) : -200000 ≤ (pl s (1000 + 10 * x) y l).2 ∧ (pl s (1000 + 10 * x) y l).2 ≤ 310000 := by
  have hf : fg (1000 + 10 * (x : Int)) y = true := by
    have := dec_bd s
    refine (fg_iff _ _).2 ?_
    omega
  obtain ⟨-, -, a, b, -⟩ := pl_bd s _ _ l hf hl
  exact ⟨a, b⟩
end Go.Proofs.YtphebmbapllinaaDoor

/- Chapter 6: the figures of a scale from left to right: their places never become less; searches for them; which are readings. -/
namespace Go.Proofs.YtphebmbapllinaaDoor
set_option linter.unusedVariables false
set_option linter.unusedSimpArgs false

theorem cntF_none (p : Nat → Bool) : ∀ n, (∀ i, i < n → p i = false) → cntF p n = n
  | 0, _ => rfl
  | n + 1, h => by rw [cntF_succ, cntF_none p n (fun i hi => h i (by omega)), h n (by omega)]; rfl
/-- The number of the first one for which a condition holds that stays true. -/
theorem cntF_at (p : Nat → Bool) : ∀ N, (∀ a b, a ≤ b → b < N → p a = true → p b = true) → ∀ i, i < N → (p i = true ↔ cntF p N ≤ i)
  | 0, _, i, h => absurd h (by omega)
  | N + 1, hm, i, hi => by
    rw [cntF_succ]
    cases hp : p N
    · have hall : ∀ j, j < N + 1 → p j = false := fun j hj => by
        cases hj2 : p j
        · rfl
        · have := hm j N (by omega) (by omega) hj2
          rw [hp] at this; cases this
      rw [cntF_none p N (fun j hj => hall j (by omega)), hall i hi]
      simp; omega
    · have c := cntF_le p N
      rcases Nat.lt_succ_iff_lt_or_eq.1 hi with h | rfl
      · have := cntF_at p N (fun a b x y z => hm a b x (by omega) z) i h
        simpa using this
      · rw [hp]; simp; omega

/-- The number (by sizes) of the figure that stands at a place from the left. -/
def onF (s : Int) (i : Nat) : Nat := if s = 3 then 899 - i else if s = 4 then (i + 215) % 900 else i
theorem onF_3 (i : Nat) : onF 3 i = 899 - i := if_pos rfl
theorem onF_4 (i : Nat) : onF 4 i = (i + 215) % 900 := by rw [onF, if_neg (by decide), if_pos rfl]
theorem onF_id (s : Int) (i : Nat) (h3 : s ≠ 3) (h4 : s ≠ 4) : onF s i = i := by rw [onF, if_neg h3, if_neg h4]
theorem figs_3 : figs 3 = 900 := by decide
theorem figs_4 : figs 4 = 900 := by decide
theorem onF_lt (s : Int) (i : Nat) (h : i < figs s) : onF s i < figs s := by
  by_cases h3 : s = 3
  · subst h3; rw [onF_3]; rw [figs_3] at *; omega
  by_cases h4 : s = 4
  · subst h4; rw [onF_4]; rw [figs_4] at *; omega
  rw [onF_id s i h3 h4]; exact h
/-- Where a figure stands from the left. -/
def offF (s : Int) (n : Nat) : Nat := if s = 3 then 899 - n else if s = 4 then (n + 685) % 900 else n
theorem offF_lt (s : Int) (n : Nat) (h : n < figs s) : offF s n < figs s := by
  unfold offF
  by_cases h3 : s = 3
  · subst h3; rw [if_pos rfl]; rw [figs_3] at *; omega
  by_cases h4 : s = 4
  · subst h4; rw [if_neg (by decide), if_pos rfl]; rw [figs_4] at *; omega
  rw [if_neg h3, if_neg h4]; exact h
theorem on_off (s : Int) (n : Nat) (h : n < figs s) : onF s (offF s n) = n := by
  unfold offF
  by_cases h3 : s = 3
  · subst h3; rw [if_pos rfl, onF_3]; rw [figs_3] at *; omega
  by_cases h4 : s = 4
  · subst h4; rw [if_neg (by decide), if_pos rfl, onF_4]; rw [figs_4] at *; omega
  rw [if_neg h3, if_neg h4, onF_id s n h3 h4]

theorem lgt_le (d e : Int) (h1 : 1000 ≤ d) (h : d ≤ e) (h2 : e ≤ 9999) : lgb true (d * 100000) ≤ lgb true (e * 100000) := by
  rcases (show d = e ∨ d + 1 ≤ e by omega) with rfl | h3
  · exact Int.le_refl _
  · have a := (lg3 d h1 (by omega)).2
    have b := lg_le (d + 1) e (by omega) h3 h2
    have c := (lg_wd e (by omega) h2).1
    omega
theorem fdiv_up (a b k : Int) (h : a ≤ b) (k1 : 1 ≤ k) : a.fdiv k ≤ b.fdiv k := by
  rw [Int.fdiv_eq_ediv_of_nonneg _ (by omega), Int.fdiv_eq_ediv_of_nonneg _ (by omega)]
  exact Int.ediv_le_ediv (by omega) h
theorem cd_up (a b k : Int) (h : a ≤ b) (k1 : 1 ≤ k) : cd a k ≤ cd b k := by
  rw [cd_lit _ _ (by omega), cd_lit _ _ (by omega)]
  have := Int.ediv_le_ediv (c := k) (by omega) (show -b ≤ -a by omega)
  omega
/-- A greater figure on a scale of k decades. -/
theorem rep_mono (d t e u k : Int) (d1 : 1000 ≤ d) (d2 : d ≤ 9999) (e1 : 1000 ≤ e) (e2 : e ≤ 9999) (t0 : 0 ≤ t) (tk : t < k) (u0 : 0 ≤ u) (uk : u < k) (h : t < u ∨ (t = u ∧ d ≤ e)) :
    (rep d t k).1 ≤ (rep e u k).1 ∧ (rep d t k).2 ≤ (rep e u k).2 := by
  have a := lgb_bd false (d * 100000) (by omega) (by omega)
  have a' := lgb_bd true (d * 100000) (by omega) (by omega)
  have b := lgb_bd false (e * 100000) (by omega) (by omega)
  have b' := lgb_bd true (e * 100000) (by omega) (by omega)
  unfold rep
  rw [Int.emod_eq_of_lt t0 tk, Int.emod_eq_of_lt u0 uk]
  rcases h with h | ⟨rfl, h⟩
  · exact ⟨fdiv_up _ _ _ (by omega) (by omega), cd_up _ _ _ (by omega) (by omega)⟩
  · have c := lg_le d e d1 h e2
    have c' := lgt_le d e d1 h e2
    exact ⟨fdiv_up _ _ _ (by omega) (by omega), cd_up _ _ _ (by omega) (by omega)⟩
theorem at_lt (i : Nat) (h : i < 900) : atD i = 1000 + 10 * (i : Int) ∧ atT i = 0 := by
  unfold atD atT
  omega
/-- The folded scale: right of its beginning, and left of it. -/
theorem fld_parts : (∀ d : Int, 3143 ≤ d → d ≤ 9999 → fld d = (lgb false (d * 100000) - (lgb true 314200000 + 1), lgb true (d * 100000) + 1 - lgb false 314200000)) ∧
    (∀ d : Int, 1000 ≤ d → d ≤ 3142 → fld d = (lgb false (d * 100000) - (lgb true 314200000 + 1) + 1048576, lgb true (d * 100000) + 1 - lgb false 314200000 + 1048576)) := by
  have q := lg_wd 3142 (by omega) (by omega)
  have e : (3142 : Int) * 100000 = 314200000 := by decide
  rw [e] at q
  constructor
  · intro d h1 h2
    refine fld_hi d ?_
    have a := (lg3 3142 (by omega) (by omega)).2
    have b := lg_le 3143 d (by omega) h1 h2
    rw [e] at a
    have a' := Int.lt_of_lt_of_le a b
    omega
  · intro d h1 h2
    refine fld_lo d ?_
    have b := lg_le d 3142 h1 h2 (by omega)
    rw [e] at b
    omega
/-- From left to right both bounds of positions never become less. -/
theorem psn_mono (s : Int) (hs : sc s = true) (i j : Nat) (h : i ≤ j) (hj : j < figs s) :
    (psn s (atD (onF s i)) (atT (onF s i))).1 ≤ (psn s (atD (onF s j)) (atT (onF s j))).1 ∧ (psn s (atD (onF s i)) (atT (onF s i))).2 ≤ (psn s (atD (onF s j)) (atT (onF s j))).2 := by
  have h0 := onF_lt s i (by omega)
  have h1 := onF_lt s j hj
  have b := figs_bd s
  have di := at_bd (onF s i) (by omega)
  have dj := at_bd (onF s j) (by omega)
  have ti := at_tens s (onF s i) h0
  have tj := at_tens s (onF s j) h1
  have f := figs_is s
  rcases scale_cases s hs with rfl | rfl | rfl | rfl | rfl | rfl
  · rw [onF_id 0 i (by decide) (by decide), onF_id 0 j (by decide) (by decide)] at *
    have e : dec 0 = 1 := rfl
    obtain ⟨x1, x2⟩ := at_lt i (by omega)
    obtain ⟨y1, y2⟩ := at_lt j (by omega)
    rw [psn_0, psn_0]
    exact ⟨lg_le _ _ (by omega) (by omega) (by omega), by have := lgt_le (atD i) (atD j) (by omega) (by omega) (by omega); simp only; omega⟩
  · rw [onF_id 1 i (by decide) (by decide), onF_id 1 j (by decide) (by decide)] at *
    have e : dec 1 = 2 := rfl
    rw [psn_1, psn_1]
    refine rep_mono _ _ _ _ _ (by omega) (by omega) (by omega) (by omega) (by omega) (by omega) (by omega) (by omega) ?_
    unfold atD atT
    omega
  · rw [onF_id 2 i (by decide) (by decide), onF_id 2 j (by decide) (by decide)] at *
    have e : dec 2 = 3 := rfl
    rw [psn_2, psn_2]
    refine rep_mono _ _ _ _ _ (by omega) (by omega) (by omega) (by omega) (by omega) (by omega) (by omega) (by omega) ?_
    unfold atD atT
    omega
  · rw [figs_3] at hj
    rw [onF_3, onF_3] at *
    obtain ⟨x1, x2⟩ := at_lt (899 - i) (by omega)
    obtain ⟨y1, y2⟩ := at_lt (899 - j) (by omega)
    rw [psn_3, psn_3]
    have a := lg_le (atD (899 - j)) (atD (899 - i)) (by omega) (by omega) (by omega)
    have c := lgt_le (atD (899 - j)) (atD (899 - i)) (by omega) (by omega) (by omega)
    simp only
    omega
  · rw [figs_4] at hj
    rw [onF_4, onF_4] at *
    obtain ⟨x1, x2⟩ := at_lt ((i + 215) % 900) (by omega)
    obtain ⟨y1, y2⟩ := at_lt ((j + 215) % 900) (by omega)
    rw [psn_4, psn_4]
    have bi := lgb_bd false (atD ((i + 215) % 900) * 100000) (by omega) (by omega)
    have bi' := lgb_bd true (atD ((i + 215) % 900) * 100000) (by omega) (by omega)
    have bj := lgb_bd false (atD ((j + 215) % 900) * 100000) (by omega) (by omega)
    have bj' := lgb_bd true (atD ((j + 215) % 900) * 100000) (by omega) (by omega)
    rcases (show j < 685 ∨ 685 ≤ i ∨ (i < 685 ∧ 685 ≤ j) by omega) with g | g | ⟨g, g'⟩
    · rw [fld_parts.1 _ (by omega) (by omega), fld_parts.1 _ (by omega) (by omega)]
      have a := lg_le (atD ((i + 215) % 900)) (atD ((j + 215) % 900)) (by omega) (by omega) (by omega)
      have c := lgt_le (atD ((i + 215) % 900)) (atD ((j + 215) % 900)) (by omega) (by omega) (by omega)
      simp only
      omega
    · rw [fld_parts.2 _ (by omega) (by omega), fld_parts.2 _ (by omega) (by omega)]
      have a := lg_le (atD ((i + 215) % 900)) (atD ((j + 215) % 900)) (by omega) (by omega) (by omega)
      have c := lgt_le (atD ((i + 215) % 900)) (atD ((j + 215) % 900)) (by omega) (by omega) (by omega)
      simp only
      omega
    · rw [fld_parts.1 _ (by omega) (by omega), fld_parts.2 _ (by omega) (by omega)]
      simp only
      omega
  · rw [onF_id 5 i (by decide) (by decide), onF_id 5 j (by decide) (by decide)] at *
    have e : dec 5 = 1 := rfl
    obtain ⟨x1, x2⟩ := at_lt i (by omega)
    obtain ⟨y1, y2⟩ := at_lt j (by omega)
    rw [psn_5, psn_5]
    exact ⟨fdiv_up _ _ _ (by omega) (by omega), cd_up _ _ _ (by omega) (by omega)⟩
/-- The bounds of the place of a figure, by its number from the left. -/
def loF (s l : Int) (i : Nat) : Int := (pl s (atD (onF s i)) (atT (onF s i)) l).1
def hiF (s l : Int) (i : Nat) : Int := (pl s (atD (onF s i)) (atT (onF s i)) l).2
theorem pl_mono (s l : Int) (hs : sc s = true) (hl : ln l = true) (i j : Nat) (h : i ≤ j) (hj : j < figs s) : loF s l i ≤ loF s l j ∧ hiF s l i ≤ hiF s l j := by
  obtain ⟨l1, l2⟩ := (ln_iff l).1 hl
  obtain ⟨a, b⟩ := psn_mono s hs i j h hj
  unfold loF hiF pl plc
  exact ⟨fdiv_up _ _ _ (Int.mul_le_mul_of_nonneg_right a (by omega)) (by omega), cd_up _ _ _ (Int.mul_le_mul_of_nonneg_right b (by omega)) (by omega)⟩
theorem plF_bd (s l : Int) (hs : sc s = true) (hl : ln l = true) (i : Nat) (hi : i < figs s) : -200000 ≤ loF s l i ∧ loF s l i ≤ 310000 ∧ -200000 ≤ hiF s l i ∧ hiF s l i ≤ 310000 ∧ loF s l i ≤ hiF s l i := by
  have h := onF_lt s i hi
  have b := figs_bd s
  exact pl_bd s _ _ l (at_fg _ (by omega)) hl

/-- How many of an interval come before n. -/
def clp (a b x : Nat) : Nat := min (max x a) b
theorem cnt_id (q : Nat → Bool) (a b : Nat) (hab : a ≤ b) : ∀ n, (∀ j, j < n → (q j = true ↔ a ≤ j ∧ j < b)) → cntQ q n = (clp a b n : Int) - a
  | 0, _ => by unfold cntQ clp; omega
  | n + 1, h => by
    have ih := cnt_id q a b hab n (fun j hj => h j (by omega))
    have hn := h n (by omega)
    unfold cntQ
    rw [ih]
    unfold clp
    cases hq : q n
    · have : ¬ (a ≤ n ∧ n < b) := fun g => by have := hn.2 g; rw [hq] at this; cases this
      rw [if_neg (by simp)]; omega
    · have := hn.1 hq
      rw [if_pos rfl]; omega
theorem cnt_rot (q : Nat → Bool) (a b : Nat) (hab : a ≤ b) (hb : b ≤ 900) : ∀ n, n ≤ 900 → (∀ j, j < n → (q j = true ↔ a ≤ (j + 685) % 900 ∧ (j + 685) % 900 < b)) →
    cntQ q n = if n ≤ 215 then (clp a b (n + 685) : Int) - clp a b 685 else ((b : Int) - clp a b 685) + (clp a b (n - 215) - a)
  | 0, _, _ => by unfold cntQ; simp
  | n + 1, hn9, h => by
    have ih := cnt_rot q a b hab hb n (by omega) (fun j hj => h j (by omega))
    have hn := h n (by omega)
    unfold cntQ
    rw [ih]
    unfold clp
    cases hq : q n
    · have : ¬ (a ≤ (n + 685) % 900 ∧ (n + 685) % 900 < b) := fun g => by have := hn.2 g; rw [hq] at this; cases this
      rw [if_neg (by simp)]
      split <;> split <;> omega
    · have := hn.1 hq
      rw [if_pos rfl]
      split <;> split <;> omega
/-- An interval of the figures, from the left: how many they are by sizes. -/
theorem cnt_on (s : Int) (q : Nat → Bool) (a b : Nat) (hab : a ≤ b) (hb : b ≤ figs s) (h : ∀ i, i < figs s → (q (onF s i) = true ↔ a ≤ i ∧ i < b)) : cntQ q (figs s) = (b : Int) - a := by
  by_cases h3 : s = 3
  · subst h3
    rw [figs_3] at *
    have h' : ∀ j, j < 900 → (q j = true ↔ 900 - b ≤ j ∧ j < 900 - a) := fun j hj => by
      have := h (899 - j) (by omega)
      rw [onF_3, show 899 - (899 - j) = j by omega] at this
      rw [this]; omega
    rw [cnt_id q (900 - b) (900 - a) (by omega) 900 h']
    unfold clp; omega
  by_cases h4 : s = 4
  · subst h4
    rw [figs_4] at *
    have h' : ∀ j, j < 900 → (q j = true ↔ a ≤ (j + 685) % 900 ∧ (j + 685) % 900 < b) := fun j hj => by
      have := h ((j + 685) % 900) (by omega)
      rw [onF_4, show ((j + 685) % 900 + 215) % 900 = j by omega] at this
      exact this
    rw [cnt_rot q a b hab hb 900 (by omega) h', if_neg (by omega)]
    unfold clp; omega
  have h' : ∀ j, j < figs s → (q j = true ↔ a ≤ j ∧ j < b) := fun j hj => by
    have := h j hj
    rwa [onF_id s j h3 h4] at this
  rw [cnt_id q a b hab _ h']
  unfold clp; omega

/-- The readings stand from a up to b. -/
def rdA (s l p e : Int) : Nat := cntF (fun i => decide (p ≤ hiF s l i + e)) (figs s)
def rdB (s l p e : Int) : Nat := cntF (fun i => decide (p < loF s l i - e)) (figs s)
theorem rd_in (s l p e : Int) (hs : sc s = true) (hl : ln l = true) (he : 0 ≤ e) (i : Nat) (hi : i < figs s) : mayN s l p e (onF s i) = true ↔ rdA s l p e ≤ i ∧ i < rdB s l p e := by
  have ha := cntF_at (fun i => decide (p ≤ hiF s l i + e)) (figs s) (fun a b x y z => by
    have := (pl_mono s l hs hl a b x y).2
    have z := of_decide_eq_true z
    exact decide_eq_true (by omega)) i hi
  have hb := cntF_at (fun i => decide (p < loF s l i - e)) (figs s) (fun a b x y z => by
    have := (pl_mono s l hs hl a b x y).1
    have z := of_decide_eq_true z
    exact decide_eq_true (by omega)) i hi
  rw [show rdA s l p e = cntF (fun i => decide (p ≤ hiF s l i + e)) (figs s) from rfl, ← ha]
  have hb' : i < rdB s l p e ↔ ¬ (p < loF s l i - e) := by
    rw [show rdB s l p e = cntF (fun i => decide (p < loF s l i - e)) (figs s) from rfl, ← Nat.not_le, ← hb]
    simp
  rw [hb']
  unfold mayN
  rw [may_iff]
  show loF s l i - e ≤ p ∧ p ≤ hiF s l i + e ↔ _
  rw [decide_eq_true_iff]
  omega
theorem rd_le (s l p e : Int) : rdA s l p e ≤ figs s ∧ rdB s l p e ≤ figs s := ⟨cntF_le _ _, cntF_le _ _⟩
/-- The number of the readings. -/
theorem rd_count (s l p e : Int) (hs : sc s = true) (hl : ln l = true) (he : 0 ≤ e) : cntN s l p e = ((rdB s l p e - rdA s l p e : Nat) : Int) := by
  obtain ⟨ha, hb⟩ := rd_le s l p e
  have h := rd_in s l p e hs hl he
  generalize rdA s l p e = a at *
  generalize rdB s l p e = b at *
  unfold cntN
  rcases Nat.lt_or_ge b a with g | g
  · rw [cnt_on s _ a a (by omega) ha (fun i hi => by rw [h i hi]; omega)]
    omega
  · rw [cnt_on s _ a b g hb (fun i hi => h i hi)]
    omega
/-- There is none. -/
theorem rd_none (s l p e : Int) (hs : sc s = true) (hl : ln l = true) (he : 0 ≤ e) (h : rdB s l p e ≤ rdA s l p e) : fstN s l p e = -1 ∧ lstN s l p e = -1 := by
  have hq : ∀ j, j < figs s → mayN s l p e j = false := fun j hj => by
    have := rd_in s l p e hs hl he (offF s j) (offF_lt s j hj)
    rw [on_off s j hj] at this
    cases hm : mayN s l p e j
    · rfl
    · have := this.1 hm; omega
  exact ⟨fstQ_none _ _ hq, lstQ_none _ _ hq⟩
/-- The least and the greatest one of those that stand there. -/
theorem rd_fst (s l p e : Int) (hs : sc s = true) (hl : ln l = true) (he : 0 ≤ e) (k : Nat) (hk : rdA s l p e ≤ k ∧ k < rdB s l p e) (h : ∀ j, rdA s l p e ≤ j → j < rdB s l p e → onF s k ≤ onF s j) : fstN s l p e = onF s k := by
  obtain ⟨ha, hb⟩ := rd_le s l p e
  refine fstQ_hit _ _ _ (onF_lt s k (by omega)) ((rd_in s l p e hs hl he k (by omega)).2 hk) (fun j hj => ?_)
  have hj2 : j < figs s := by have := onF_lt s k (by omega); omega
  have := rd_in s l p e hs hl he (offF s j) (offF_lt s j hj2)
  rw [on_off s j hj2] at this
  cases hm : mayN s l p e j
  · rfl
  · have g := this.1 hm
    have := h _ g.1 g.2
    rw [on_off s j hj2] at this
    omega
theorem rd_lst (s l p e : Int) (hs : sc s = true) (hl : ln l = true) (he : 0 ≤ e) (k : Nat) (hk : rdA s l p e ≤ k ∧ k < rdB s l p e) (h : ∀ j, rdA s l p e ≤ j → j < rdB s l p e → onF s j ≤ onF s k) : lstN s l p e = onF s k := by
  obtain ⟨ha, hb⟩ := rd_le s l p e
  refine lstQ_hit _ _ _ (onF_lt s k (by omega)) ((rd_in s l p e hs hl he k (by omega)).2 hk) (fun j hj hj2 => ?_)
  have := rd_in s l p e hs hl he (offF s j) (offF_lt s j hj2)
  rw [on_off s j hj2] at this
  cases hm : mayN s l p e j
  · rfl
  · have g := this.1 hm
    have := h _ g.1 g.2
    rw [on_off s j hj2] at this
    omega

/-- The sum of the bounds of a place. -/
def smF (s l : Int) (i : Nat) : Int := loF s l i + hiF s l i
theorem sm_mono (s l : Int) (hs : sc s = true) (hl : ln l = true) (i j : Nat) (h : i ≤ j) (hj : j < figs s) : smF s l i ≤ smF s l j := by
  have := pl_mono s l hs hl i j h hj
  unfold smF; omega
def gap (v x : Int) : Int := max (x - v) (v - x)
/-- Where the sums reach a number. -/
def nxF (s l v : Int) : Nat := cntF (fun i => decide (v ≤ smF s l i)) (figs s)
/-- How near a sum comes to it: the first one that reaches it, and the one before. -/
def offR (s l v : Int) : Int :=
  let n := nxF s l v
  if n = 0 then gap v (smF s l 0) else if n < figs s then min (gap v (smF s l (n - 1))) (gap v (smF s l n)) else gap v (smF s l (n - 1))
theorem nx_at (s l v : Int) (hs : sc s = true) (hl : ln l = true) (i : Nat) (hi : i < figs s) : v ≤ smF s l i ↔ nxF s l v ≤ i := by
  have := cntF_at (fun i => decide (v ≤ smF s l i)) (figs s) (fun a b x y z => by
    have := sm_mono s l hs hl a b x y
    have z := of_decide_eq_true z
    exact decide_eq_true (by omega)) i hi
  rw [show nxF s l v = cntF (fun i => decide (v ≤ smF s l i)) (figs s) from rfl, ← this, decide_eq_true_iff]
theorem nx_le (s l v : Int) : nxF s l v ≤ figs s := cntF_le _ _
/-- No sum comes nearer, and one comes so near. -/
theorem off_least (s l v : Int) (hs : sc s = true) (hl : ln l = true) : (∀ i, i < figs s → offR s l v ≤ gap v (smF s l i)) ∧ ∃ i, i < figs s ∧ offR s l v = gap v (smF s l i) := by
  have hf := figs_bd s
  have hn := nx_le s l v
  have key : ∀ i, i < figs s → (v ≤ smF s l i ↔ nxF s l v ≤ i) := fun i hi => nx_at s l v hs hl i hi
  have mono : ∀ i j, i ≤ j → j < figs s → smF s l i ≤ smF s l j := fun i j h hj => sm_mono s l hs hl i j h hj
  unfold offR
  generalize nxF s l v = n at *
  simp only
  by_cases h0 : n = 0
  · rw [if_pos h0]
    refine ⟨fun i hi => ?_, 0, by omega, rfl⟩
    have a := (key 0 (by omega)).2 (by omega)
    have b := mono 0 i (by omega) hi
    unfold gap; omega
  rw [if_neg h0]
  have c := key (n - 1) (by omega)
  by_cases h1 : n < figs s
  · rw [if_pos h1]
    have a := (key n h1).2 (by omega)
    constructor
    · intro i hi
      rcases Nat.lt_or_ge i n with g | g
      · have := mono i (n - 1) (by omega) (by omega)
        unfold gap; omega
      · have := mono n i g hi
        unfold gap; omega
    · rcases Int.le_total (gap v (smF s l (n - 1))) (gap v (smF s l n)) with g | g
      · exact ⟨n - 1, by omega, by omega⟩
      · exact ⟨n, h1, by omega⟩
  · rw [if_neg h1]
    refine ⟨fun i hi => ?_, n - 1, by omega, rfl⟩
    have := mono i (n - 1) (by omega) (by omega)
    unfold gap; omega
/-- The nearest ones stand from a up to b. -/
def neA (s l v o : Int) : Nat := cntF (fun i => decide (v - o ≤ smF s l i)) (figs s)
def neB (s l v o : Int) : Nat := cntF (fun i => decide (v + o < smF s l i)) (figs s)
theorem ne_le (s l v o : Int) : neA s l v o ≤ figs s ∧ neB s l v o ≤ figs s := ⟨cntF_le _ _, cntF_le _ _⟩
theorem ne_in (s l v o : Int) (hs : sc s = true) (hl : ln l = true) (i : Nat) (hi : i < figs s) : gap v (smF s l i) ≤ o ↔ neA s l v o ≤ i ∧ i < neB s l v o := by
  have ha := cntF_at (fun i => decide (v - o ≤ smF s l i)) (figs s) (fun a b x y z => by
    have := sm_mono s l hs hl a b x y
    have z := of_decide_eq_true z
    exact decide_eq_true (by omega)) i hi
  have hb := cntF_at (fun i => decide (v + o < smF s l i)) (figs s) (fun a b x y z => by
    have := sm_mono s l hs hl a b x y
    have z := of_decide_eq_true z
    exact decide_eq_true (by omega)) i hi
  have hb' : i < neB s l v o ↔ ¬ (v + o < smF s l i) := by
    rw [show neB s l v o = cntF (fun i => decide (v + o < smF s l i)) (figs s) from rfl, ← Nat.not_le, ← hb]
    simp
  rw [show neA s l v o = cntF (fun i => decide (v - o ≤ smF s l i)) (figs s) from rfl, ← ha, hb', decide_eq_true_iff]
  unfold gap; omega
theorem awy_on (s l p : Int) (i : Nat) : awy s l p (onF s i) = gap (2 * p) (smF s l i) := by
  unfold awy gap smF loF hiF
  omega
/-- There is a nearest one. -/
theorem ne_some (s l v : Int) (hs : sc s = true) (hl : ln l = true) : neA s l v (offR s l v) < neB s l v (offR s l v) := by
  obtain ⟨-, i, hi, e⟩ := off_least s l v hs hl
  have := (ne_in s l v (offR s l v) hs hl i hi).1 (by omega)
  omega
/-- The least one of the nearest ones. -/
theorem ne_best (s l p : Int) (hs : sc s = true) (hl : ln l = true) (k : Nat) (hk : neA s l (2 * p) (offR s l (2 * p)) ≤ k ∧ k < neB s l (2 * p) (offR s l (2 * p)))
    (h : ∀ j, neA s l (2 * p) (offR s l (2 * p)) ≤ j → j < neB s l (2 * p) (offR s l (2 * p)) → onF s k ≤ onF s j) : bstN s l p = onF s k := by
  obtain ⟨ha, hb⟩ := ne_le s l (2 * p) (offR s l (2 * p))
  obtain ⟨hmin, -⟩ := off_least s l (2 * p) hs hl
  have hin := fun i hi => ne_in s l (2 * p) (offR s l (2 * p)) hs hl i hi
  have hkf : k < figs s := by omega
  have ek := (hin k hkf).2 hk
  generalize offR s l (2 * p) = o at *
  unfold bstN
  rw [bstQ_hit (awy s l p) (awy_nn s l p) (figs s) (onF s k) (onF_lt s k hkf) (fun j hj => ?_) (fun j hj => ?_)]
  · have e := awy_on s l p (offF s j)
    rw [on_off s j hj] at e
    rw [e, awy_on]
    exact Int.le_trans ek (hmin _ (offF_lt s j hj))
  · have hj2 : j < figs s := by have := onF_lt s k hkf; omega
    have e := awy_on s l p (offF s j)
    rw [on_off s j hj2] at e
    rw [e, awy_on]
    rcases Int.lt_or_le (gap (2 * p) (smF s l k)) (gap (2 * p) (smF s l (offF s j))) with g | g
    · exact g
    · have g' := (hin _ (offF_lt s j hj2)).1 (Int.le_trans g ek)
      have := h _ g'.1 g'.2
      rw [on_off s j hj2] at this
      omega
end Go.Proofs.YtphebmbapllinaaDoor

/- Plain mathematics of chapter 2: a rounded figure is near, and is its own rounding. -/
namespace Go.Proofs.YtphebmbapllinaaDoor
set_option linter.unusedSimpArgs false
set_option linter.unusedVariables false

theorem nd_idem (n : Int) (h : 1000 ≤ n) (h' : n ≤ 9999) (k : Nat) (hk : k ≤ 3) : nd (p10 k * nd n (p10 k)) (p10 k) = nd n (p10 k) := by
  obtain ⟨-, -, h1, h2, -⟩ := nd_lit n h h' k hk
  generalize nd n (p10 k) = q at *
  have h0 : k = 0 ∨ k = 1 ∨ k = 2 ∨ k = 3 := by omega
  rcases h0 with rfl | rfl | rfl | rfl <;> simp [p10] <;> unfold nd <;> rw [Int.fdiv_eq_ediv_of_nonneg _ (by omega)] <;> omega
theorem nd_off (n : Int) (h : 1000 ≤ n) (h' : n ≤ 9999) (k : Nat) (hk : k ≤ 3) : 2 * (p10 k * nd n (p10 k) - n) ≤ 1000 ∧ 2 * (n - p10 k * nd n (p10 k)) ≤ 1000 := by
  have h0 : k = 0 ∨ k = 1 ∨ k = 2 ∨ k = 3 := by omega
  rcases h0 with rfl | rfl | rfl | rfl <;> simp [p10] <;> unfold nd <;> rw [Int.fdiv_eq_ediv_of_nonneg _ (by omega)] <;> omega
theorem nd_thou (k : Nat) (hk : k ≤ 3) : p10 k * nd 1000 (p10 k) = 1000 := by
  have h0 : k = 0 ∨ k = 1 ∨ k = 2 ∨ k = 3 := by omega
  rcases h0 with rfl | rfl | rfl | rfl <;> decide
theorem cd_le (a b B : Int) (hb : 0 < b) (h : a ≤ B * b) : cd a b ≤ B := by
  obtain ⟨h1, h2⟩ := cd_frac a b hb
  generalize cd a b = y at *
  have h3 : y * b < (B + 1) * b := by rw [Int.add_mul]; omega
  have := Int.lt_of_mul_lt_mul_right h3 (by omega)
  omega
theorem reE_half (n d : Int) (hd : 0 < d) (h1 : 2 * (n - d) ≤ d) (h2 : 2 * (d - n) ≤ d) : reE n d ≤ 500000 := by
  unfold reE
  exact cd_le _ _ _ hd (by omega)

theorem rel_same (m a s : Int) (hm : fg m s = true) (ha : fg a s = true) (h1 : 2 * (m - a) ≤ 1000) (h2 : 2 * (a - m) ≤ 1000) : (reR m s a s).2 = 0 ∧ (reR m s a s).1 ≤ 500000 := by
  obtain ⟨⟨a1, a2⟩, -⟩ := (fg_iff a s).1 ha
  have hv : reV m s a s = reE m a := by
    unfold reV
    rw [if_neg (by omega), if_neg (by omega), if_neg (by omega), show (s - s).toNat = 0 by omega, show p10 0 = 1 by rfl, Int.mul_one]
  have hh : reE m a ≤ 500000 := reE_half _ _ (by omega) (by omega) (by omega)
  rw [reR_lo _ _ _ _ hm ha (by rw [hv]; omega), hv]
  exact ⟨rfl, hh⟩
theorem rel_up (a s : Int) (hm : fg 1000 (s + 1) = true) (ha : fg a s = true) (h1 : 9500 ≤ a) : (reR 1000 (s + 1) a s).2 = 0 ∧ (reR 1000 (s + 1) a s).1 ≤ 500000 := by
  obtain ⟨⟨a1, a2⟩, -⟩ := (fg_iff a s).1 ha
  have hv : reV 1000 (s + 1) a s = reE 10000 a := by
    unfold reV
    rw [if_neg (by omega), if_neg (by omega), if_pos (by omega), show (s + 1 - s).toNat = 1 by omega]
    rfl
  have hh : reE 10000 a ≤ 500000 := reE_half _ _ (by omega) (by omega) (by omega)
  rw [reR_lo _ _ _ _ hm ha (by rw [hv]; omega), hv]
  exact ⟨rfl, hh⟩
theorem ct_facts (a s : Int) (k : Nat) (hk : k ≤ 3) (hf : fg a s = true) (hr : fg (ctR a s (p10 k)).1 (ctR a s (p10 k)).2 = true) :
    ((reR (ctR a s (p10 k)).1 (ctR a s (p10 k)).2 a s).2 = 0 ∧ (reR (ctR a s (p10 k)).1 (ctR a s (p10 k)).2 a s).1 ≤ 500000) ∧ ctR (ctR a s (p10 k)).1 (ctR a s (p10 k)).2 (p10 k) = ctR a s (p10 k) := by
  obtain ⟨⟨a1, a2⟩, s1, s2⟩ := (fg_iff a s).1 hf
  obtain ⟨o1, o2⟩ := nd_off a a1 a2 k hk
  have oi := nd_idem a a1 a2 k hk
  have ot := nd_thou k hk
  by_cases he : p10 k * nd a (p10 k) = 10000
  · rw [ctR_hi _ _ _ he] at hr ⊢
    exact ⟨rel_up a s hr hf (by omega), by rw [ctR_lo _ _ _ (by rw [ot]; decide), ot]⟩
  · rw [ctR_lo _ _ _ he] at hr ⊢
    exact ⟨rel_same _ a s hr hf o1 o2, by rw [ctR_lo _ _ _ (by rw [oi]; exact he), oi]⟩

/-- What is known of a rounding. -/
theorem roR_facts (a s g : Int) : ((roR a s g).2 ≠ 0) ∨
    ((roR a s g).2 = 0 ∧ (reR (roR a s g).1.1 (roR a s g).1.2 a s).2 = 0 ∧ (reR (roR a s g).1.1 (roR a s g).1.2 a s).1 ≤ 500000 ∧ roR (roR a s g).1.1 (roR a s g).1.2 g = ((roR a s g).1, 0)) := by
  cases hf : fg a s
  · left; rw [roR_no a s g hf]; simp
  by_cases hg : 1 ≤ g ∧ g ≤ 4
  · have hk : (4 - g).toNat ≤ 3 := by omega
    have hro : ∀ b t, fg b t = true → roR b t g = rsl (ctR b t (p10 (4 - g).toNat)) := fun b t h => roR_ok b t g h hg.1 hg.2
    rw [hro a s hf]
    generalize (4 - g).toNat = k at *
    rcases rsl_code (ctR a s (p10 k)) with ⟨c, f, hr⟩ | ⟨c, f⟩
    · right
      obtain ⟨⟨h1, h2⟩, h3⟩ := ct_facts a s k hk hf hr
      rw [f]
      exact ⟨c, h1, h2, by rw [hro _ _ hr, h3]; exact rsl_ok _ hr⟩
    · left; rw [c]; decide
  · left; rw [roR_far a s g hf (by omega)]; simp
end Go.Proofs.YtphebmbapllinaaDoor

/- Plain mathematics of chapter 10: errors of a rule, units, spreads, the digits that can be read everywhere. No program is imported here. -/
namespace Go.Proofs.YtphebmbapllinaaDoor
set_option linter.unusedSimpArgs false
set_option linter.unusedVariables false

def eyB (a : Int) : Bool := decide (0 ≤ a ∧ a ≤ 200)
theorem eyB_iff (a : Int) : eyB a = true ↔ (0 ≤ a ∧ a ≤ 200) := by unfold eyB; simp
/-- Errors as described. -/
def er (a b c : Int) : Bool := eyB a && eyB b && eyB c
theorem er_iff (a b c : Int) : er a b c = true ↔ (0 ≤ a ∧ a ≤ 200) ∧ (0 ≤ b ∧ b ≤ 200) ∧ (0 ≤ c ∧ c ≤ 200) := by
  unfold er; rw [Bool.and_eq_true, Bool.and_eq_true, eyB_iff, eyB_iff, eyB_iff]
  constructor
  · rintro ⟨⟨h1, h2⟩, h3⟩; exact ⟨h1, h2, h3⟩
  · rintro ⟨h1, h2, h3⟩; exact ⟨⟨h1, h2⟩, h3⟩
theorem er_tf (a b c : Int) : er a b c = true ∨ er a b c = false := by cases er a b c <;> simp
/-- The total, and its answer. -/
def tot (a b c : Int) : Int := 2 * a + b + c
theorem tot_bd (a b c : Int) (h : er a b c = true) : 0 ≤ tot a b c ∧ tot a b c ≤ 800 := by
  obtain ⟨h1, h2, h3⟩ := (er_iff a b c).1 h
  unfold tot; omega
def teR (a b c : Int) : Int × Int := if er a b c = true then (tot a b c, 0) else (0, 1)
theorem teR_ok (a b c : Int) (h : er a b c = true) : teR a b c = (tot a b c, 0) := if_pos h
theorem teR_no (a b c : Int) (h : er a b c = false) : teR a b c = (0, 1) := if_neg (by rw [h]; simp)
/-- A scale of figures of all sizes. -/
def lsc (s : Int) : Bool := sc s && decide (s ≠ 5)
theorem lsc_iff (s : Int) : lsc s = true ↔ (0 ≤ s ∧ s ≤ 4) := by
  unfold lsc
  rw [Bool.and_eq_true, sc_iff]
  simp
  omega
theorem lsc_tf (s : Int) : lsc s = true ∨ lsc s = false := by cases lsc s <;> simp
theorem lsc_sc (s : Int) (h : lsc s = true) : sc s = true := by
  unfold lsc at h; rw [Bool.and_eq_true] at h; exact h.1
/-- The units of the total on a length of 1. -/
def uon (s a b c : Int) : Int := tot a b c * 1048576 * dec s
theorem uon_bd (s a b c : Int) (h : er a b c = true) : 0 ≤ uon s a b c ∧ uon s a b c ≤ 2516582400 := by
  obtain ⟨h1, h2⟩ := tot_bd a b c h
  have hd : dec s = 1 ∨ dec s = 2 ∨ dec s = 3 := by have := dec_bd s; omega
  unfold uon
  generalize tot a b c = t at *
  rcases hd with e | e | e <;> rw [e] <;> omega
def euV (s l a b c : Int) : Int := cd (uon s a b c) l
def euC (s l a b c : Int) : Int := if er a b c = false then 1 else if (lsc s && ln l) = false then 2 else 0
def euR (s l a b c : Int) : Int × Int := if euC s l a b c = 0 then (euV s l a b c, 0) else (0, euC s l a b c)
theorem euC_cases (s l a b c : Int) : (er a b c = false ∧ euC s l a b c = 1) ∨ (er a b c = true ∧ lsc s = false ∧ euC s l a b c = 2) ∨ (er a b c = true ∧ lsc s = true ∧ ln l = false ∧ euC s l a b c = 2) ∨
    (er a b c = true ∧ lsc s = true ∧ ln l = true ∧ euC s l a b c = 0) := by
  unfold euC
  cases er a b c <;> cases lsc s <;> cases ln l <;> simp
theorem euR_ok (s l a b c : Int) (h : euC s l a b c = 0) : euR s l a b c = (euV s l a b c, 0) := if_pos h
theorem euR_no (s l a b c : Int) (h : euC s l a b c ≠ 0) : euR s l a b c = (0, euC s l a b c) := if_neg h
theorem euR_snd (s l a b c : Int) : (euR s l a b c).2 = euC s l a b c := by
  by_cases h : euC s l a b c = 0
  · rw [euR_ok _ _ _ _ _ h, h]
  · rw [euR_no _ _ _ _ _ h]
theorem euV_bd (s l a b c : Int) (h : euC s l a b c = 0) : 0 ≤ euV s l a b c ∧ euV s l a b c ≤ 2516582401 := by
  rcases euC_cases s l a b c with ⟨-, e⟩ | ⟨-, -, e⟩ | ⟨-, -, -, e⟩ | ⟨h1, -, h2, -⟩
  · omega
  · omega
  · omega
  · obtain ⟨u1, u2⟩ := uon_bd s a b c h1
    have l1 := (ln_iff l).1 h2
    exact cd_small (uon s a b c) l u1 (by omega) 2516582400 u2 (by omega)

/-- The span of a figure's logarithm, spread by units. -/
def sfU (d t u : Int) : Sp := spU ((flg d t).1 - u) ((flg d t).2 + u)
def sfR (d t u : Int) : Sp := if fg d t = false then ⟨0, 0, 0, 0, 1⟩ else if 0 ≤ u ∧ u ≤ 1048576 then sfU d t u else ⟨0, 0, 0, 0, 2⟩
theorem sfR_no (d t u : Int) (h : fg d t = false) : sfR d t u = ⟨0, 0, 0, 0, 1⟩ := if_pos h
theorem sfR_rg (d t u : Int) (h : fg d t = true) (h2 : ¬ (0 ≤ u ∧ u ≤ 1048576)) : sfR d t u = ⟨0, 0, 0, 0, 2⟩ := by unfold sfR; rw [if_neg (by rw [h]; simp), if_neg h2]
theorem sfR_ok (d t u : Int) (h : fg d t = true) (h2 : 0 ≤ u ∧ u ≤ 1048576) : sfR d t u = sfU d t u := by unfold sfR; rw [if_neg (by rw [h]; simp), if_pos h2]
theorem sf_iv (d t u : Int) (h : fg d t = true) (h2 : 0 ≤ u ∧ u ≤ 1048576) : iv ((flg d t).1 - u) ((flg d t).2 + u) = true := by
  have b := flg_bd d t h
  have w := flg_width d t h
  exact (iv_iff _ _).2 (by omega)

def rbC (s l a b c d t : Int) : Int := if er a b c = false ∨ fg d t = false then 1 else euC s l a b c
def rbR (s l a b c d t : Int) : Int × Int :=
  if rbC s l a b c d t ≠ 0 then (0, rbC s l a b c d t)
  else if (sfR d t (euV s l a b c)).c ≠ 0 then (0, (sfR d t (euV s l a b c)).c)
  else seR (sfR d t (euV s l a b c)).a (sfR d t (euV s l a b c)).s (sfR d t (euV s l a b c)).b (sfR d t (euV s l a b c)).t
theorem rbC_cases (s l a b c d t : Int) : (er a b c = false ∧ fg d t = false ∧ rbC s l a b c d t = 1) ∨ (er a b c = false ∧ fg d t = true ∧ euC s l a b c = 1 ∧ rbC s l a b c d t = 1) ∨ (er a b c = true ∧ fg d t = false ∧ rbC s l a b c d t = 1) ∨
    (er a b c = true ∧ fg d t = true ∧ rbC s l a b c d t = euC s l a b c) := by
  unfold rbC euC
  cases er a b c <;> cases fg d t <;> simp
theorem rbR_no (s l a b c d t : Int) (h : rbC s l a b c d t ≠ 0) : rbR s l a b c d t = (0, rbC s l a b c d t) := if_pos h
theorem rbR_sp (s l a b c d t : Int) (h : rbC s l a b c d t = 0) (h2 : (sfR d t (euV s l a b c)).c ≠ 0) : rbR s l a b c d t = (0, (sfR d t (euV s l a b c)).c) := by
  unfold rbR; rw [if_neg (by omega), if_pos h2]
theorem rbR_ok (s l a b c d t : Int) (h : rbC s l a b c d t = 0) (h2 : (sfR d t (euV s l a b c)).c = 0) :
    rbR s l a b c d t = seR (sfR d t (euV s l a b c)).a (sfR d t (euV s l a b c)).s (sfR d t (euV s l a b c)).b (sfR d t (euV s l a b c)).t := by
  unfold rbR; rw [if_neg (by omega), if_neg (by omega)]

/-- How far the logarithms of the two greatest figures of a decade with k zeros at their end are from each other. -/
def gp (k : Nat) : Int := lgb false ((10000 - p10 k) * 100000) - (lgb true ((10000 - 2 * p10 k) * 100000) + 1)
def wdF (u : Int) : Nat → Int
  | 0 => 0
  | j + 1 => if 2 * u ≤ gp (3 - j) then ((j + 1 : Nat) : Int) else wdF u j
theorem wdF_hit (u : Int) (j : Nat) (h : 2 * u ≤ gp (3 - j)) : wdF u (j + 1) = ((j + 1 : Nat) : Int) := if_pos h
theorem wdF_miss (u : Int) (j : Nat) (h : ¬ 2 * u ≤ gp (3 - j)) : wdF u (j + 1) = wdF u j := if_neg h
theorem wdF_bd (u : Int) : ∀ j : Nat, 0 ≤ wdF u j ∧ wdF u j ≤ j
  | 0 => by simp [wdF]
  | j + 1 => by
    have := wdF_bd u j
    by_cases h : 2 * u ≤ gp (3 - j)
    · rw [wdF_hit u j h]; omega
    · rw [wdF_miss u j h]; omega
def wdR (s l a b c : Int) : Int × Int := if euC s l a b c = 0 then (wdF (euV s l a b c) 4, 0) else (0, euC s l a b c)
theorem wdR_ok (s l a b c : Int) (h : euC s l a b c = 0) : wdR s l a b c = (wdF (euV s l a b c) 4, 0) := if_pos h
theorem wdR_no (s l a b c : Int) (h : euC s l a b c ≠ 0) : wdR s l a b c = (0, euC s l a b c) := if_neg h
theorem wdR_bd (s l a b c : Int) : 0 ≤ (wdR s l a b c).1 ∧ (wdR s l a b c).1 ≤ 4 := by
  by_cases h : euC s l a b c = 0
  · rw [wdR_ok _ _ _ _ _ h]; exact wdF_bd _ 4
  · rw [wdR_no _ _ _ _ _ h]; simp

/-- Errors multiplied by a fraction. -/
def th (n : Int) : Bool := decide (1 ≤ n ∧ n ≤ 1000)
theorem th_iff (n : Int) : th n = true ↔ (1 ≤ n ∧ n ≤ 1000) := by unfold th; simp
theorem th_tf (n : Int) : th n = true ∨ th n = false := by cases th n <;> simp
def xeR (a b c n d : Int) : (Int × Int × Int) × Int :=
  if er a b c = false then ((0, 0, 0), 1) else if (th n && th d) = false then ((0, 0, 0), 2)
  else if er (cd (a * n) d) (cd (b * n) d) (cd (c * n) d) = false then ((0, 0, 0), 3) else ((cd (a * n) d, cd (b * n) d, cd (c * n) d), 0)
theorem xe_cases (a b c n d : Int) : (er a b c = false ∧ xeR a b c n d = ((0, 0, 0), 1)) ∨ (er a b c = true ∧ th n = false ∧ xeR a b c n d = ((0, 0, 0), 2)) ∨ (er a b c = true ∧ th n = true ∧ th d = false ∧ xeR a b c n d = ((0, 0, 0), 2)) ∨
    (er a b c = true ∧ th n = true ∧ th d = true ∧ er (cd (a * n) d) (cd (b * n) d) (cd (c * n) d) = false ∧ xeR a b c n d = ((0, 0, 0), 3)) ∨
    (er a b c = true ∧ th n = true ∧ th d = true ∧ er (cd (a * n) d) (cd (b * n) d) (cd (c * n) d) = true ∧ xeR a b c n d = ((cd (a * n) d, cd (b * n) d, cd (c * n) d), 0)) := by
  unfold xeR
  cases er a b c <;> cases th n <;> cases th d <;> cases er (cd (a * n) d) (cd (b * n) d) (cd (c * n) d) <;> simp
theorem xe_bd (a n d : Int) (h : 0 ≤ a ∧ a ≤ 200) (hn : 1 ≤ n ∧ n ≤ 1000) (hd : 1 ≤ d ∧ d ≤ 1000) : (0 ≤ a * n ∧ a * n ≤ 200000) ∧ 0 ≤ cd (a * n) d ∧ cd (a * n) d ≤ 200001 := by
  have h1 : 0 ≤ a * n := Int.mul_nonneg h.1 (by omega)
  have h2 : a * n ≤ 200 * 1000 := Int.mul_le_mul h.2 hn.2 (by omega) (by omega)
  exact ⟨⟨h1, by omega⟩, cd_small (a * n) d h1 (by omega) 200000 (by omega) (by omega)⟩

/-- The least length for some units. -/
def unt (u : Int) : Bool := decide (1 ≤ u ∧ u ≤ 1048576)
theorem unt_iff (u : Int) : unt u = true ↔ (1 ≤ u ∧ u ≤ 1048576) := by unfold unt; simp
def lfV (s a b c u : Int) : Int := if cd (uon s a b c) u < 1 then 1 else cd (uon s a b c) u
def lfC (s a b c u : Int) : Int := if er a b c = false then 1 else if (lsc s && unt u) = false then 2 else if 100000 < lfV s a b c u then 4 else 0
def lfR (s a b c u : Int) : Int × Int := if lfC s a b c u = 0 then (lfV s a b c u, 0) else (0, lfC s a b c u)
theorem lfC_cases (s a b c u : Int) : (er a b c = false ∧ lfC s a b c u = 1) ∨ (er a b c = true ∧ lsc s = false ∧ lfC s a b c u = 2) ∨ (er a b c = true ∧ lsc s = true ∧ unt u = false ∧ lfC s a b c u = 2) ∨
    (er a b c = true ∧ lsc s = true ∧ unt u = true ∧ 100000 < lfV s a b c u ∧ lfC s a b c u = 4) ∨ (er a b c = true ∧ lsc s = true ∧ unt u = true ∧ lfV s a b c u ≤ 100000 ∧ lfC s a b c u = 0) := by
  unfold lfC
  cases er a b c <;> cases lsc s <;> cases unt u <;> simp
  omega
theorem lfR_ok (s a b c u : Int) (h : lfC s a b c u = 0) : lfR s a b c u = (lfV s a b c u, 0) := if_pos h
theorem lfR_no (s a b c u : Int) (h : lfC s a b c u ≠ 0) : lfR s a b c u = (0, lfC s a b c u) := if_neg h
theorem lfV_one (s a b c u : Int) : 1 ≤ lfV s a b c u := by unfold lfV; split <;> omega
/-- With the length the units are enough, with one less they are not. -/
theorem lf_facts (s a b c u : Int) (h : lfC s a b c u = 0) : euC s (lfV s a b c u) a b c = 0 ∧ euV s (lfV s a b c u) a b c ≤ u ∧
    (1 < lfV s a b c u → euC s (lfV s a b c u - 1) a b c = 0 ∧ u < euV s (lfV s a b c u - 1) a b c) := by
  rcases lfC_cases s a b c u with ⟨-, e⟩ | ⟨-, -, e⟩ | ⟨-, -, -, e⟩ | ⟨-, -, -, -, e⟩ | ⟨h1, h2, h3, h4, -⟩
  · omega
  · omega
  · omega
  · omega
  have h5 := lfV_one s a b c u
  have u1 := (unt_iff u).1 h3
  obtain ⟨g1, g2⟩ := cd_frac (uon s a b c) u (by omega)
  have ok : ∀ l, 1 ≤ l → l ≤ 100000 → euC s l a b c = 0 := by
    intro l l1 l2
    unfold euC
    rw [h1, h2, (ln_iff l).2 ⟨l1, l2⟩]; simp
  refine ⟨ok _ h5 h4, ?_, fun hl => ⟨ok _ (by omega) (by omega), ?_⟩⟩
  · unfold euV
    refine cd_le _ _ _ (by omega) ?_
    rw [Int.mul_comm]
    refine Int.le_trans g1 (Int.mul_le_mul_of_nonneg_right ?_ (by omega))
    unfold lfV; split <;> omega
  · have e : lfV s a b c u = cd (uon s a b c) u := by
      unfold lfV at hl ⊢
      split
      · rename_i hh; rw [if_pos hh] at hl; omega
      · rfl
    rw [e] at hl ⊢
    unfold euV
    obtain ⟨k1, k2⟩ := cd_frac (uon s a b c) (cd (uon s a b c) u - 1) (by omega)
    generalize cd (uon s a b c) u = y at *
    generalize cd (uon s a b c) (y - 1) = z at *
    generalize uon s a b c = T at *
    refine Int.lt_of_not_ge fun hz => ?_
    have m : z * (y - 1) ≤ u * (y - 1) := Int.mul_le_mul_of_nonneg_right hz (by omega)
    have e2 : u * (y - 1) = y * u - u := by rw [Int.mul_sub, Int.mul_one, Int.mul_comm]
    omega
/-- A longer rule has no greater errors. -/
theorem eu_longer (s l a b c : Int) (h : euC s l a b c = 0) (hl : l ≠ 100000) : euC s (l + 1) a b c = 0 ∧ euV s (l + 1) a b c ≤ euV s l a b c := by
  rcases euC_cases s l a b c with ⟨-, e⟩ | ⟨-, -, e⟩ | ⟨-, -, -, e⟩ | ⟨h1, h2, h3, -⟩
  · omega
  · omega
  · omega
  have l1 := (ln_iff l).1 h3
  refine ⟨?_, ?_⟩
  · unfold euC
    rw [h1, h2, (ln_iff (l + 1)).2 (by omega)]; simp
  · unfold euV
    obtain ⟨g1, g2⟩ := cd_frac (uon s a b c) l (by omega)
    have u0 := (uon_bd s a b c h1).1
    have z0 := (cd_small (uon s a b c) l u0 (by omega) 2516582400 (uon_bd s a b c h1).2 (by omega)).1
    refine cd_le _ _ _ (by omega) (Int.le_trans g1 ?_)
    exact Int.mul_le_mul_of_nonneg_left (by omega) z0

/-- A figure lies in its spread. -/
theorem sf_facts (d t u : Int) : ((sfR d t u).c ≠ 0) ∨ ((sfR d t u).c = 0 ∧ fg d t = true ∧ (0 ≤ u ∧ u ≤ 1048576) ∧ btw (sfR d t u).a (sfR d t u).s d t (sfR d t u).b (sfR d t u).t) := by
  cases hf : fg d t
  · left; rw [sfR_no d t u hf]; simp
  · by_cases hu : 0 ≤ u ∧ u ≤ 1048576
    · rw [sfR_ok d t u hf hu]
      unfold sfU
      rcases spU_facts ((flg d t).1 - u) ((flg d t).2 + u) with h | ⟨m, n, e, hm, hn, -, -, h1, h2⟩
      · exact .inl h
      · right
        obtain ⟨hk, e1, e2⟩ := num_bd d t hf
        have e3 := num_fnl d t hf
        have w := fnl_wid m hm.1 hm.2
        have w' := fnl_wid n hn.1 hn.2
        have w'' := fnl_wid (num d t) hk.1 hk.2
        rw [← e3] at h1 h2
        have a1 : m < num d t := lt_num hm.1 hm.2 hk.1 hk.2 (by omega)
        have a2 : num d t < n := lt_num hk.1 hk.2 hn.1 hn.2 (by omega)
        rw [e]
        have B := btw_of m (num d t) n hm hk hn (by omega) (by omega)
        rw [e1, e2] at B
        exact ⟨rfl, rfl, hu, B⟩
    · left; rw [sfR_rg d t u hf hu]; simp

theorem reE_mono {n d n' d' : Int} (hd : 0 < d) (hd' : 0 < d') (h : d ≤ n) (h' : d' ≤ n') (hm : n' * d ≤ n * d') : reE n' d' ≤ reE n d := by
  unfold reE
  rw [show ((n - d).natAbs : Int) = n - d by omega, show ((n' - d').natAbs : Int) = n' - d' by omega]
  obtain ⟨g1, -⟩ := cd_frac ((n - d) * 1000000) d hd
  generalize cd ((n - d) * 1000000) d = y at *
  refine cd_le _ _ _ hd' ?_
  have e1 : n * 1000000 ≤ (y + 1000000) * d := by rw [Int.add_mul]; omega
  have e2 : (n' * 1000000) * d ≤ ((y + 1000000) * d') * d := by
    have a1 : (n' * 1000000) * d = (n' * d) * 1000000 := by rw [Int.mul_right_comm]
    have a2 : (n * d') * 1000000 = (n * 1000000) * d' := by rw [Int.mul_right_comm]
    have a3 : (n * 1000000) * d' ≤ ((y + 1000000) * d) * d' := Int.mul_le_mul_of_nonneg_right e1 (by omega)
    have a4 : ((y + 1000000) * d) * d' = ((y + 1000000) * d') * d := by rw [Int.mul_right_comm]
    omega
  have e3 : n' * 1000000 ≤ (y + 1000000) * d' := Int.le_of_mul_le_mul_right e2 hd
  rw [Int.add_mul] at e3
  omega
theorem p10_0 : p10 0 = 1 := rfl
theorem p10_1 : p10 1 = 10 := rfl
/-- A narrower pair has no greater error. -/
theorem reV_mono (a s b t a' s' b' t' : Int) (h1 : fg a s = true) (h2 : fg b t = true) (h1' : fg a' s' = true) (h2' : fg b' t' = true)
    (o1 : 10000 * t + b ≤ 10000 * t' + b') (o2 : 10000 * t' + b' ≤ 10000 * s' + a') (o3 : 10000 * s' + a' ≤ 10000 * s + a) (hv : reV a s b t ≤ 9000000) : reV a' s' b' t' ≤ reV a s b t := by
  obtain ⟨⟨q1, q2⟩, -⟩ := (fg_iff a s).1 h1
  obtain ⟨⟨q3, q4⟩, -⟩ := (fg_iff b t).1 h2
  obtain ⟨⟨q5, q6⟩, -⟩ := (fg_iff a' s').1 h1'
  obtain ⟨⟨q7, q8⟩, -⟩ := (fg_iff b' t').1 h2'
  have hc : s - t ≤ 1 := by
    refine Int.not_lt.1 fun hc => ?_
    unfold reV at hv; rw [if_pos hc] at hv; omega
  have V0 : ∀ x y z w : Int, z = w → reV x z y w = reE x y := by
    intro x y z w e
    subst e
    unfold reV
    rw [if_neg (by omega), if_neg (by omega), if_neg (by omega), show z - z = 0 by omega]
    simp [p10_0]
  have V1 : ∀ x y z w : Int, z = w + 1 → reV x z y w = reE (10 * x) y := by
    intro x y z w e
    subst e
    unfold reV
    rw [if_neg (by omega), if_neg (by omega), if_pos (by omega), show w + 1 - w = 1 by omega]
    simp [p10_1, Int.mul_comm]
  rcases (show (s = t ∧ t' = t ∧ s' = t) ∨ (s = t + 1 ∧ t' = t ∧ s' = t) ∨ (s = t + 1 ∧ t' = t ∧ s' = t + 1) ∨ (s = t + 1 ∧ t' = t + 1 ∧ s' = t + 1) by omega) with ⟨rfl, e2, e3⟩ | ⟨e1, e2, e3⟩ | ⟨e1, e2, e3⟩ | ⟨e1, e2, e3⟩
  · rw [V0 a b _ _ rfl, V0 a' b' _ _ (by omega)]
    refine reE_mono (by omega) (by omega) (by omega) (by omega) ?_
    exact Int.mul_le_mul (by omega) (by omega) (by omega) (by omega)
  · rw [V1 a b _ _ e1, V0 a' b' _ _ (by omega)]
    refine reE_mono (by omega) (by omega) (by omega) (by omega) ?_
    exact Int.mul_le_mul (by omega) (by omega) (by omega) (by omega)
  · rw [V1 a b _ _ e1, V1 a' b' _ _ (by omega)]
    refine reE_mono (by omega) (by omega) (by omega) (by omega) ?_
    exact Int.mul_le_mul (by omega) (by omega) (by omega) (by omega)
  · rw [V1 a b _ _ e1, V0 a' b' _ _ (by omega)]
    refine reE_mono (by omega) (by omega) (by omega) (by omega) ?_
    have m : a' * b ≤ a * (10 * b') := Int.mul_le_mul (by omega) (by omega) (by omega) (by omega)
    have e : a * (10 * b') = 10 * a * b' := by rw [Int.mul_comm 10 b', ← Int.mul_assoc, Int.mul_comm (a * b') 10, ← Int.mul_assoc]
    omega
/-- With less units the spread is narrower, its error no greater. -/
theorem sf_mono (d t u v : Int) (hv : 0 ≤ v) (hvu : v ≤ u) (h : (sfR d t u).c = 0) (h2 : (seR (sfR d t u).a (sfR d t u).s (sfR d t u).b (sfR d t u).t).2 = 0) :
    (sfR d t v).c = 0 ∧ (seR (sfR d t v).a (sfR d t v).s (sfR d t v).b (sfR d t v).t).2 = 0 ∧
    (seR (sfR d t v).a (sfR d t v).s (sfR d t v).b (sfR d t v).t).1 ≤ (seR (sfR d t u).a (sfR d t u).s (sfR d t u).b (sfR d t u).t).1 := by
  rcases sf_facts d t u with h' | ⟨-, hf, hu, -⟩
  · exact absurd h h'
  rw [sfR_ok d t u hf hu] at h h2 ⊢
  rw [sfR_ok d t v hf (by omega)]
  unfold sfU at *
  have w := flg_width d t hf
  generalize hx : (flg d t).1 = x at *
  generalize hy : (flg d t).2 = y at *
  have hun : un (x - u) = true ∧ un (y + u) = true := by
    cases e1 : un (x - u)
    · rw [spU_no _ _ (by rw [e1]; rfl)] at h; exact absurd h (by simp)
    · cases e2 : un (y + u)
      · rw [spU_no _ _ (by rw [e1, e2]; rfl)] at h; exact absurd h (by simp)
      · exact ⟨rfl, rfl⟩
  have U1 := (un_iff _).1 hun.1
  have U2 := (un_iff _).1 hun.2
  have hvn : un (x - v) = true ∧ un (y + v) = true := ⟨(un_iff _).2 (by omega), (un_iff _).2 (by omega)⟩
  rw [spU_ok _ _ hun.1 hun.2] at h h2 ⊢
  rw [spU_ok _ _ hvn.1 hvn.2]
  have M1 := ff_mono (hi := true) (show x - u ≤ x - v by omega)
  have M2 := ff_mono (hi := false) (show y + v ≤ y + u by omega)
  have M3 := ff_le (show x - v ≤ y + v by omega)
  generalize ff true (x - u) = m at *
  generalize ff false (y + u) = n at *
  generalize ff true (x - v) = m' at *
  generalize ff false (y + v) = n' at *
  have hb : (-270000 ≤ m - 1 ∧ m - 1 ≤ 278999) ∧ (-270000 ≤ n ∧ n ≤ 278999) := by
    refine Classical.byContradiction fun hh => ?_
    rw [spN_no _ _ hh] at h; exact absurd h (by simp)
  have hb' : (-270000 ≤ m' - 1 ∧ m' - 1 ≤ 278999) ∧ (-270000 ≤ n' ∧ n' ≤ 278999) := by omega
  rw [spN_ok _ _ hb] at h2 ⊢
  rw [spN_ok _ _ hb']
  simp only at h2 ⊢
  have f1 := fn_fg (m - 1) hb.1.1 hb.1.2
  have f2 := fn_fg n hb.2.1 hb.2.2
  have f3 := fn_fg (m' - 1) hb'.1.1 hb'.1.2
  have f4 := fn_fg n' hb'.2.1 hb'.2.2
  have r1 := rank_le (show m - 1 ≤ m' - 1 by omega)
  have r2 := rank_le (show m' - 1 ≤ n' by omega)
  have r3 := rank_le (show n' ≤ n by omega)
  generalize 1000 + (m - 1) % 9000 = a1 at *
  generalize (m - 1) / 9000 = s1 at *
  generalize 1000 + n % 9000 = b1 at *
  generalize n / 9000 = t1 at *
  generalize 1000 + (m' - 1) % 9000 = a2 at *
  generalize (m' - 1) / 9000 = s2 at *
  generalize 1000 + n' % 9000 = b2 at *
  generalize n' / 9000 = t2 at *
  have z1 : scd a1 s1 b1 t1 = 0 := scd_ok _ _ _ _ (by rw [f1, f2]; rfl) (by omega)
  have z2 : scd a2 s2 b2 t2 = 0 := scd_ok _ _ _ _ (by rw [f3, f4]; rfl) (by omega)
  rw [seR_ok _ _ _ _ z1] at h2 ⊢
  rw [seR_ok _ _ _ _ z2]
  have hV : reV b1 t1 a1 s1 ≤ 9000000 := by
    refine Int.not_lt.1 fun hh => ?_
    rw [reR_hi _ _ _ _ f2 f1 hh] at h2; exact absurd h2 (by simp)
  have hm := reV_mono b1 t1 a1 s1 b2 t2 a2 s2 f2 f1 f4 f3 (by omega) (by omega) (by omega) hV
  rw [reR_lo _ _ _ _ f2 f1 hV, reR_lo _ _ _ _ f4 f3 (by omega)]
  exact ⟨trivial, rfl, hm⟩
/-- Less errors give no greater bounds. -/
theorem rb_less (s l a b c d t : Int) (h : (rbR s l a b c d t).2 = 0) : (rbR s l a b 0 d t).2 = 0 ∧ (rbR s l a b 0 d t).1 ≤ (rbR s l a b c d t).1 := by
  have h0 : rbC s l a b c d t = 0 := by
    refine Classical.byContradiction fun hh => ?_
    rw [rbR_no _ _ _ _ _ _ _ hh] at h; exact hh h
  have h1 : (sfR d t (euV s l a b c)).c = 0 := by
    refine Classical.byContradiction fun hh => ?_
    rw [rbR_sp _ _ _ _ _ _ _ h0 hh] at h; exact hh h
  rcases rbC_cases s l a b c d t with ⟨-, -, e⟩ | ⟨-, -, -, e⟩ | ⟨-, -, e⟩ | ⟨he, hf, e⟩
  · omega
  · omega
  · omega
  rw [h0] at e
  rcases euC_cases s l a b c with ⟨-, e'⟩ | ⟨-, -, e'⟩ | ⟨-, -, -, e'⟩ | ⟨-, hs, hl, -⟩
  · omega
  · omega
  · omega
  have hE := (er_iff a b c).1 he
  have he0 : er a b 0 = true := (er_iff a b 0).2 ⟨hE.1, hE.2.1, by omega⟩
  have c0 : euC s l a b 0 = 0 := by unfold euC; rw [he0, hs, hl]; simp
  have r0 : rbC s l a b 0 d t = 0 := by unfold rbC; rw [he0, hf, c0]; simp
  have l1 := (ln_iff l).1 hl
  have hV : euV s l a b 0 ≤ euV s l a b c := by
    unfold euV
    refine cd_mono (by omega) ?_
    unfold uon
    have hd := dec_bd s
    refine Int.mul_le_mul_of_nonneg_right ?_ (by omega)
    unfold tot
    omega
  have v0 := (euV_bd s l a b 0 c0).1
  rw [rbR_ok _ _ _ _ _ _ _ h0 h1] at h ⊢
  obtain ⟨k1, k2, k3⟩ := sf_mono d t _ _ v0 hV h1 h
  rw [rbR_ok _ _ _ _ _ _ _ r0 k1]
  exact ⟨k2, k3⟩
end Go.Proofs.YtphebmbapllinaaDoor
