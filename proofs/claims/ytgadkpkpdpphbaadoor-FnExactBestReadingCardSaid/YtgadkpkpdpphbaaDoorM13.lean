/- Plain mathematics of chapter 4: figures by their numbers, the figures next to a logarithm, spans. No program is imported here. -/
import Derived.Test.YtgadkpkpdpphbaaDoorM10
namespace Go.Proofs.YtgadkpkpdpphbaaDoor
set_option linter.unusedSimpArgs false
set_option linter.unusedVariables false

/-- The logarithm of the figure with a number: 9000 figures for each power of ten, 0 for 1000 with the tens 0. -/
def fnl (n : Int) : Int × Int := flg (1000 + n % 9000) (n / 9000)
theorem fnl_eq (n : Int) : fnl n = flg (1000 + n % 9000) (n / 9000) := rfl
theorem fn_fg (n : Int) (h1 : -270000 ≤ n) (h2 : n ≤ 278999) : fg (1000 + n % 9000) (n / 9000) = true := (fg_iff _ _).2 (by omega)
theorem fn_no (n : Int) (h : n < -270000 ∨ 278999 < n) : fg (1000 + n % 9000) (n / 9000) = false := (fg_not _ _).2 (by omega)
theorem fnl_wid (n : Int) (h1 : -270000 ≤ n) (h2 : n ≤ 278999) : (fnl n).1 < (fnl n).2 ∧ (fnl n).2 ≤ (fnl n).1 + 2 := by
  have w := flg_width _ _ (fn_fg n h1 h2)
  rw [← fnl_eq] at w
  omega
theorem fnl_step (n : Int) (h1 : -270000 ≤ n) (h2 : n ≤ 278998) : (fnl n).2 ≤ (fnl (n + 1)).1 := by
  have f := fn_fg n h1 (by omega)
  by_cases h : n % 9000 ≤ 8998
  · have w := flg_next _ _ f (by omega)
    rw [← fnl_eq, show 1000 + n % 9000 + 1 = 1000 + (n + 1) % 9000 by omega, show n / 9000 = (n + 1) / 9000 by omega, ← fnl_eq] at w
    omega
  · have e1 : 1000 + n % 9000 = 9999 := by omega
    have e2 : 1000 + (n + 1) % 9000 = 1000 := by omega
    have e3 : (n + 1) / 9000 = n / 9000 + 1 := by omega
    rw [fnl_eq, fnl_eq, e1, e2, e3, flg_1, flg_2]
    have a := lgb_bd true (9999 * 100000) (by omega) (by omega)
    have b := lgb_bd false (1000 * 100000) (by omega) (by omega)
    omega
theorem fnl_up (n : Int) (h1 : -270000 ≤ n) (k : Nat) (h2 : n + k ≤ 278999) : (fnl n).1 ≤ (fnl (n + k)).1 ∧ (fnl n).2 ≤ (fnl (n + k)).2 := by
  induction k with
  | zero => simp
  | succ k ih =>
    have i := ih (by omega)
    have s := fnl_step (n + k) (by omega) (by omega)
    have w := fnl_wid (n + k) (by omega) (by omega)
    have w' := fnl_wid (n + k + 1) (by omega) (by omega)
    rw [show n + ((k + 1 : Nat) : Int) = n + k + 1 by omega]
    omega
theorem fnl_mono {a b : Int} (h1 : -270000 ≤ a) (h : a ≤ b) (h2 : b ≤ 278999) : (fnl a).1 ≤ (fnl b).1 ∧ (fnl a).2 ≤ (fnl b).2 := by
  have u := fnl_up a h1 (b - a).toNat (by omega)
  rwa [show a + ((b - a).toNat : Int) = b by omega] at u
theorem fnl_lt {a b : Int} (h1 : -270000 ≤ a) (h : a < b) (h2 : b ≤ 278999) : (fnl a).2 ≤ (fnl b).1 := by
  have s := fnl_step a h1 (by omega)
  have m := fnl_mono (a := a + 1) (b := b) (by omega) (by omega) h2
  omega

/-- The logarithm of a number of a figure is over u: its upper end, or its lower one at least u. -/
def ovr (hi : Bool) (u n : Int) : Bool := if hi then decide (u < (fnl n).2) else decide (u ≤ (fnl n).1)
theorem ovr_t (u n : Int) : ovr true u n = decide (u < (fnl n).2) := by unfold ovr; rw [if_pos rfl]
theorem ovr_f (u n : Int) : ovr false u n = decide (u ≤ (fnl n).1) := by unfold ovr; rw [if_neg (by simp)]
theorem ovr_mono (hi : Bool) (u : Int) {a b : Int} (h1 : -270000 ≤ a) (h : a ≤ b) (h2 : b ≤ 278999) (ha : ovr hi u a = true) : ovr hi u b = true := by
  have m := fnl_mono h1 h h2
  cases hi
  · rw [ovr_f] at *; simp at ha ⊢; omega
  · rw [ovr_t] at *; simp at ha ⊢; omega

/-- How often a condition fails below n. -/
def cntF (p : Nat → Bool) : Nat → Nat
  | 0 => 0
  | n + 1 => cntF p n + (if p n then 0 else 1)
theorem cntF_succ (p : Nat → Bool) (n : Nat) : cntF p (n + 1) = cntF p n + (if p n then 0 else 1) := rfl
theorem cntF_le (p : Nat → Bool) (n : Nat) : cntF p n ≤ n := by
  induction n with
  | zero => exact Nat.le_refl _
  | succ n ih => rw [cntF_succ]; split <;> omega
theorem cntF_thr (p : Nat → Bool) (N k : Nat) (hk : k ≤ N) (h1 : ∀ i, i < k → p i = false) (h2 : ∀ i, k ≤ i → i < N → p i = true) : cntF p N = k := by
  induction N generalizing k with
  | zero => simp [cntF]; omega
  | succ N ih =>
    rw [cntF_succ]
    by_cases h : k = N + 1
    · subst h
      rw [ih N (Nat.le_refl _) (fun i hi => h1 i (by omega)) (fun i a b => by omega), h1 N (by omega)]
      rfl
    · rw [ih k (by omega) h1 (fun i a b => h2 i a (by omega)), h2 N (by omega) (by omega)]
      rfl
theorem thr_ex (p : Nat → Bool) (N : Nat) (hm : ∀ a b, a ≤ b → b < N → p a = true → p b = true) : ∃ k, k ≤ N ∧ (∀ i, i < k → p i = false) ∧ (∀ i, k ≤ i → i < N → p i = true) := by
  induction N with
  | zero => exact ⟨0, Nat.le_refl _, fun i h => by omega, fun i _ h => by omega⟩
  | succ N ih =>
    obtain ⟨k, hk, h1, h2⟩ := ih (fun a b h hb => hm a b h (by omega))
    by_cases hN : p N = true
    · exact ⟨k, by omega, h1, fun i a b => by
        by_cases e : i = N
        · rw [e]; exact hN
        · exact h2 i a (by omega)⟩
    · have hN' : p N = false := by simpa using hN
      refine ⟨N + 1, Nat.le_refl _, fun i hi => ?_, fun i a b => by omega⟩
      cases hp : p i
      · rfl
      · exact absurd (hm i N (by omega) (by omega) hp) hN
/-- How many figures there are. -/
def NF : Nat := 549000
theorem NF_eq : NF = 549000 := rfl
/-- The condition by the number of the program, from 0. -/
def pq (hi : Bool) (u : Int) (i : Nat) : Bool := ovr hi u ((i : Int) - 270000)
theorem pq_eq (hi : Bool) (u : Int) (i : Nat) : pq hi u i = ovr hi u ((i : Int) - 270000) := rfl
theorem pq_mono (hi : Bool) (u : Int) (a b : Nat) (h : a ≤ b) (hb : b < NF) (ha : pq hi u a = true) : pq hi u b = true := by
  rw [NF_eq] at hb
  exact ovr_mono hi u (by omega) (by omega) (by omega) ha
/-- The least number for which the condition holds. -/
def ff (hi : Bool) (u : Int) : Int := (cntF (pq hi u) NF : Int) - 270000
theorem ff_eq (hi : Bool) (u : Int) : ff hi u = (cntF (pq hi u) NF : Int) - 270000 := rfl
theorem ff_bd (hi : Bool) (u : Int) : -270000 ≤ ff hi u ∧ ff hi u ≤ 279000 := by
  have := cntF_le (pq hi u) NF
  rw [ff_eq]
  rw [NF_eq] at *
  omega
theorem ff_is (hi : Bool) (u k : Int) (k1 : -270000 ≤ k) (k2 : k ≤ 279000) (h1 : ∀ n, -270000 ≤ n → n < k → ovr hi u n = false) (h2 : ∀ n, k ≤ n → n ≤ 278999 → ovr hi u n = true) : ff hi u = k := by
  have := cntF_thr (pq hi u) NF (k + 270000).toNat (by rw [NF_eq]; omega) (fun i hi' => h1 _ (by omega) (by omega)) (fun i a b => by rw [NF_eq] at b; exact h2 _ (by omega) (by omega))
  rw [ff_eq, this]
  omega
theorem ff_both (hi : Bool) (u : Int) : (∀ n, -270000 ≤ n → n < ff hi u → ovr hi u n = false) ∧ (∀ n, ff hi u ≤ n → n ≤ 278999 → ovr hi u n = true) := by
  obtain ⟨k, hk, h1, h2⟩ := thr_ex (pq hi u) NF (pq_mono hi u)
  have e := cntF_thr (pq hi u) NF k hk h1 h2
  rw [ff_eq, e]
  rw [NF_eq] at hk h2
  constructor
  · intro n a b
    have := h1 (n + 270000).toNat (by omega)
    rwa [pq_eq, show ((n + 270000).toNat : Int) - 270000 = n by omega] at this
  · intro n a b
    have := h2 (n + 270000).toNat (by omega) (by omega)
    rwa [pq_eq, show ((n + 270000).toNat : Int) - 270000 = n by omega] at this
theorem ff_lo {hi : Bool} {u n : Int} (h1 : -270000 ≤ n) (h2 : n < ff hi u) : ovr hi u n = false := (ff_both hi u).1 n h1 h2
theorem ff_hi {hi : Bool} {u n : Int} (h1 : ff hi u ≤ n) (h2 : n ≤ 278999) : ovr hi u n = true := (ff_both hi u).2 n h1 h2

/-- The figure with a number, or ErrNotFound. -/
def nfR (n : Int) : (Int × Int) × Int := if -270000 ≤ n ∧ n ≤ 278999 then ((1000 + n % 9000, n / 9000), 0) else ((0, 0), 4)
theorem nfR_ok (n : Int) (h : -270000 ≤ n ∧ n ≤ 278999) : nfR n = ((1000 + n % 9000, n / 9000), 0) := if_pos h
theorem nfR_no (n : Int) (h : ¬ (-270000 ≤ n ∧ n ≤ 278999)) : nfR n = ((0, 0), 4) := if_neg h
theorem nfR_cases (n : Int) : ((-270000 ≤ n ∧ n ≤ 278999) ∧ nfR n = ((1000 + n % 9000, n / 9000), 0)) ∨ (¬ (-270000 ≤ n ∧ n ≤ 278999) ∧ nfR n = ((0, 0), 4)) := by
  by_cases h : -270000 ≤ n ∧ n ≤ 278999
  · exact .inl ⟨h, nfR_ok n h⟩
  · exact .inr ⟨h, nfR_no n h⟩
/-- Units that are not too great. -/
def un (u : Int) : Bool := decide (-31457280 ≤ u ∧ u ≤ 31457280)
theorem un_iff (u : Int) : un u = true ↔ (-31457280 ≤ u ∧ u ≤ 31457280) := by unfold un; simp
theorem un_not (u : Int) : un u = false ↔ ¬ (-31457280 ≤ u ∧ u ≤ 31457280) := by unfold un; simp
def fbR (u : Int) : (Int × Int) × Int := if un u = true then nfR (ff true u - 1) else ((0, 0), 2)
theorem fbR_ok (u : Int) (h : un u = true) : fbR u = nfR (ff true u - 1) := if_pos h
theorem fbR_no (u : Int) (h : un u = false) : fbR u = ((0, 0), 2) := if_neg (by rw [h]; simp)
def faR (u : Int) : (Int × Int) × Int := if un u = true then nfR (ff false u) else ((0, 0), 2)
theorem faR_ok (u : Int) (h : un u = true) : faR u = nfR (ff false u) := if_pos h
theorem faR_no (u : Int) (h : un u = false) : faR u = ((0, 0), 2) := if_neg (by rw [h]; simp)
/-- The span of an interval: two figures and a code. -/
structure Sp where
  a : Int
  s : Int
  b : Int
  t : Int
  c : Int
def spN (m n : Int) : Sp := if (-270000 ≤ m ∧ m ≤ 278999) ∧ (-270000 ≤ n ∧ n ≤ 278999) then ⟨1000 + m % 9000, m / 9000, 1000 + n % 9000, n / 9000, 0⟩ else ⟨0, 0, 0, 0, 4⟩
theorem spN_ok (m n : Int) (h : (-270000 ≤ m ∧ m ≤ 278999) ∧ (-270000 ≤ n ∧ n ≤ 278999)) : spN m n = ⟨1000 + m % 9000, m / 9000, 1000 + n % 9000, n / 9000, 0⟩ := if_pos h
theorem spN_no (m n : Int) (h : ¬ ((-270000 ≤ m ∧ m ≤ 278999) ∧ (-270000 ≤ n ∧ n ≤ 278999))) : spN m n = ⟨0, 0, 0, 0, 4⟩ := if_neg h
def spU (l h : Int) : Sp := if (un l && un h) = true then spN (ff true l - 1) (ff false h) else ⟨0, 0, 0, 0, 2⟩
theorem spU_ok (l h : Int) (e : un l = true) (e' : un h = true) : spU l h = spN (ff true l - 1) (ff false h) := if_pos (by rw [e, e']; rfl)
theorem spU_no (l h : Int) (e : (un l && un h) = false) : spU l h = ⟨0, 0, 0, 0, 2⟩ := if_neg (by rw [e]; simp)
def spR (l h : Int) : Sp := if iv l h = true then spU l h else ⟨0, 0, 0, 0, 1⟩
theorem spR_ok (l h : Int) (e : iv l h = true) : spR l h = spU l h := if_pos e
theorem spR_no (l h : Int) (e : iv l h = false) : spR l h = ⟨0, 0, 0, 0, 1⟩ := if_neg (by rw [e]; simp)
def psR (a s b t : Int) : Sp := if (fg a s && fg b t) = true then spU ((flg a s).1 + (flg b t).1) ((flg a s).2 + (flg b t).2) else ⟨0, 0, 0, 0, 1⟩
theorem psR_ok (a s b t : Int) (h : (fg a s && fg b t) = true) : psR a s b t = spU ((flg a s).1 + (flg b t).1) ((flg a s).2 + (flg b t).2) := if_pos h
theorem psR_no (a s b t : Int) (h : (fg a s && fg b t) = false) : psR a s b t = ⟨0, 0, 0, 0, 1⟩ := if_neg (by rw [h]; simp)
def qsR (a s b t : Int) : Sp := if (fg a s && fg b t) = true then spU ((flg a s).1 - (flg b t).2) ((flg a s).2 - (flg b t).1) else ⟨0, 0, 0, 0, 1⟩
theorem qsR_ok (a s b t : Int) (h : (fg a s && fg b t) = true) : qsR a s b t = spU ((flg a s).1 - (flg b t).2) ((flg a s).2 - (flg b t).1) := if_pos h
theorem qsR_no (a s b t : Int) (h : (fg a s && fg b t) = false) : qsR a s b t = ⟨0, 0, 0, 0, 1⟩ := if_neg (by rw [h]; simp)
def pwR (a s n d : Int) : Sp := if fg a s = false then ⟨0, 0, 0, 0, 1⟩ else if (scR (flg a s).1 (flg a s).2 n d).2 = 0 then spU (scR (flg a s).1 (flg a s).2 n d).1.1 (scR (flg a s).1 (flg a s).2 n d).1.2 else ⟨0, 0, 0, 0, (scR (flg a s).1 (flg a s).2 n d).2⟩
theorem pwR_no (a s n d : Int) (h : fg a s = false) : pwR a s n d = ⟨0, 0, 0, 0, 1⟩ := if_pos h
theorem pwR_ok (a s n d : Int) (h : fg a s = true) (h2 : (scR (flg a s).1 (flg a s).2 n d).2 = 0) : pwR a s n d = spU (scR (flg a s).1 (flg a s).2 n d).1.1 (scR (flg a s).1 (flg a s).2 n d).1.2 := by
  unfold pwR; rw [if_neg (by rw [h]; simp), if_pos h2]
theorem pwR_bad (a s n d : Int) (h : fg a s = true) (h2 : (scR (flg a s).1 (flg a s).2 n d).2 ≠ 0) : pwR a s n d = ⟨0, 0, 0, 0, (scR (flg a s).1 (flg a s).2 n d).2⟩ := by
  unfold pwR; rw [if_neg (by rw [h]; simp), if_neg h2]
/-- The code of two ends: invalid, or in the wrong order. -/
def scd (a s b t : Int) : Int := if (fg a s && fg b t) = false then 1 else if 10000 * t + b < 10000 * s + a then 5 else 0
theorem scd_no (a s b t : Int) (h : (fg a s && fg b t) = false) : scd a s b t = 1 := if_pos h
theorem scd_st (a s b t : Int) (h : (fg a s && fg b t) = true) (h2 : 10000 * t + b < 10000 * s + a) : scd a s b t = 5 := by unfold scd; rw [if_neg (by rw [h]; simp), if_pos h2]
theorem scd_ok (a s b t : Int) (h : (fg a s && fg b t) = true) (h2 : 10000 * s + a ≤ 10000 * t + b) : scd a s b t = 0 := by unfold scd; rw [if_neg (by rw [h]; simp), if_neg (by omega)]
theorem scd_cases (a s b t : Int) : ((fg a s && fg b t) = false ∧ scd a s b t = 1) ∨ ((fg a s && fg b t) = true ∧ fg a s = true ∧ fg b t = true ∧ 10000 * t + b < 10000 * s + a ∧ scd a s b t = 5) ∨ ((fg a s && fg b t) = true ∧ fg a s = true ∧ fg b t = true ∧ 10000 * s + a ≤ 10000 * t + b ∧ scd a s b t = 0) := by
  cases h : (fg a s && fg b t)
  · exact .inl ⟨rfl, scd_no a s b t h⟩
  · have h' := h
    rw [Bool.and_eq_true] at h'
    by_cases h2 : 10000 * t + b < 10000 * s + a
    · exact .inr (.inl ⟨rfl, h'.1, h'.2, h2, scd_st a s b t h h2⟩)
    · exact .inr (.inr ⟨rfl, h'.1, h'.2, by omega, scd_ok a s b t h (by omega)⟩)
def seR (a s b t : Int) : Int × Int := if scd a s b t = 0 then reR b t a s else (0, scd a s b t)
theorem seR_ok (a s b t : Int) (h : scd a s b t = 0) : seR a s b t = reR b t a s := if_pos h
theorem seR_no (a s b t : Int) (h : scd a s b t ≠ 0) : seR a s b t = (0, scd a s b t) := if_neg h
def miR (a s b t : Int) : (Int × Int) × Int := if scd a s b t = 0 then faR (((flg a s).1 + (flg b t).2).fdiv 2) else ((0, 0), scd a s b t)
theorem miR_ok (a s b t : Int) (h : scd a s b t = 0) : miR a s b t = faR (((flg a s).1 + (flg b t).2).fdiv 2) := if_pos h
theorem miR_no (a s b t : Int) (h : scd a s b t ≠ 0) : miR a s b t = ((0, 0), scd a s b t) := if_neg h
end Go.Proofs.YtgadkpkpdpphbaaDoor
