/- Plain mathematics of texts: decimal numerals and what reads them. No program is imported here. -/
import Derived.Test.YtggflladheemoaaDoorMA
import Derived.Lib.ItoaNum
import Derived.Lib.ParseIntBCases
namespace Go.Proofs.YtggflladheemoaaDoor
set_option linter.unusedSimpArgs false
set_option linter.unusedVariables false

/-- A decimal digit. -/
def dgt (c : UInt8) : Prop := 48 ≤ c.toNat ∧ c.toNat ≤ 57
/-- The number that digits spell, behind acc. -/
def fval (acc : Nat) : List UInt8 → Nat
  | [] => acc
  | c :: r => fval (10 * acc + (c.toNat - 48)) r
theorem fval_app (acc : Nat) (l r : List UInt8) : fval acc (l ++ r) = fval (fval acc l) r := by
  induction l generalizing acc with
  | nil => rfl
  | cons c l ih => exact ih _
theorem fval_ge (acc : Nat) (l : List UInt8) : acc ≤ fval acc l := by
  induction l generalizing acc with
  | nil => exact Nat.le_refl _
  | cons c l ih => have := ih (10 * acc + (c.toNat - 48)); show acc ≤ fval (10 * acc + (c.toNat - 48)) l; omega
theorem u8_of (k : Nat) (h : k < 256) : (UInt8.ofNat k).toNat = k := by simp; omega
theorem dec_dgt (u : Nat) : ∀ c ∈ Lib.decDigits u, dgt c := by
  induction u using Nat.strongRecOn with
  | _ u ih =>
    intro c hc
    rw [Lib.decDigits] at hc
    by_cases h : u < 10
    · rw [dif_pos h] at hc
      simp only [List.mem_singleton] at hc
      subst hc
      unfold dgt
      rw [u8_of _ (by omega)]; omega
    · rw [dif_neg h] at hc
      rcases List.mem_append.1 hc with hc | hc
      · exact ih (u / 10) (by omega) c hc
      · simp only [List.mem_singleton] at hc
        subst hc
        unfold dgt
        rw [u8_of _ (by omega)]; omega
theorem fval_dec (u : Nat) : fval 0 (Lib.decDigits u) = u := by
  induction u using Nat.strongRecOn with
  | _ u ih =>
    rw [Lib.decDigits]
    by_cases h : u < 10
    · rw [dif_pos h]
      show 10 * 0 + ((UInt8.ofNat (48 + u)).toNat - 48) = u
      rw [u8_of _ (by omega)]; omega
    · rw [dif_neg h, fval_app, ih (u / 10) (by omega)]
      show 10 * (u / 10) + ((UInt8.ofNat (48 + u % 10)).toNat - 48) = u
      rw [u8_of _ (by omega)]; omega
theorem dec_ne (u : Nat) : Lib.decDigits u ≠ [] := by
  intro h
  have := Lib.decDigits_length u
  rw [h] at this
  have := Lib.nDigits_pos u
  simp at *; omega
theorem dec_len13 (u : Nat) : u < 10000000000000 ↔ (Lib.decDigits u).length ≤ 13 := by
  rw [Lib.decDigits_length]
  constructor
  · intro h
    rcases Nat.lt_or_ge 13 (Lib.nDigits u) with h1 | h1
    · exfalso
      have : ∀ (k u : Nat), u < 10 ^ k → 0 < k → Lib.nDigits u ≤ k := by
        intro k
        induction k with
        | zero => intro u _ h; omega
        | succ k ih =>
          intro u hu _
          by_cases h : u < 10
          · rw [Lib.nDigits_small h]; omega
          · rw [Lib.nDigits_big h]
            have hk : 0 < k := by
              rcases Nat.eq_zero_or_pos k with e | e
              · subst e; simp at hu; omega
              · exact e
            have := ih (u / 10) (by rw [Nat.pow_succ] at hu; omega) hk
            omega
      have := this 13 u (by omega) (by omega)
      omega
    · exact h1
  · intro h
    have h1 := Lib.lt_pow_nDigits u
    have h2 : 10 ^ Lib.nDigits u ≤ 10 ^ 13 := Nat.pow_le_pow_right (by omega) h
    omega

/-- The library's reading of a numeral of usual size. -/
theorem parseM_ok (l : List UInt8) (acc : Nat) (hd : ∀ c ∈ l, dgt c) (h : fval acc l ≤ 10000000000000000) : Lib.parseUintM 18446744073709551615 acc l = .ok (fval acc l) := by
  induction l generalizing acc with
  | nil => rfl
  | cons c l ih =>
    have hc := hd c (List.mem_cons_self ..)
    unfold dgt at hc
    have h1 := fval_ge (10 * acc + (c.toNat - 48)) l
    have h2 : fval (10 * acc + (c.toNat - 48)) l ≤ 10000000000000000 := h
    simp only [Lib.parseUintM]
    rw [if_pos hc, if_neg (by omega), if_neg (by omega), Nat.mul_comm acc 10]
    exact ih _ (fun c hc => hd c (List.mem_cons_of_mem _ hc)) h2
theorem parseB_dec (u : Nat) (h : u ≤ 10000000000000000) : Lib.parseUintB 64 (Lib.decDigits u) = .ok u := by
  unfold Lib.parseUintB
  rw [if_neg (dec_ne u)]
  have e : (2 : Nat) ^ 64 - 1 = 18446744073709551615 := by decide
  rw [e, parseM_ok _ _ (dec_dgt u) (by rw [fval_dec]; exact h), fval_dec]
theorem parse_itoa (n : Int) (h1 : -10000000000000000 ≤ n) (h2 : n ≤ 10000000000000000) : Lib.parseIntB 64 (Lib.itoa n) = .ok n := by
  unfold Lib.itoa
  by_cases h : n < 0
  · rw [if_pos h, Lib.parseIntB_minus, parseB_dec _ (by omega)]
    unfold Lib.signedC
    simp only
    rw [if_neg (by omega)]
    congr 1; omega
  · rw [if_neg h]
    have hd := dec_dgt n.toNat
    have hp := parseB_dec n.toNat (by omega)
    have hn := dec_ne n.toNat
    generalize Lib.decDigits n.toNat = l at *
    match l, hn with
    | c :: r, _ =>
      have hc := hd c (List.mem_cons_self ..)
      unfold dgt at hc
      rw [Lib.parseIntB_plain 64 c r (by omega) (by omega), hp]
      unfold Lib.signlessC
      simp only
      rw [if_neg (by omega)]
      congr 1; omega

/-- The program's reading of a value. -/
def rvI (l : List UInt8) : Int × Bool :=
  match Lib.parseIntB 64 l with
  | .ok n => if vl n = true ∧ Lib.itoa n = l then (n, true) else (0, false)
  | .syntax => (0, false)
  | .range => (0, false)
theorem rvI_ok (l : List UInt8) (n : Int) (h : Lib.parseIntB 64 l = .ok n) (h1 : vl n = true) (h2 : Lib.itoa n = l) : rvI l = (n, true) := by
  unfold rvI; rw [h]; exact if_pos ⟨h1, h2⟩
theorem rvI_no (l : List UInt8) (n : Int) (h : Lib.parseIntB 64 l = .ok n) (h1 : vl n = false ∨ Lib.itoa n ≠ l) : rvI l = (0, false) := by
  unfold rvI; rw [h]; exact if_neg (by rcases h1 with h1 | h1 <;> simp [h1])
theorem rvI_syn (l : List UInt8) (h : Lib.parseIntB 64 l = .syntax) : rvI l = (0, false) := by unfold rvI; rw [h]
theorem rvI_ran (l : List UInt8) (h : Lib.parseIntB 64 l = .range) : rvI l = (0, false) := by unfold rvI; rw [h]
theorem rvI_iff (l : List UInt8) (n : Int) : rvI l = (n, true) ↔ (vl n = true ∧ Lib.itoa n = l) := by
  constructor
  · intro h
    unfold rvI at h
    split at h
    · rename_i m hm
      split at h
      · rename_i hc
        injection h with h1 h2
        subst h1
        exact hc
      · injection h with h1 h2; cases h2
    · injection h with h1 h2; cases h2
    · injection h with h1 h2; cases h2
  · rintro ⟨h1, h2⟩
    have hv := (vl_iff n).1 h1
    exact rvI_ok l n (by rw [← h2]; exact parse_itoa n (by omega) (by omega)) h1 h2
theorem rvI_zero (l : List UInt8) (h : (rvI l).2 = false) : rvI l = (0, false) := by
  unfold rvI at *
  split at h
  · split at h
    · cases h
    · rename_i hc
      simp only [hc, if_false]
  · rfl
  · rfl

/-- The model's reading of a number of at most thirteen digits. -/
def alld (l : List UInt8) : Bool := l.all fun c => decide (48 ≤ c.toNat) && decide (c.toNat ≤ 57)
theorem alld_iff (l : List UInt8) : alld l = true ↔ ∀ c ∈ l, dgt c := by simp [alld, dgt, List.all_eq_true]
def rdv (l : List UInt8) : Int × Bool :=
  if l.length < 1 ∨ 13 < l.length then (0, false)
  else if alld l = true then (((fval 0 l : Nat) : Int), decide (Lib.decDigits (fval 0 l) = l)) else (0, false)
theorem rdv_far (l : List UInt8) (h : l.length < 1 ∨ 13 < l.length) : rdv l = (0, false) := if_pos h
theorem rdv_dig (l : List UInt8) (h : 1 ≤ l.length) (h2 : l.length ≤ 13) (hd : alld l = true) : rdv l = (((fval 0 l : Nat) : Int), decide (Lib.decDigits (fval 0 l) = l)) := by
  unfold rdv; rw [if_neg (by omega), if_pos hd]
theorem rdv_bad (l : List UInt8) (h : 1 ≤ l.length) (h2 : l.length ≤ 13) (hd : alld l = false) : rdv l = (0, false) := by
  unfold rdv; rw [if_neg (by omega), if_neg (by rw [hd]; simp)]
theorem rdv_true (l : List UInt8) (n : Int) : rdv l = (n, true) ↔ (0 ≤ n ∧ n < 10000000000000 ∧ Lib.itoa n = l) := by
  constructor
  · intro h
    unfold rdv at h
    split at h
    · injection h with h1 h2; cases h2
    · split at h
      · rename_i hl hd
        injection h with h1 h2
        have h2 := of_decide_eq_true h2
        subst h1
        have h3 := (dec_len13 (fval 0 l)).2 (by rw [h2]; omega)
        refine ⟨by omega, by omega, ?_⟩
        unfold Lib.itoa
        rw [if_neg (by omega)]
        simpa using h2
      · injection h with h1 h2; cases h2
  · rintro ⟨h1, h2, h3⟩
    unfold Lib.itoa at h3
    rw [if_neg (by omega)] at h3
    obtain ⟨u, rfl⟩ := Int.eq_ofNat_of_zero_le h1
    simp only [Int.toNat_natCast] at h3
    subst h3
    have hl := (dec_len13 u).1 (by omega)
    have hn := dec_ne u
    rw [rdv_dig _ (by rcases List.length_pos_iff.2 hn with h; omega) hl ((alld_iff _).2 (dec_dgt u)), fval_dec]
    simp
theorem fval_lt (l : List UInt8) (acc : Nat) (hd : ∀ c ∈ l, dgt c) : fval acc l < (acc + 1) * 10 ^ l.length := by
  induction l generalizing acc with
  | nil => show acc < (acc + 1) * 10 ^ 0; omega
  | cons c l ih =>
    have hc := hd c (List.mem_cons_self ..)
    unfold dgt at hc
    have := ih (10 * acc + (c.toNat - 48)) (fun c hc => hd c (List.mem_cons_of_mem _ hc))
    show fval (10 * acc + (c.toNat - 48)) l < (acc + 1) * 10 ^ (l.length + 1)
    have h3 : (10 * acc + (c.toNat - 48) + 1) * 10 ^ l.length ≤ (10 * (acc + 1)) * 10 ^ l.length := Nat.mul_le_mul_right _ (by omega)
    have h4 : (10 * (acc + 1)) * 10 ^ l.length = (acc + 1) * 10 ^ (l.length + 1) := by rw [Nat.pow_succ, Nat.mul_comm 10 (acc + 1), Nat.mul_assoc, Nat.mul_comm 10]
    exact Nat.lt_of_lt_of_le this (h4 ▸ h3)
theorem rdv_bd (l : List UInt8) : 0 ≤ (rdv l).1 ∧ (rdv l).1 < 10000000000000 := by
  by_cases h1 : l.length < 1 ∨ 13 < l.length
  · rw [rdv_far l h1]; exact ⟨Int.le_refl _, by decide⟩
  · by_cases h2 : alld l = true
    · rw [rdv_dig l (by omega) (by omega) h2]
      refine ⟨Int.natCast_nonneg _, ?_⟩
      have h3 := fval_lt l 0 ((alld_iff l).1 h2)
      have h4 : 10 ^ l.length ≤ 10 ^ 13 := Nat.pow_le_pow_right (by omega) (by omega)
      have e : (10 : Nat) ^ 13 = 10000000000000 := by decide
      rw [e] at h4
      generalize 10 ^ l.length = q at *
      show ((fval 0 l : Nat) : Int) < 10000000000000
      omega
    · rw [rdv_bad l (by omega) (by omega) (by simpa using h2)]; exact ⟨Int.le_refl _, by decide⟩
/-- .. with a sign. -/
def rds (l : List UInt8) : Int × Bool :=
  match l with
  | [] => (0, false)
  | c :: r => if c = 45 then (-(rdv r).1, (rdv r).2 && decide (0 < (rdv r).1)) else rdv (c :: r)
theorem rds_true (l : List UInt8) (n : Int) : rds l = (n, true) ↔ (-10000000000000 < n ∧ n < 10000000000000 ∧ Lib.itoa n = l) := by
  match l with
  | [] =>
    constructor
    · intro h; injection h with h1 h2; cases h2
    · rintro ⟨_, _, h⟩
      unfold Lib.itoa at h
      split at h
      · cases h
      · exact absurd h (dec_ne _)
  | c :: r =>
    show (if c = 45 then (-(rdv r).1, (rdv r).2 && decide (0 < (rdv r).1)) else rdv (c :: r)) = (n, true) ↔ _
    by_cases hc : c = 45
    · subst hc
      rw [if_pos rfl]
      constructor
      · intro h
        injection h with h1 h2
        rw [Bool.and_eq_true, decide_eq_true_eq] at h2
        obtain ⟨h2, h3⟩ := h2
        have h4 : rdv r = ((rdv r).1, true) := by rw [← h2]
        obtain ⟨h5, h6, h7⟩ := (rdv_true r _).1 h4
        generalize (rdv r).1 = m at *
        subst h1
        refine ⟨by omega, by omega, ?_⟩
        unfold Lib.itoa at *
        rw [if_neg (by omega)] at h7
        rw [if_pos (by omega), ← h7]
        congr 2; omega
      · rintro ⟨h1, h2, h3⟩
        unfold Lib.itoa at h3
        by_cases hn : n < 0
        · rw [if_pos hn] at h3
          injection h3 with _ h3
          have h4 : rdv r = (-n, true) := (rdv_true r (-n)).2 ⟨by omega, by omega, by unfold Lib.itoa; rw [if_neg (by omega), ← h3]; congr 1; omega⟩
          rw [h4]
          simp; omega
        · rw [if_neg hn] at h3
          have := dec_dgt n.toNat 45 (by rw [h3]; exact List.mem_cons_self ..)
          unfold dgt at this
          have e : (45 : UInt8).toNat = 45 := rfl
          omega
    · rw [if_neg hc, rdv_true]
      constructor
      · rintro ⟨h1, h2, h3⟩; exact ⟨by omega, h2, h3⟩
      · rintro ⟨h1, h2, h3⟩
        refine ⟨?_, h2, h3⟩
        unfold Lib.itoa at h3
        split at h3
        · injection h3 with h3 _
          exact absurd h3.symm hc
        · omega
theorem rds_bd (l : List UInt8) : -10000000000000 < (rds l).1 ∧ (rds l).1 < 10000000000000 := by
  match l with
  | [] => exact ⟨by show (-10000000000000 : Int) < 0; omega, by show (0 : Int) < _; omega⟩
  | c :: r =>
    show _ < (if c = 45 then (-(rdv r).1, (rdv r).2 && decide (0 < (rdv r).1)) else rdv (c :: r)).1 ∧ (if c = 45 then (-(rdv r).1, (rdv r).2 && decide (0 < (rdv r).1)) else rdv (c :: r)).1 < _
    have h1 := rdv_bd r
    have h2 := rdv_bd (c :: r)
    split
    · exact ⟨by show _ < -(rdv r).1; omega, by show -(rdv r).1 < _; omega⟩
    · omega

/-- A figure out of its two numerals. -/
def rf2 (a b : Int × Bool) : (Int × Int) × Int := if (a.2 && b.2 && fg a.1 b.1) = true then ((a.1, b.1), 0) else ((0, 0), 6)
theorem rf2_ok (a b : Int × Bool) (h : (a.2 && b.2 && fg a.1 b.1) = true) : rf2 a b = ((a.1, b.1), 0) := if_pos h
theorem rf2_no (a b : Int × Bool) (h : (a.2 && b.2 && fg a.1 b.1) = false) : rf2 a b = ((0, 0), 6) := if_neg (by rw [h]; simp)
theorem rf2_same (x y : List UInt8) : rf2 (rvI x) (rvI y) = rf2 (rdv x) (rds y) := by
  by_cases h : ∃ d t, fg d t = true ∧ Lib.itoa d = x ∧ Lib.itoa t = y
  · obtain ⟨d, t, h1, h2, h3⟩ := h
    obtain ⟨⟨a1, a2⟩, t1, t2⟩ := (fg_iff d t).1 h1
    rw [(rvI_iff x d).2 ⟨(vl_iff d).2 (by omega), h2⟩, (rvI_iff y t).2 ⟨(vl_iff t).2 (by omega), h3⟩, (rdv_true x d).2 ⟨by omega, by omega, h2⟩, (rds_true y t).2 ⟨by omega, by omega, h3⟩]
  · have e1 : rf2 (rvI x) (rvI y) = ((0, 0), 6) := by
      unfold rf2
      rw [if_neg]
      intro hc
      rw [Bool.and_eq_true, Bool.and_eq_true] at hc
      obtain ⟨⟨c1, c2⟩, c3⟩ := hc
      have k1 := (rvI_iff x (rvI x).1).1 (by rw [← c1])
      have k2 := (rvI_iff y (rvI y).1).1 (by rw [← c2])
      exact h ⟨_, _, c3, k1.2, k2.2⟩
    have e2 : rf2 (rdv x) (rds y) = ((0, 0), 6) := by
      unfold rf2
      rw [if_neg]
      intro hc
      rw [Bool.and_eq_true, Bool.and_eq_true] at hc
      obtain ⟨⟨c1, c2⟩, c3⟩ := hc
      have k1 := (rdv_true x (rdv x).1).1 (by rw [← c1])
      have k2 := (rds_true y (rds y).1).1 (by rw [← c2])
      exact h ⟨_, _, c3, k1.2.2, k2.2.2⟩
    rw [e1, e2]
end Go.Proofs.YtggflladheemoaaDoor
