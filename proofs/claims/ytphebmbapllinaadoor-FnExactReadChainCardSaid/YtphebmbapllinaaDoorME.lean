/- Plain mathematics, merged. -/
import Derived.Test.YtphebmbapllinaaDoorMA
import Derived.Lib.ItoaNum
import Derived.Lib.ParseIntBCases
import Derived.Lib.Split
import Derived.Lib.IndexBytes
/- Plain mathematics of texts: decimal numerals and what reads them. No program is imported here. -/
namespace Go.Proofs.YtphebmbapllinaaDoor
set_option linter.unusedSimpArgs false
set_option linter.unusedVariables false

/-- A decimal digit. -/
def dgt (c : UInt8) : Prop := 48 ≤ c.toNat ∧ c.toNat ≤ 57
/-- The number that digits spell, behind acc. -/
def fval (acc : Nat) : List UInt8 → Nat
  | [] => acc
  | c :: r => fval (10 * acc + (c.toNat - 48)) r
theorem fval_app (acc : Nat) (l r : List UInt8) : fval acc (l ++ r) = fval (fval acc l) r := by
  induction l generalizing acc with
  | nil => rfl
  | cons c l ih => exact ih _
theorem fval_ge (acc : Nat) (l : List UInt8) : acc ≤ fval acc l := by
  induction l generalizing acc with
  | nil => exact Nat.le_refl _
  | cons c l ih => have := ih (10 * acc + (c.toNat - 48)); show acc ≤ fval (10 * acc + (c.toNat - 48)) l; omega
theorem u8_of (k : Nat) (h : k < 256) : (UInt8.ofNat k).toNat = k := by simp; omega
theorem dec_dgt (u : Nat) : ∀ c ∈ Lib.decDigits u, dgt c := by
  induction u using Nat.strongRecOn with
  | _ u ih =>
    intro c hc
    rw [Lib.decDigits] at hc
    by_cases h : u < 10
    · rw [dif_pos h] at hc
      simp only [List.mem_singleton] at hc
      subst hc
      unfold dgt
      rw [u8_of _ (by omega)]; omega
    · rw [dif_neg h] at hc
      rcases List.mem_append.1 hc with hc | hc
      · exact ih (u / 10) (by omega) c hc
      · simp only [List.mem_singleton] at hc
        subst hc
        unfold dgt
        rw [u8_of _ (by omega)]; omega
theorem fval_dec (u : Nat) : fval 0 (Lib.decDigits u) = u := by
  induction u using Nat.strongRecOn with
  | _ u ih =>
    rw [Lib.decDigits]
    by_cases h : u < 10
    · rw [dif_pos h]
      show 10 * 0 + ((UInt8.ofNat (48 + u)).toNat - 48) = u
      rw [u8_of _ (by omega)]; omega
    · rw [dif_neg h, fval_app, ih (u / 10) (by omega)]
      show 10 * (u / 10) + ((UInt8.ofNat (48 + u % 10)).toNat - 48) = u
      rw [u8_of _ (by omega)]; omega
theorem dec_ne (u : Nat) : Lib.decDigits u ≠ [] := by
  intro h
  have := Lib.decDigits_length u
  rw [h] at this
  have := Lib.nDigits_pos u
  simp at *; omega
theorem dec_len13 (u : Nat) : u < 10000000000000 ↔ (Lib.decDigits u).length ≤ 13 := by
  rw [Lib.decDigits_length]
  constructor
  · intro h
    rcases Nat.lt_or_ge 13 (Lib.nDigits u) with h1 | h1
    · exfalso
      have : ∀ (k u : Nat), u < 10 ^ k → 0 < k → Lib.nDigits u ≤ k := by
        intro k
        induction k with
        | zero => intro u _ h; omega
        | succ k ih =>
          intro u hu _
          by_cases h : u < 10
          · rw [Lib.nDigits_small h]; omega
          · rw [Lib.nDigits_big h]
            have hk : 0 < k := by
              rcases Nat.eq_zero_or_pos k with e | e
              · subst e; simp at hu; omega
              · exact e
            have := ih (u / 10) (by rw [Nat.pow_succ] at hu; omega) hk
            omega
      have := this 13 u (by omega) (by omega)
      omega
    · exact h1
  · intro h
    have h1 := Lib.lt_pow_nDigits u
    have h2 : 10 ^ Lib.nDigits u ≤ 10 ^ 13 := Nat.pow_le_pow_right (by omega) h
    omega

/-- The library's reading of a numeral of usual size. -/
theorem parseM_ok (l : List UInt8) (acc : Nat) (hd : ∀ c ∈ l, dgt c) (h : fval acc l ≤ 10000000000000000) : Lib.parseUintM 18446744073709551615 acc l = .ok (fval acc l) := by
  induction l generalizing acc with
  | nil => rfl
  | cons c l ih =>
    have hc := hd c (List.mem_cons_self ..)
    unfold dgt at hc
    have h1 := fval_ge (10 * acc + (c.toNat - 48)) l
    have h2 : fval (10 * acc + (c.toNat - 48)) l ≤ 10000000000000000 := h
    simp only [Lib.parseUintM]
    rw [if_pos hc, if_neg (by omega), if_neg (by omega), Nat.mul_comm acc 10]
    exact ih _ (fun c hc => hd c (List.mem_cons_of_mem _ hc)) h2
theorem parseB_dec (u : Nat) (h : u ≤ 10000000000000000) : Lib.parseUintB 64 (Lib.decDigits u) = .ok u := by
  unfold Lib.parseUintB
  rw [if_neg (dec_ne u)]
  have e : (2 : Nat) ^ 64 - 1 = 18446744073709551615 := by decide
  rw [e, parseM_ok _ _ (dec_dgt u) (by rw [fval_dec]; exact h), fval_dec]
theorem parse_itoa (n : Int) (h1 : -10000000000000000 ≤ n) (h2 : n ≤ 10000000000000000) : Lib.parseIntB 64 (Lib.itoa n) = .ok n := by
  unfold Lib.itoa
  by_cases h : n < 0
  · rw [if_pos h, Lib.parseIntB_minus, parseB_dec _ (by omega)]
    unfold Lib.signedC
    simp only
    rw [if_neg (by omega)]
    congr 1; omega
  · rw [if_neg h]
    have hd := dec_dgt n.toNat
    have hp := parseB_dec n.toNat (by omega)
    have hn := dec_ne n.toNat
    generalize Lib.decDigits n.toNat = l at *
    match l, hn with
    | c :: r, _ =>
      have hc := hd c (List.mem_cons_self ..)
      unfold dgt at hc
      rw [Lib.parseIntB_plain 64 c r (by omega) (by omega), hp]
      unfold Lib.signlessC
      simp only
      rw [if_neg (by omega)]
      congr 1; omega

/-- The program's reading of a value. -/
def rvI (l : List UInt8) : Int × Bool :=
  match Lib.parseIntB 64 l with
  | .ok n => if vl n = true ∧ Lib.itoa n = l then (n, true) else (0, false)
  | .syntax => (0, false)
  | .range => (0, false)
theorem rvI_ok (l : List UInt8) (n : Int) (h : Lib.parseIntB 64 l = .ok n) (h1 : vl n = true) (h2 : Lib.itoa n = l) : rvI l = (n, true) := by
  unfold rvI; rw [h]; exact if_pos ⟨h1, h2⟩
theorem rvI_no (l : List UInt8) (n : Int) (h : Lib.parseIntB 64 l = .ok n) (h1 : vl n = false ∨ Lib.itoa n ≠ l) : rvI l = (0, false) := by
  unfold rvI; rw [h]; exact if_neg (by rcases h1 with h1 | h1 <;> simp [h1])
theorem rvI_syn (l : List UInt8) (h : Lib.parseIntB 64 l = .syntax) : rvI l = (0, false) := by unfold rvI; rw [h]
theorem rvI_ran (l : List UInt8) (h : Lib.parseIntB 64 l = .range) : rvI l = (0, false) := by unfold rvI; rw [h]
theorem rvI_iff (l : List UInt8) (n : Int) : rvI l = (n, true) ↔ (vl n = true ∧ Lib.itoa n = l) := by
  constructor
  · intro h
    unfold rvI at h
    split at h
    · rename_i m hm
      split at h
      · rename_i hc
        injection h with h1 h2
        subst h1
        exact hc
      · injection h with h1 h2; cases h2
    · injection h with h1 h2; cases h2
    · injection h with h1 h2; cases h2
  · rintro ⟨h1, h2⟩
    have hv := (vl_iff n).1 h1
    exact rvI_ok l n (by rw [← h2]; exact parse_itoa n (by omega) (by omega)) h1 h2
theorem rvI_zero (l : List UInt8) (h : (rvI l).2 = false) : rvI l = (0, false) := by
  unfold rvI at *
  split at h
  · split at h
    · cases h
    · rename_i hc
      simp only [hc, if_false]
  · rfl
  · rfl

/-- The model's reading of a number of at most thirteen digits. -/
def alld (l : List UInt8) : Bool := l.all fun c => decide (48 ≤ c.toNat) && decide (c.toNat ≤ 57)
theorem alld_iff (l : List UInt8) : alld l = true ↔ ∀ c ∈ l, dgt c := by simp [alld, dgt, List.all_eq_true]
def rdv (l : List UInt8) : Int × Bool :=
  if l.length < 1 ∨ 13 < l.length then (0, false)
  else if alld l = true then (((fval 0 l : Nat) : Int), decide (Lib.decDigits (fval 0 l) = l)) else (0, false)
theorem rdv_far (l : List UInt8) (h : l.length < 1 ∨ 13 < l.length) : rdv l = (0, false) := if_pos h
theorem rdv_dig (l : List UInt8) (h : 1 ≤ l.length) (h2 : l.length ≤ 13) (hd : alld l = true) : rdv l = (((fval 0 l : Nat) : Int), decide (Lib.decDigits (fval 0 l) = l)) := by
  unfold rdv; rw [if_neg (by omega), if_pos hd]
theorem rdv_bad (l : List UInt8) (h : 1 ≤ l.length) (h2 : l.length ≤ 13) (hd : alld l = false) : rdv l = (0, false) := by
  unfold rdv; rw [if_neg (by omega), if_neg (by rw [hd]; simp)]
theorem rdv_true (l : List UInt8) (n : Int) : rdv l = (n, true) ↔ (0 ≤ n ∧ n < 10000000000000 ∧ Lib.itoa n = l) := by
  constructor
  · intro h
    unfold rdv at h
    split at h
    · injection h with h1 h2; cases h2
    · split at h
      · rename_i hl hd
        injection h with h1 h2
        have h2 := of_decide_eq_true h2
        subst h1
        have h3 := (dec_len13 (fval 0 l)).2 (by rw [h2]; omega)
        refine ⟨by omega, by omega, ?_⟩
        unfold Lib.itoa
        rw [if_neg (by omega)]
        simpa using h2
      · injection h with h1 h2; cases h2
  · rintro ⟨h1, h2, h3⟩
    unfold Lib.itoa at h3
    rw [if_neg (by omega)] at h3
    obtain ⟨u, rfl⟩ := Int.eq_ofNat_of_zero_le h1
    simp only [Int.toNat_natCast] at h3
    subst h3
    have hl := (dec_len13 u).1 (by omega)
    have hn := dec_ne u
    rw [rdv_dig _ (by rcases List.length_pos_iff.2 hn with h; omega) hl ((alld_iff _).2 (dec_dgt u)), fval_dec]
    simp
theorem fval_lt (l : List UInt8) (acc : Nat) (hd : ∀ c ∈ l, dgt c) : fval acc l < (acc + 1) * 10 ^ l.length := by
  induction l generalizing acc with
  | nil => show acc < (acc + 1) * 10 ^ 0; omega
  | cons c l ih =>
    have hc := hd c (List.mem_cons_self ..)
    unfold dgt at hc
    have := ih (10 * acc + (c.toNat - 48)) (fun c hc => hd c (List.mem_cons_of_mem _ hc))
    show fval (10 * acc + (c.toNat - 48)) l < (acc + 1) * 10 ^ (l.length + 1)
    have h3 : (10 * acc + (c.toNat - 48) + 1) * 10 ^ l.length ≤ (10 * (acc + 1)) * 10 ^ l.length := Nat.mul_le_mul_right _ (by omega)
    have h4 : (10 * (acc + 1)) * 10 ^ l.length = (acc + 1) * 10 ^ (l.length + 1) := by rw [Nat.pow_succ, Nat.mul_comm 10 (acc + 1), Nat.mul_assoc, Nat.mul_comm 10]
    exact Nat.lt_of_lt_of_le this (h4 ▸ h3)
theorem rdv_bd (l : List UInt8) : 0 ≤ (rdv l).1 ∧ (rdv l).1 < 10000000000000 := by
  by_cases h1 : l.length < 1 ∨ 13 < l.length
  · rw [rdv_far l h1]; exact ⟨Int.le_refl _, by decide⟩
  · by_cases h2 : alld l = true
    · rw [rdv_dig l (by omega) (by omega) h2]
      refine ⟨Int.natCast_nonneg _, ?_⟩
      have h3 := fval_lt l 0 ((alld_iff l).1 h2)
      have h4 : 10 ^ l.length ≤ 10 ^ 13 := Nat.pow_le_pow_right (by omega) (by omega)
      have e : (10 : Nat) ^ 13 = 10000000000000 := by decide
      rw [e] at h4
      generalize 10 ^ l.length = q at *
      show ((fval 0 l : Nat) : Int) < 10000000000000
      omega
    · rw [rdv_bad l (by omega) (by omega) (by simpa using h2)]; exact ⟨Int.le_refl _, by decide⟩
/-- .. with a sign. -/
def rds (l : List UInt8) : Int × Bool :=
  match l with
  | [] => (0, false)
  | c :: r => if c = 45 then (-(rdv r).1, (rdv r).2 && decide (0 < (rdv r).1)) else rdv (c :: r)
theorem rds_true (l : List UInt8) (n : Int) : rds l = (n, true) ↔ (-10000000000000 < n ∧ n < 10000000000000 ∧ Lib.itoa n = l) := by
  match l with
  | [] =>
    constructor
    · intro h; injection h with h1 h2; cases h2
    · rintro ⟨_, _, h⟩
      unfold Lib.itoa at h
      split at h
      · cases h
      · exact absurd h (dec_ne _)
  | c :: r =>
    show (if c = 45 then (-(rdv r).1, (rdv r).2 && decide (0 < (rdv r).1)) else rdv (c :: r)) = (n, true) ↔ _
    by_cases hc : c = 45
    · subst hc
      rw [if_pos rfl]
      constructor
      · intro h
        injection h with h1 h2
        rw [Bool.and_eq_true, decide_eq_true_eq] at h2
        obtain ⟨h2, h3⟩ := h2
        have h4 : rdv r = ((rdv r).1, true) := by rw [← h2]
        obtain ⟨h5, h6, h7⟩ := (rdv_true r _).1 h4
        generalize (rdv r).1 = m at *
        subst h1
        refine ⟨by omega, by omega, ?_⟩
        unfold Lib.itoa at *
        rw [if_neg (by omega)] at h7
        rw [if_pos (by omega), ← h7]
        congr 2; omega
      · rintro ⟨h1, h2, h3⟩
        unfold Lib.itoa at h3
        by_cases hn : n < 0
        · rw [if_pos hn] at h3
          injection h3 with _ h3
          have h4 : rdv r = (-n, true) := (rdv_true r (-n)).2 ⟨by omega, by omega, by unfold Lib.itoa; rw [if_neg (by omega), ← h3]; congr 1; omega⟩
          rw [h4]
          simp; omega
        · rw [if_neg hn] at h3
          have := dec_dgt n.toNat 45 (by rw [h3]; exact List.mem_cons_self ..)
          unfold dgt at this
          have e : (45 : UInt8).toNat = 45 := rfl
          omega
    · rw [if_neg hc, rdv_true]
      constructor
      · rintro ⟨h1, h2, h3⟩; exact ⟨by omega, h2, h3⟩
      · rintro ⟨h1, h2, h3⟩
        refine ⟨?_, h2, h3⟩
        unfold Lib.itoa at h3
        split at h3
        · injection h3 with h3 _
          exact absurd h3.symm hc
        · omega
theorem rds_bd (l : List UInt8) : -10000000000000 < (rds l).1 ∧ (rds l).1 < 10000000000000 := by
  match l with
  | [] => exact ⟨by show (-10000000000000 : Int) < 0; omega, by show (0 : Int) < _; omega⟩
  | c :: r =>
    show _ < (if c = 45 then (-(rdv r).1, (rdv r).2 && decide (0 < (rdv r).1)) else rdv (c :: r)).1 ∧ (if c = 45 then (-(rdv r).1, (rdv r).2 && decide (0 < (rdv r).1)) else rdv (c :: r)).1 < _
    have h1 := rdv_bd r
    have h2 := rdv_bd (c :: r)
    split
    · exact ⟨by show _ < -(rdv r).1; omega, by show -(rdv r).1 < _; omega⟩
    · omega

/-- A figure out of its two numerals. -/
def rf2 (a b : Int × Bool) : (Int × Int) × Int := if (a.2 && b.2 && fg a.1 b.1) = true then ((a.1, b.1), 0) else ((0, 0), 6)
theorem rf2_ok (a b : Int × Bool) (h : (a.2 && b.2 && fg a.1 b.1) = true) : rf2 a b = ((a.1, b.1), 0) := if_pos h
theorem rf2_no (a b : Int × Bool) (h : (a.2 && b.2 && fg a.1 b.1) = false) : rf2 a b = ((0, 0), 6) := if_neg (by rw [h]; simp)
theorem rf2_same (x y : List UInt8) : rf2 (rvI x) (rvI y) = rf2 (rdv x) (rds y) := by
  by_cases h : ∃ d t, fg d t = true ∧ Lib.itoa d = x ∧ Lib.itoa t = y
  · obtain ⟨d, t, h1, h2, h3⟩ := h
    obtain ⟨⟨a1, a2⟩, t1, t2⟩ := (fg_iff d t).1 h1
    rw [(rvI_iff x d).2 ⟨(vl_iff d).2 (by omega), h2⟩, (rvI_iff y t).2 ⟨(vl_iff t).2 (by omega), h3⟩, (rdv_true x d).2 ⟨by omega, by omega, h2⟩, (rds_true y t).2 ⟨by omega, by omega, h3⟩]
  · have e1 : rf2 (rvI x) (rvI y) = ((0, 0), 6) := by
      unfold rf2
      rw [if_neg]
      intro hc
      rw [Bool.and_eq_true, Bool.and_eq_true] at hc
      obtain ⟨⟨c1, c2⟩, c3⟩ := hc
      have k1 := (rvI_iff x (rvI x).1).1 (by rw [← c1])
      have k2 := (rvI_iff y (rvI y).1).1 (by rw [← c2])
      exact h ⟨_, _, c3, k1.2, k2.2⟩
    have e2 : rf2 (rdv x) (rds y) = ((0, 0), 6) := by
      unfold rf2
      rw [if_neg]
      intro hc
      rw [Bool.and_eq_true, Bool.and_eq_true] at hc
      obtain ⟨⟨c1, c2⟩, c3⟩ := hc
      have k1 := (rdv_true x (rdv x).1).1 (by rw [← c1])
      have k2 := (rds_true y (rds y).1).1 (by rw [← c2])
      exact h ⟨_, _, c3, k1.2.2, k2.2.2⟩
    rw [e1, e2]
end Go.Proofs.YtphebmbapllinaaDoor

/- Plain mathematics of lists read from texts: splitting at commas, numbers out of pieces. No program is imported here. -/
namespace Go.Proofs.YtphebmbapllinaaDoor
set_option linter.unusedSimpArgs false
set_option linter.unusedVariables false

/-- The pieces between commas. -/
def spl : List UInt8 → List (List UInt8)
  | [] => [[]]
  | c :: r => if c = 44 then [] :: spl r else match spl r with
    | [] => [[c]]
    | p :: ps => (c :: p) :: ps
theorem spl_ne (l : List UInt8) : spl l ≠ [] := by
  cases l with
  | nil => simp [spl]
  | cons c r =>
    unfold spl
    split
    · simp
    · split <;> simp
theorem spl_comma (r : List UInt8) : spl (44 :: r) = [] :: spl r := by rw [spl, if_pos rfl]
theorem spl_else (c : UInt8) (r p : List UInt8) (ps : List (List UInt8)) (h : c ≠ 44) (e : spl r = p :: ps) : spl (c :: r) = (c :: p) :: ps := by rw [spl, if_neg h, e]
theorem spl_cut (a b : List UInt8) (ha : ∀ c ∈ a, c ≠ 44) : spl (a ++ 44 :: b) = a :: spl b := by
  induction a with
  | nil => exact spl_comma b
  | cons c a ih => exact spl_else c _ _ _ (ha c (by simp)) (ih fun x hx => ha x (by simp [hx]))
theorem spl_none (a : List UInt8) (ha : ∀ c ∈ a, c ≠ 44) : spl a = [a] := by
  induction a with
  | nil => rfl
  | cons c a ih => exact spl_else c _ _ _ (ha c (by simp)) (ih fun x hx => ha x (by simp [hx]))
/-- One byte more at the end. -/
theorem spl_snoc_comma (l : List UInt8) : spl (l ++ [44]) = spl l ++ [[]] := by
  induction l with
  | nil => rfl
  | cons c r ih =>
    by_cases h : c = 44
    · subst h; rw [List.cons_append, spl_comma, spl_comma, ih]; rfl
    · obtain ⟨p, ps, e⟩ := List.exists_cons_of_ne_nil (spl_ne r)
      rw [List.cons_append, spl_else c r p ps h e, spl_else c _ p (ps ++ [[]]) h (by rw [ih, e]; rfl)]; rfl
theorem spl_snoc (l : List UInt8) (x : UInt8) (hx : x ≠ 44) (qs : List (List UInt8)) (q : List UInt8) (e : spl l = qs ++ [q]) : spl (l ++ [x]) = qs ++ [q ++ [x]] := by
  induction l generalizing qs q with
  | nil =>
    have hq : qs = [] ∧ q = [] := by
      have : ([[]] : List (List UInt8)) = qs ++ [q] := e
      cases qs with
      | nil => simp at this; exact ⟨rfl, this⟩
      | cons a b => have := congrArg List.length this; simp at this
    rw [hq.1, hq.2]
    exact spl_none [x] (by simp [hx])
  | cons c r ih =>
    by_cases h : c = 44
    · subst h
      rw [spl_comma] at e
      cases qs with
      | nil =>
        have := congrArg List.length e
        simp at this
        exact absurd this (spl_ne r)
      | cons a b =>
        rw [List.cons_append] at e
        injection e with e1 e2
        rw [List.cons_append, spl_comma, ih b q e2, ← e1]; rfl
    · obtain ⟨p, ps, e'⟩ := List.exists_cons_of_ne_nil (spl_ne r)
      rw [spl_else c r p ps h e'] at e
      cases qs with
      | nil =>
        rw [List.nil_append] at e
        injection e with e1 e2
        subst e2 e1
        have := ih [] p (by rw [e']; rfl)
        rw [List.cons_append, spl_else c _ _ _ h (by rw [this]; rfl)]; rfl
      | cons a b =>
        rw [List.cons_append] at e
        injection e with e1 e2
        subst e2 e1
        have := ih (p :: b) q (by rw [e']; rfl)
        rw [List.cons_append, spl_else c _ _ _ h (by rw [this]; rfl)]; rfl

/-- Where the first comma is. -/
theorem ib_none (l : List UInt8) (h : Lib.indexByte l 44 = -1) : ∀ c ∈ l, c ≠ 44 := by
  induction l with
  | nil => simp
  | cons b r ih =>
    unfold Lib.indexByte at h
    split at h
    · omega
    · rename_i hb
      have hb' : b ≠ 44 := by simpa using hb
      split at h
      · rename_i h1
        intro c hc
        rcases List.mem_cons.1 hc with rfl | hc
        · exact hb'
        · exact ih (by simpa using h1) c hc
      · rename_i h1
        have := Lib.index_ge r [44]
        rw [Lib.index_one] at this
        have h1' : Lib.indexByte r 44 ≠ -1 := by simpa using h1
        omega
theorem ib_some (l : List UInt8) (i : Nat) (h : Lib.indexByte l 44 = i) : ∃ a b, l = a ++ 44 :: b ∧ a.length = i ∧ ∀ c ∈ a, c ≠ 44 := by
  induction l generalizing i with
  | nil => unfold Lib.indexByte at h; omega
  | cons b r ih =>
    unfold Lib.indexByte at h
    split at h
    · rename_i hb
      have hb' : b = 44 := by simpa using hb
      exact ⟨[], r, by rw [hb']; rfl, by simp; omega, by simp⟩
    · rename_i hb
      have hb' : b ≠ 44 := by simpa using hb
      split at h
      · omega
      · have := Lib.index_ge r [44]
        rw [Lib.index_one] at this
        obtain ⟨j, hj⟩ : ∃ j : Nat, Lib.indexByte r 44 = j := by
          rename_i h1
          have h1' : Lib.indexByte r 44 ≠ -1 := by simpa using h1
          exact ⟨(Lib.indexByte r 44).toNat, by omega⟩
        obtain ⟨a, c, e, hl, ha⟩ := ih j hj
        refine ⟨b :: a, c, by rw [e]; rfl, by simp; omega, ?_⟩
        intro x hx
        rcases List.mem_cons.1 hx with rfl | hx
        · exact hb'
        · exact ha x hx
/-- A split into at most k + 1 pieces: all pieces, or k + 1 of them. -/
theorem splitK_spl : ∀ (k : Nat) (l : List UInt8), ((spl l).length ≤ k + 1 → Lib.splitK [44] 0 k l = spl l) ∧ (k + 1 < (spl l).length → (Lib.splitK [44] 0 k l).length = k + 1)
  | 0, l => by
    refine ⟨fun h => ?_, fun _ => rfl⟩
    have hi := Lib.index_ge l [44]
    rw [Lib.index_one] at hi
    by_cases hm : Lib.indexByte l 44 = -1
    · rw [spl_none l (ib_none l hm)]; rfl
    · obtain ⟨a, b, e, -, ha⟩ := ib_some l (Lib.indexByte l 44).toNat (by omega)
      rw [e, spl_cut a b ha, List.length_cons] at h
      have := List.length_pos_iff.2 (spl_ne b)
      omega
  | k + 1, l => by
    have hi := Lib.index_ge l [44]
    rw [Lib.index_one] at hi
    unfold Lib.splitK
    rw [Lib.index_one]
    by_cases hm : Lib.indexByte l 44 = -1
    · rw [if_pos (by rw [hm]; rfl), spl_none l (ib_none l hm)]
      exact ⟨fun _ => rfl, fun h => by simp at h⟩
    · rw [if_neg (by simpa using hm)]
      obtain ⟨a, b, e, hl, ha⟩ := ib_some l (Lib.indexByte l 44).toNat (by omega)
      generalize (Lib.indexByte l 44).toNat = i at *
      subst hl
      have e1 : l.take (a.length + 0) = a := by rw [e]; simp
      have e2 : l.drop (a.length + 1) = b := by rw [e]; simp
      show (_ → l.take (a.length + 0) :: Lib.splitK [44] 0 k (l.drop (a.length + 1)) = spl l) ∧ (_ → (l.take (a.length + 0) :: Lib.splitK [44] 0 k (l.drop (a.length + 1))).length = k + 1 + 1)
      rw [e1, e2, e, spl_cut a b ha]
      obtain ⟨ih1, ih2⟩ := splitK_spl k b
      constructor
      · intro h
        rw [ih1 (by simp at h; omega)]
      · intro h
        rw [List.length_cons, ih2 (by simp at h; omega)]
theorem spl_length (l : List UInt8) : (spl l).length ≤ l.length + 1 := by
  induction l with
  | nil => simp [spl]
  | cons c r ih =>
    by_cases h : c = 44
    · subst h; rw [spl_comma]; simp; omega
    · obtain ⟨p, ps, e⟩ := List.exists_cons_of_ne_nil (spl_ne r)
      rw [spl_else c r p ps h e]
      rw [e] at ih
      simp at ih ⊢
      omega
theorem spl_size (l : List UInt8) : ∀ p ∈ spl l, p.length ≤ l.length := by
  induction l with
  | nil => simp [spl]
  | cons c r ih =>
    by_cases h : c = 44
    · subst h; rw [spl_comma]
      intro p hp
      rcases List.mem_cons.1 hp with rfl | hp
      · simp
      · have := ih p hp; simp; omega
    · obtain ⟨p, ps, e⟩ := List.exists_cons_of_ne_nil (spl_ne r)
      rw [spl_else c r p ps h e]
      rw [e] at ih
      intro q hq
      rcases List.mem_cons.1 hq with rfl | hq
      · have := ih p (by simp); simp; omega
      · have := ih q (by simp [hq]); simp; omega
/-- Numbers out of pieces: all, or none. -/
def numR (f : List UInt8 → Int × Bool) (ws : List (List UInt8)) : Option (List Int) := if ws.all (fun x => (f x).2) = true then some (ws.map fun x => (f x).1) else none
def allV (zs : List Int) : Bool := zs.all vl
/-- What the program and the model read. -/
def rlI (l : List UInt8) : Option (List Int) := if l = [45] then some [] else if 100 < (spl l).length then none else numR rvI (spl l)
def rlS (l : List UInt8) : Option (List Int) := if l = [45] then some [] else match numR rds (spl l) with
  | none => none
  | some zs => if (allV zs && decide ((zs.length : Int) ≤ 100)) = true then some zs else none
theorem rv_rds (w : List UInt8) : ((rvI w).2 = true ↔ ((rds w).2 = true ∧ vl (rds w).1 = true)) ∧ ((rvI w).2 = true → (rvI w).1 = (rds w).1) := by
  have h1 : (rvI w).2 = true → (rds w).2 = true ∧ vl (rds w).1 = true ∧ (rvI w).1 = (rds w).1 := by
    intro h
    have e : rvI w = ((rvI w).1, true) := by rw [← h]
    obtain ⟨a, b⟩ := (rvI_iff w _).1 e
    have hv := (vl_iff _).1 a
    have hr : rds w = ((rvI w).1, true) := (rds_true w _).2 ⟨by omega, by omega, b⟩
    rw [hr]
    exact ⟨rfl, a, rfl⟩
  refine ⟨⟨fun h => ⟨(h1 h).1, (h1 h).2.1⟩, fun ⟨h, hv⟩ => ?_⟩, fun h => (h1 h).2.2⟩
  have e : rds w = ((rds w).1, true) := by rw [← h]
  obtain ⟨-, -, b⟩ := (rds_true w _).1 e
  rw [(rvI_iff w _).2 ⟨hv, b⟩]
theorem rl_same (l : List UInt8) : rlI l = rlS l := by
  unfold rlI rlS
  by_cases h0 : l = [45]
  · rw [if_pos h0, if_pos h0]
  rw [if_neg h0, if_neg h0]
  generalize spl l = ws
  unfold numR
  by_cases hs : ws.all (fun x => (rds x).2) = true
  · rw [if_pos hs]
    simp only
    have hm : (ws.map fun x => (rds x).1).length = ws.length := List.length_map _
    rw [hm]
    by_cases hl : 100 < ws.length
    · rw [if_pos hl, if_neg (by rw [decide_eq_false (by omega)]; simp)]
    · rw [if_neg hl, decide_eq_true (by omega), Bool.and_true]
      by_cases hv : allV (ws.map fun x => (rds x).1) = true
      · rw [if_pos hv]
        have ha : ∀ x ∈ ws, (rvI x).2 = true := by
          intro x hx
          unfold allV at hv
          rw [List.all_eq_true] at hv hs
          exact (rv_rds x).1.2 ⟨hs x hx, hv _ (List.mem_map.2 ⟨x, hx, rfl⟩)⟩
        rw [if_pos (List.all_eq_true.2 ha)]
        congr 1
        exact List.map_congr_left fun x hx => (rv_rds x).2 (ha x hx)
      · rw [if_neg hv, if_neg]
        intro hc
        apply hv
        unfold allV
        rw [List.all_eq_true] at hc ⊢
        intro z hz
        obtain ⟨x, hx, rfl⟩ := List.mem_map.1 hz
        exact ((rv_rds x).1.1 (hc x hx)).2
  · rw [if_neg hs]
    simp only
    split
    · rfl
    · rw [if_neg]
      intro hc
      apply hs
      rw [List.all_eq_true] at hc ⊢
      exact fun x hx => ((rv_rds x).1.1 (hc x hx)).1
end Go.Proofs.YtphebmbapllinaaDoor

/- Plain mathematics of graduations read from texts: splitting at slashes and at blanks (as M11 at commas). No program is imported here. -/
namespace Go.Proofs.YtphebmbapllinaaDoor
set_option linter.unusedSimpArgs false
set_option linter.unusedVariables false

/-- The pieces between slashes. -/
def spS : List UInt8 → List (List UInt8)
  | [] => [[]]
  | c :: r => if c = 47 then [] :: spS r else match spS r with
    | [] => [[c]]
    | p :: ps => (c :: p) :: ps
theorem spS_ne (l : List UInt8) : spS l ≠ [] := by
  cases l with
  | nil => simp [spS]
  | cons c r =>
    unfold spS
    split
    · simp
    · split <;> simp
theorem spS_slash (r : List UInt8) : spS (47 :: r) = [] :: spS r := by rw [spS, if_pos rfl]
theorem spS_else (c : UInt8) (r p : List UInt8) (ps : List (List UInt8)) (h : c ≠ 47) (e : spS r = p :: ps) : spS (c :: r) = (c :: p) :: ps := by rw [spS, if_neg h, e]
theorem spS_cut (a b : List UInt8) (ha : ∀ c ∈ a, c ≠ 47) : spS (a ++ 47 :: b) = a :: spS b := by
  induction a with
  | nil => exact spS_slash b
  | cons c a ih => exact spS_else c _ _ _ (ha c (by simp)) (ih fun x hx => ha x (by simp [hx]))
theorem spS_none (a : List UInt8) (ha : ∀ c ∈ a, c ≠ 47) : spS a = [a] := by
  induction a with
  | nil => rfl
  | cons c a ih => exact spS_else c _ _ _ (ha c (by simp)) (ih fun x hx => ha x (by simp [hx]))
/-- One byte more at the end. -/
theorem spS_snoc_slash (l : List UInt8) : spS (l ++ [47]) = spS l ++ [[]] := by
  induction l with
  | nil => rfl
  | cons c r ih =>
    by_cases h : c = 47
    · subst h; rw [List.cons_append, spS_slash, spS_slash, ih]; rfl
    · obtain ⟨p, ps, e⟩ := List.exists_cons_of_ne_nil (spS_ne r)
      rw [List.cons_append, spS_else c r p ps h e, spS_else c _ p (ps ++ [[]]) h (by rw [ih, e]; rfl)]; rfl
theorem spS_snoc (l : List UInt8) (x : UInt8) (hx : x ≠ 47) (qs : List (List UInt8)) (q : List UInt8) (e : spS l = qs ++ [q]) : spS (l ++ [x]) = qs ++ [q ++ [x]] := by
  induction l generalizing qs q with
  | nil =>
    have hq : qs = [] ∧ q = [] := by
      have : ([[]] : List (List UInt8)) = qs ++ [q] := e
      cases qs with
      | nil => simp at this; exact ⟨rfl, this⟩
      | cons a b => have := congrArg List.length this; simp at this
    rw [hq.1, hq.2]
    exact spS_none [x] (by simp [hx])
  | cons c r ih =>
    by_cases h : c = 47
    · subst h
      rw [spS_slash] at e
      cases qs with
      | nil =>
        have := congrArg List.length e
        simp at this
        exact absurd this (spS_ne r)
      | cons a b =>
        rw [List.cons_append] at e
        injection e with e1 e2
        rw [List.cons_append, spS_slash, ih b q e2, ← e1]; rfl
    · obtain ⟨p, ps, e'⟩ := List.exists_cons_of_ne_nil (spS_ne r)
      rw [spS_else c r p ps h e'] at e
      cases qs with
      | nil =>
        rw [List.nil_append] at e
        injection e with e1 e2
        subst e2 e1
        have := ih [] p (by rw [e']; rfl)
        rw [List.cons_append, spS_else c _ _ _ h (by rw [this]; rfl)]; rfl
      | cons a b =>
        rw [List.cons_append] at e
        injection e with e1 e2
        subst e2 e1
        have := ih (p :: b) q (by rw [e']; rfl)
        rw [List.cons_append, spS_else c _ _ _ h (by rw [this]; rfl)]; rfl

/-- Where the first slash is. -/
theorem ibS_none (l : List UInt8) (h : Lib.indexByte l 47 = -1) : ∀ c ∈ l, c ≠ 47 := by
  induction l with
  | nil => simp
  | cons b r ih =>
    unfold Lib.indexByte at h
    split at h
    · omega
    · rename_i hb
      have hb' : b ≠ 47 := by simpa using hb
      split at h
      · rename_i h1
        intro c hc
        rcases List.mem_cons.1 hc with rfl | hc
        · exact hb'
        · exact ih (by simpa using h1) c hc
      · rename_i h1
        have := Lib.index_ge r [47]
        rw [Lib.index_one] at this
        have h1' : Lib.indexByte r 47 ≠ -1 := by simpa using h1
        omega
theorem ibS_some (l : List UInt8) (i : Nat) (h : Lib.indexByte l 47 = i) : ∃ a b, l = a ++ 47 :: b ∧ a.length = i ∧ ∀ c ∈ a, c ≠ 47 := by
  induction l generalizing i with
  | nil => unfold Lib.indexByte at h; omega
  | cons b r ih =>
    unfold Lib.indexByte at h
    split at h
    · rename_i hb
      have hb' : b = 47 := by simpa using hb
      exact ⟨[], r, by rw [hb']; rfl, by simp; omega, by simp⟩
    · rename_i hb
      have hb' : b ≠ 47 := by simpa using hb
      split at h
      · omega
      · have := Lib.index_ge r [47]
        rw [Lib.index_one] at this
        obtain ⟨j, hj⟩ : ∃ j : Nat, Lib.indexByte r 47 = j := by
          rename_i h1
          have h1' : Lib.indexByte r 47 ≠ -1 := by simpa using h1
          exact ⟨(Lib.indexByte r 47).toNat, by omega⟩
        obtain ⟨a, c, e, hl, ha⟩ := ih j hj
        refine ⟨b :: a, c, by rw [e]; rfl, by simp; omega, ?_⟩
        intro x hx
        rcases List.mem_cons.1 hx with rfl | hx
        · exact hb'
        · exact ha x hx
/-- A split into at most k + 1 pieces: all pieces, or k + 1 of them. -/
theorem splitK_spS : ∀ (k : Nat) (l : List UInt8), ((spS l).length ≤ k + 1 → Lib.splitK [47] 0 k l = spS l) ∧ (k + 1 < (spS l).length → (Lib.splitK [47] 0 k l).length = k + 1)
  | 0, l => by
    refine ⟨fun h => ?_, fun _ => rfl⟩
    have hi := Lib.index_ge l [47]
    rw [Lib.index_one] at hi
    by_cases hm : Lib.indexByte l 47 = -1
    · rw [spS_none l (ibS_none l hm)]; rfl
    · obtain ⟨a, b, e, -, ha⟩ := ibS_some l (Lib.indexByte l 47).toNat (by omega)
      rw [e, spS_cut a b ha, List.length_cons] at h
      have := List.length_pos_iff.2 (spS_ne b)
      omega
  | k + 1, l => by
    have hi := Lib.index_ge l [47]
    rw [Lib.index_one] at hi
    unfold Lib.splitK
    rw [Lib.index_one]
    by_cases hm : Lib.indexByte l 47 = -1
    · rw [if_pos (by rw [hm]; rfl), spS_none l (ibS_none l hm)]
      exact ⟨fun _ => rfl, fun h => by simp at h⟩
    · rw [if_neg (by simpa using hm)]
      obtain ⟨a, b, e, hl, ha⟩ := ibS_some l (Lib.indexByte l 47).toNat (by omega)
      generalize (Lib.indexByte l 47).toNat = i at *
      subst hl
      have e1 : l.take (a.length + 0) = a := by rw [e]; simp
      have e2 : l.drop (a.length + 1) = b := by rw [e]; simp
      show (_ → l.take (a.length + 0) :: Lib.splitK [47] 0 k (l.drop (a.length + 1)) = spS l) ∧ (_ → (l.take (a.length + 0) :: Lib.splitK [47] 0 k (l.drop (a.length + 1))).length = k + 1 + 1)
      rw [e1, e2, e, spS_cut a b ha]
      obtain ⟨ih1, ih2⟩ := splitK_spS k b
      constructor
      · intro h
        rw [ih1 (by simp at h; omega)]
      · intro h
        rw [List.length_cons, ih2 (by simp at h; omega)]
theorem spS_length (l : List UInt8) : (spS l).length ≤ l.length + 1 := by
  induction l with
  | nil => simp [spS]
  | cons c r ih =>
    by_cases h : c = 47
    · subst h; rw [spS_slash]; simp; omega
    · obtain ⟨p, ps, e⟩ := List.exists_cons_of_ne_nil (spS_ne r)
      rw [spS_else c r p ps h e]
      rw [e] at ih
      simp at ih ⊢
      omega
theorem spS_size (l : List UInt8) : ∀ p ∈ spS l, p.length ≤ l.length := by
  induction l with
  | nil => simp [spS]
  | cons c r ih =>
    by_cases h : c = 47
    · subst h; rw [spS_slash]
      intro p hp
      rcases List.mem_cons.1 hp with rfl | hp
      · simp
      · have := ih p hp; simp; omega
    · obtain ⟨p, ps, e⟩ := List.exists_cons_of_ne_nil (spS_ne r)
      rw [spS_else c r p ps h e]
      rw [e] at ih
      intro q hq
      rcases List.mem_cons.1 hq with rfl | hq
      · have := ih p (by simp); simp; omega
      · have := ih q (by simp [hq]); simp; omega

/-- The pieces between blanks. -/
def spB : List UInt8 → List (List UInt8)
  | [] => [[]]
  | c :: r => if c = 32 then [] :: spB r else match spB r with
    | [] => [[c]]
    | p :: ps => (c :: p) :: ps
theorem spB_ne (l : List UInt8) : spB l ≠ [] := by
  cases l with
  | nil => simp [spB]
  | cons c r =>
    unfold spB
    split
    · simp
    · split <;> simp
theorem spB_blank (r : List UInt8) : spB (32 :: r) = [] :: spB r := by rw [spB, if_pos rfl]
theorem spB_else (c : UInt8) (r p : List UInt8) (ps : List (List UInt8)) (h : c ≠ 32) (e : spB r = p :: ps) : spB (c :: r) = (c :: p) :: ps := by rw [spB, if_neg h, e]
theorem spB_cut (a b : List UInt8) (ha : ∀ c ∈ a, c ≠ 32) : spB (a ++ 32 :: b) = a :: spB b := by
  induction a with
  | nil => exact spB_blank b
  | cons c a ih => exact spB_else c _ _ _ (ha c (by simp)) (ih fun x hx => ha x (by simp [hx]))
theorem spB_none (a : List UInt8) (ha : ∀ c ∈ a, c ≠ 32) : spB a = [a] := by
  induction a with
  | nil => rfl
  | cons c a ih => exact spB_else c _ _ _ (ha c (by simp)) (ih fun x hx => ha x (by simp [hx]))
/-- One byte more at the end. -/
theorem spB_snoc_blank (l : List UInt8) : spB (l ++ [32]) = spB l ++ [[]] := by
  induction l with
  | nil => rfl
  | cons c r ih =>
    by_cases h : c = 32
    · subst h; rw [List.cons_append, spB_blank, spB_blank, ih]; rfl
    · obtain ⟨p, ps, e⟩ := List.exists_cons_of_ne_nil (spB_ne r)
      rw [List.cons_append, spB_else c r p ps h e, spB_else c _ p (ps ++ [[]]) h (by rw [ih, e]; rfl)]; rfl
theorem spB_snoc (l : List UInt8) (x : UInt8) (hx : x ≠ 32) (qs : List (List UInt8)) (q : List UInt8) (e : spB l = qs ++ [q]) : spB (l ++ [x]) = qs ++ [q ++ [x]] := by
  induction l generalizing qs q with
  | nil =>
    have hq : qs = [] ∧ q = [] := by
      have : ([[]] : List (List UInt8)) = qs ++ [q] := e
      cases qs with
      | nil => simp at this; exact ⟨rfl, this⟩
      | cons a b => have := congrArg List.length this; simp at this
    rw [hq.1, hq.2]
    exact spB_none [x] (by simp [hx])
  | cons c r ih =>
    by_cases h : c = 32
    · subst h
      rw [spB_blank] at e
      cases qs with
      | nil =>
        have := congrArg List.length e
        simp at this
        exact absurd this (spB_ne r)
      | cons a b =>
        rw [List.cons_append] at e
        injection e with e1 e2
        rw [List.cons_append, spB_blank, ih b q e2, ← e1]; rfl
    · obtain ⟨p, ps, e'⟩ := List.exists_cons_of_ne_nil (spB_ne r)
      rw [spB_else c r p ps h e'] at e
      cases qs with
      | nil =>
        rw [List.nil_append] at e
        injection e with e1 e2
        subst e2 e1
        have := ih [] p (by rw [e']; rfl)
        rw [List.cons_append, spB_else c _ _ _ h (by rw [this]; rfl)]; rfl
      | cons a b =>
        rw [List.cons_append] at e
        injection e with e1 e2
        subst e2 e1
        have := ih (p :: b) q (by rw [e']; rfl)
        rw [List.cons_append, spB_else c _ _ _ h (by rw [this]; rfl)]; rfl

/-- Where the first blank is. -/
theorem ibB_none (l : List UInt8) (h : Lib.indexByte l 32 = -1) : ∀ c ∈ l, c ≠ 32 := by
  induction l with
  | nil => simp
  | cons b r ih =>
    unfold Lib.indexByte at h
    split at h
    · omega
    · rename_i hb
      have hb' : b ≠ 32 := by simpa using hb
      split at h
      · rename_i h1
        intro c hc
        rcases List.mem_cons.1 hc with rfl | hc
        · exact hb'
        · exact ih (by simpa using h1) c hc
      · rename_i h1
        have := Lib.index_ge r [32]
        rw [Lib.index_one] at this
        have h1' : Lib.indexByte r 32 ≠ -1 := by simpa using h1
        omega
theorem ibB_some (l : List UInt8) (i : Nat) (h : Lib.indexByte l 32 = i) : ∃ a b, l = a ++ 32 :: b ∧ a.length = i ∧ ∀ c ∈ a, c ≠ 32 := by
  induction l generalizing i with
  | nil => unfold Lib.indexByte at h; omega
  | cons b r ih =>
    unfold Lib.indexByte at h
    split at h
    · rename_i hb
      have hb' : b = 32 := by simpa using hb
      exact ⟨[], r, by rw [hb']; rfl, by simp; omega, by simp⟩
    · rename_i hb
      have hb' : b ≠ 32 := by simpa using hb
      split at h
      · omega
      · have := Lib.index_ge r [32]
        rw [Lib.index_one] at this
        obtain ⟨j, hj⟩ : ∃ j : Nat, Lib.indexByte r 32 = j := by
          rename_i h1
          have h1' : Lib.indexByte r 32 ≠ -1 := by simpa using h1
          exact ⟨(Lib.indexByte r 32).toNat, by omega⟩
        obtain ⟨a, c, e, hl, ha⟩ := ih j hj
        refine ⟨b :: a, c, by rw [e]; rfl, by simp; omega, ?_⟩
        intro x hx
        rcases List.mem_cons.1 hx with rfl | hx
        · exact hb'
        · exact ha x hx
/-- A split into at most k + 1 pieces: all pieces, or k + 1 of them. -/
theorem splitK_spB : ∀ (k : Nat) (l : List UInt8), ((spB l).length ≤ k + 1 → Lib.splitK [32] 0 k l = spB l) ∧ (k + 1 < (spB l).length → (Lib.splitK [32] 0 k l).length = k + 1)
  | 0, l => by
    refine ⟨fun h => ?_, fun _ => rfl⟩
    have hi := Lib.index_ge l [32]
    rw [Lib.index_one] at hi
    by_cases hm : Lib.indexByte l 32 = -1
    · rw [spB_none l (ibB_none l hm)]; rfl
    · obtain ⟨a, b, e, -, ha⟩ := ibB_some l (Lib.indexByte l 32).toNat (by omega)
      rw [e, spB_cut a b ha, List.length_cons] at h
      have := List.length_pos_iff.2 (spB_ne b)
      omega
  | k + 1, l => by
    have hi := Lib.index_ge l [32]
    rw [Lib.index_one] at hi
    unfold Lib.splitK
    rw [Lib.index_one]
    by_cases hm : Lib.indexByte l 32 = -1
    · rw [if_pos (by rw [hm]; rfl), spB_none l (ibB_none l hm)]
      exact ⟨fun _ => rfl, fun h => by simp at h⟩
    · rw [if_neg (by simpa using hm)]
      obtain ⟨a, b, e, hl, ha⟩ := ibB_some l (Lib.indexByte l 32).toNat (by omega)
      generalize (Lib.indexByte l 32).toNat = i at *
      subst hl
      have e1 : l.take (a.length + 0) = a := by rw [e]; simp
      have e2 : l.drop (a.length + 1) = b := by rw [e]; simp
      show (_ → l.take (a.length + 0) :: Lib.splitK [32] 0 k (l.drop (a.length + 1)) = spB l) ∧ (_ → (l.take (a.length + 0) :: Lib.splitK [32] 0 k (l.drop (a.length + 1))).length = k + 1 + 1)
      rw [e1, e2, e, spB_cut a b ha]
      obtain ⟨ih1, ih2⟩ := splitK_spB k b
      constructor
      · intro h
        rw [ih1 (by simp at h; omega)]
      · intro h
        rw [List.length_cons, ih2 (by simp at h; omega)]
theorem spB_length (l : List UInt8) : (spB l).length ≤ l.length + 1 := by
  induction l with
  | nil => simp [spB]
  | cons c r ih =>
    by_cases h : c = 32
    · subst h; rw [spB_blank]; simp; omega
    · obtain ⟨p, ps, e⟩ := List.exists_cons_of_ne_nil (spB_ne r)
      rw [spB_else c r p ps h e]
      rw [e] at ih
      simp at ih ⊢
      omega
theorem spB_size (l : List UInt8) : ∀ p ∈ spB l, p.length ≤ l.length := by
  induction l with
  | nil => simp [spB]
  | cons c r ih =>
    by_cases h : c = 32
    · subst h; rw [spB_blank]
      intro p hp
      rcases List.mem_cons.1 hp with rfl | hp
      · simp
      · have := ih p hp; simp; omega
    · obtain ⟨p, ps, e⟩ := List.exists_cons_of_ne_nil (spB_ne r)
      rw [spB_else c r p ps h e]
      rw [e] at ih
      intro q hq
      rcases List.mem_cons.1 hq with rfl | hq
      · have := ih p (by simp); simp; omega
      · have := ih q (by simp [hq]); simp; omega
end Go.Proofs.YtphebmbapllinaaDoor
