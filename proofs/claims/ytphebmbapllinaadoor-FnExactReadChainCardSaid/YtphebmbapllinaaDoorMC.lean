/- Plain mathematics, merged. -/
import Derived.Test.YtphebmbapllinaaDoorMB
import Derived.Test.YtphebmbapllinaaDoorMA
/- Chapter 7: graduations, as functions of numbers: which lists of parts are valid, their marks, how many, which is nearest. -/
namespace Go.Proofs.YtphebmbapllinaaDoor
set_option linter.unusedVariables false
set_option linter.unusedSimpArgs false

/-- A part: from, to, step. -/
abbrev Pt := Int × Int × Int
def ptOk (at_ : Int) (p : Pt) : Bool := decide (p.1 = at_ ∧ at_ + 1 ≤ p.2.1 ∧ p.2.1 ≤ 10000 ∧ 1 ≤ p.2.2 ∧ (p.2.1 - p.1).tmod p.2.2 = 0)
theorem ptOk_iff (at_ : Int) (p : Pt) : ptOk at_ p = true ↔ (p.1 = at_ ∧ at_ + 1 ≤ p.2.1 ∧ p.2.1 ≤ 10000 ∧ 1 ≤ p.2.2 ∧ (p.2.1 - p.1).tmod p.2.2 = 0) := by unfold ptOk; simp
/-- Where a chain of parts that begins at a number ends; none, if a part does not fit. -/
def gdE : Int → List Pt → Option Int
  | a, [] => some a
  | a, p :: r => if ptOk a p = true then gdE p.2.1 r else none
def gd (g : List Pt) : Bool := decide (1 ≤ g.length ∧ g.length ≤ 12) && decide (gdE 1000 g = some 10000)
theorem gd_iff (g : List Pt) : gd g = true ↔ ((1 ≤ g.length ∧ g.length ≤ 12) ∧ gdE 1000 g = some 10000) := by unfold gd; simp
theorem gdE_cons {a b : Int} {p : Pt} {r : List Pt} (h : gdE a (p :: r) = some b) : ptOk a p = true ∧ gdE p.2.1 r = some b := by
  unfold gdE at h
  split at h
  · exact ⟨by assumption, h⟩
  · cases h
theorem gdE_snoc (a : Int) : ∀ (g : List Pt) (p : Pt), gdE a (g ++ [p]) = (gdE a g).bind fun b => if ptOk b p = true then some p.2.1 else none := by
  intro g
  induction g generalizing a with
  | nil => intro p; rfl
  | cons q r ih =>
    intro p
    rw [List.cons_append]
    unfold gdE
    split
    · exact ih _ p
    · rfl

/-- The marks of a part. -/
def prN (p : Pt) : Nat := ((p.2.1 - p.1) / p.2.2).toNat
def prM (p : Pt) : List Int := (List.range (prN p)).map fun (i : Nat) => p.1 + p.2.2 * (i : Int)
def mks (g : List Pt) : List Int := g.flatMap prM
def cntM (g : List Pt) : Int := (g.map fun p => (p.2.1 - p.1).tdiv p.2.2).sum
/-- A number is a mark of a part. -/
def prI (n : Int) (p : Pt) : Bool := decide (p.1 ≤ n ∧ n < p.2.1 ∧ (n - p.1).tmod p.2.2 = 0)
def isM (g : List Pt) (n : Int) : Bool := g.any (prI n)

theorem prN_is {a : Int} {p : Pt} (h : ptOk a p = true) : p.1 + p.2.2 * (prN p : Int) = p.2.1 ∧ 1 ≤ prN p := by
  obtain ⟨rfl, h1, h2, h3, h4⟩ := (ptOk_iff _ _).1 h
  rw [Int.tmod_eq_emod_of_nonneg (by omega)] at h4
  have hd := Int.mul_ediv_add_emod (p.2.1 - p.1) p.2.2
  rw [h4] at hd
  have hq : 0 ≤ (p.2.1 - p.1) / p.2.2 := Int.ediv_nonneg (by omega) (by omega)
  have hn : ((prN p : Nat) : Int) = (p.2.1 - p.1) / p.2.2 := by unfold prN; omega
  refine ⟨by rw [hn]; omega, ?_⟩
  rcases Nat.lt_or_ge 0 (prN p) with g | g
  · exact g
  · exfalso
    have h0 : prN p = 0 := by omega
    rw [← hn, h0] at hd
    simp at hd
    omega
theorem mem_prM {a : Int} {p : Pt} (h : ptOk a p = true) (n : Int) : n ∈ prM p ↔ (p.1 ≤ n ∧ n < p.2.1 ∧ (n - p.1).tmod p.2.2 = 0) := by
  obtain ⟨e, -⟩ := prN_is h
  obtain ⟨rfl, h1, h2, h3, h4⟩ := (ptOk_iff _ _).1 h
  unfold prM
  rw [List.mem_map]
  constructor
  · rintro ⟨i, hi, rfl⟩
    rw [List.mem_range] at hi
    have hm := Int.mul_le_mul_of_nonneg_left (show ((i : Int) + 1) ≤ (prN p : Int) by omega) (show 0 ≤ p.2.2 by omega)
    rw [Int.mul_add] at hm
    have h0 : 0 ≤ p.2.2 * (i : Int) := Int.mul_nonneg (by omega) (by omega)
    refine ⟨by omega, by omega, ?_⟩
    rw [show p.1 + p.2.2 * (i : Int) - p.1 = p.2.2 * (i : Int) by omega]
    exact Int.mul_tmod_right _ _
  · rintro ⟨g1, g2, g3⟩
    rw [Int.tmod_eq_emod_of_nonneg (by omega)] at g3
    have hd := Int.mul_ediv_add_emod (n - p.1) p.2.2
    rw [g3] at hd
    have hq : 0 ≤ (n - p.1) / p.2.2 := Int.ediv_nonneg (by omega) (by omega)
    refine ⟨((n - p.1) / p.2.2).toNat, ?_, by rw [Int.toNat_of_nonneg hq]; omega⟩
    rw [List.mem_range]
    rcases Nat.lt_or_ge ((n - p.1) / p.2.2).toNat (prN p) with g | g
    · exact g
    · exfalso
      have hm := Int.mul_le_mul_of_nonneg_left (show (prN p : Int) ≤ (n - p.1) / p.2.2 by omega) (show 0 ≤ p.2.2 by omega)
      omega
theorem prI_mem {a : Int} {p : Pt} (h : ptOk a p = true) (n : Int) : prI n p = true ↔ n ∈ prM p := by
  rw [mem_prM h]; unfold prI; simp
theorem prM_sorted {a : Int} {p : Pt} (h : ptOk a p = true) : (prM p).Pairwise (· < ·) := by
  obtain ⟨-, -, -, h3, -⟩ := (ptOk_iff _ _).1 h
  unfold prM
  rw [List.pairwise_map]
  refine List.Pairwise.imp ?_ List.pairwise_lt_range
  intro i j hij
  have hm := Int.mul_le_mul_of_nonneg_left (show ((i : Int) + 1) ≤ (j : Int) by omega) (show 0 ≤ p.2.2 by omega)
  rw [Int.mul_add] at hm
  omega
theorem prM_len (p : Pt) : (prM p).length = prN p := by unfold prM; simp
theorem prM_head {a : Int} {p : Pt} (h : ptOk a p = true) : (prM p)[0]? = some a := by
  obtain ⟨-, h1⟩ := prN_is h
  obtain ⟨rfl, -⟩ := (ptOk_iff _ _).1 h
  unfold prM
  rw [List.getElem?_map, List.getElem?_range (by omega)]
  simp

/-- The marks of a chain lie between its ends. -/
theorem mks_bd : ∀ (g : List Pt) (a b : Int), gdE a g = some b → a ≤ b ∧ ∀ n ∈ mks g, a ≤ n ∧ n < b
  | [], a, b, h => by
    have : a = b := by simpa [gdE] using h
    subst this
    exact ⟨Int.le_refl _, by simp [mks]⟩
  | p :: r, a, b, h => by
    obtain ⟨h1, h2⟩ := gdE_cons h
    obtain ⟨i1, i2⟩ := mks_bd r _ _ h2
    have hp := (ptOk_iff _ _).1 h1
    refine ⟨by omega, fun n hn => ?_⟩
    unfold mks at hn
    rw [List.flatMap_cons, List.mem_append] at hn
    rcases hn with hn | hn
    · have := (mem_prM h1 n).1 hn
      omega
    · have := i2 n hn
      omega
theorem mks_sorted : ∀ (g : List Pt) (a b : Int), gdE a g = some b → (mks g).Pairwise (· < ·)
  | [], a, b, h => by simp [mks]
  | p :: r, a, b, h => by
    obtain ⟨h1, h2⟩ := gdE_cons h
    unfold mks
    rw [List.flatMap_cons, List.pairwise_append]
    refine ⟨prM_sorted h1, mks_sorted r _ _ h2, fun x hx y hy => ?_⟩
    have := (mem_prM h1 x).1 hx
    have := (mks_bd r _ _ h2).2 y hy
    omega
theorem isM_mem : ∀ (g : List Pt) (a b : Int), gdE a g = some b → ∀ n, isM g n = true ↔ n ∈ mks g
  | [], a, b, h, n => by simp [isM, mks]
  | p :: r, a, b, h, n => by
    obtain ⟨h1, h2⟩ := gdE_cons h
    have ih := isM_mem r _ _ h2 n
    unfold isM at ih ⊢
    unfold mks at ih ⊢
    rw [List.any_cons, Bool.or_eq_true, prI_mem h1, ih, List.flatMap_cons, List.mem_append]
theorem cntM_len : ∀ (g : List Pt) (a b : Int), gdE a g = some b → cntM g = ((mks g).length : Int) ∧ cntM g ≤ b - a
  | [], a, b, h => by
    have : a = b := by simpa [gdE] using h
    subst this
    simp [cntM, mks]
  | p :: r, a, b, h => by
    obtain ⟨h1, h2⟩ := gdE_cons h
    obtain ⟨i1, i2⟩ := cntM_len r _ _ h2
    obtain ⟨rfl, q1, q2, q3, q4⟩ := (ptOk_iff _ _).1 h1
    have hn : ((prN p : Nat) : Int) = (p.2.1 - p.1).tdiv p.2.2 := by
      have hq : 0 ≤ (p.2.1 - p.1) / p.2.2 := Int.ediv_nonneg (by omega) (by omega)
      rw [Int.tdiv_eq_ediv_of_nonneg (by omega)]
      unfold prN; omega
    have hle : (p.2.1 - p.1).tdiv p.2.2 ≤ p.2.1 - p.1 := by
      rw [Int.tdiv_eq_ediv_of_nonneg (by omega)]
      exact Int.ediv_le_self _ (by omega)
    have hc : cntM (p :: r) = (p.2.1 - p.1).tdiv p.2.2 + cntM r := by simp [cntM]
    have hl : (mks (p :: r)).length = prN p + (mks r).length := by
      unfold mks
      rw [List.flatMap_cons, List.length_append, prM_len]
    rw [hc, hl, i1, ← hn]
    constructor
    · omega
    · omega
theorem mks_head (g : List Pt) (h : gd g = true) : (mks g)[0]? = some 1000 := by
  obtain ⟨⟨h1, -⟩, h2⟩ := (gd_iff g).1 h
  cases g with
  | nil => simp at h1
  | cons p r =>
    obtain ⟨k1, -⟩ := gdE_cons h2
    obtain ⟨-, hn⟩ := prN_is k1
    unfold mks
    rw [List.flatMap_cons, List.getElem?_append_left (by rw [prM_len]; omega)]
    exact prM_head k1

/-- The nearest one of a list so far: the first one of several. -/
def nrS (n : Int) : Int → List Int → Int
  | b, [] => b
  | b, x :: r => nrS n (if (x - n).natAbs < (b - n).natAbs then x else b) r
theorem nrS_spec (n : Int) : ∀ (l : List Int) (b : Int), (nrS n b l = b ∨ nrS n b l ∈ l) ∧ (nrS n b l - n).natAbs ≤ (b - n).natAbs ∧ ∀ x ∈ l, (nrS n b l - n).natAbs ≤ (x - n).natAbs
  | [], b => by simp [nrS]
  | x :: r, b => by
    unfold nrS
    obtain ⟨h1, h2, h3⟩ := nrS_spec n r (if (x - n).natAbs < (b - n).natAbs then x else b)
    split at h1 <;> rename_i hc
    · rw [if_pos hc] at h2 h3 ⊢
      refine ⟨.inr ?_, by omega, fun y hy => ?_⟩
      · rcases h1 with h | h
        · rw [h]; simp
        · simp [h]
      · rcases List.mem_cons.1 hy with rfl | hy
        · exact h2
        · exact h3 y hy
    · rw [if_neg hc] at h2 h3 ⊢
      refine ⟨?_, h2, fun y hy => ?_⟩
      · rcases h1 with h | h
        · exact .inl h
        · exact .inr (by simp [h])
      · rcases List.mem_cons.1 hy with rfl | hy
        · omega
        · exact h3 y hy
def nrM (g : List Pt) (n : Int) : Int := nrS n 1000 (mks g)
/-- A number is a mark just if it is its own nearest one; the nearest one is a mark. -/
theorem nrM_facts (g : List Pt) (n : Int) (h : gd g = true) : isM g (nrM g n) = true ∧ (isM g n = true ↔ nrM g n = n) := by
  obtain ⟨-, h2⟩ := (gd_iff g).1 h
  have hm := isM_mem g _ _ h2
  have h0 := mks_head g h
  have hin : (1000 : Int) ∈ mks g := List.mem_of_getElem? h0
  obtain ⟨q1, q2, q3⟩ := nrS_spec n (mks g) 1000
  have hmem : nrM g n ∈ mks g := by
    unfold nrM
    rcases q1 with h | h
    · rw [h]; exact hin
    · exact h
  refine ⟨(hm _).2 hmem, fun hi => ?_, fun he => ?_⟩
  · have := q3 n ((hm n).1 hi)
    unfold nrM
    omega
  · rw [← he]; exact (hm _).2 hmem

theorem gdE_append : ∀ (l r : List Pt) (a : Int), gdE a (l ++ r) = (gdE a l).bind fun b => gdE b r
  | [], r, a => rfl
  | p :: l, r, a => by
    have e : ∀ m : List Pt, gdE a (p :: m) = if ptOk a p = true then gdE p.2.1 m else none := fun m => rfl
    rw [List.cons_append, e, e]
    split
    · exact gdE_append l r _
    · rfl
theorem gdE_up : ∀ (l : List Pt) (a b : Int), gdE a l = some b → a ≤ 10000 → a ≤ b ∧ b ≤ 10000
  | [], a, b, h, ha => by
    have : a = b := by simpa [gdE] using h
    omega
  | p :: r, a, b, h, ha => by
    obtain ⟨h1, h2⟩ := gdE_cons h
    have hp := (ptOk_iff _ _).1 h1
    have := gdE_up r _ _ h2 (by omega)
    omega
/-- One part more. -/
theorem gdE_take {zs : List Pt} {k : Nat} {p : Pt} (h : zs[k]? = some p) {a b : Int} (hb : gdE a (zs.take k) = some b) :
    (ptOk b p = true → gdE a (zs.take (k + 1)) = some p.2.1) ∧ (ptOk b p = false → gdE a zs = none) := by
  obtain ⟨hk, e⟩ := List.getElem?_eq_some_iff.1 h
  have hs : gdE a (zs.take (k + 1)) = if ptOk b p = true then some p.2.1 else none := by
    rw [List.take_succ_eq_append_getElem hk, e, gdE_snoc, hb]
    rfl
  refine ⟨fun ho => by rw [hs, if_pos ho], fun ho => ?_⟩
  rw [ho] at hs
  have h2 := gdE_append (zs.take (k + 1)) (zs.drop (k + 1)) a
  rw [List.take_append_drop, hs] at h2
  simpa using h2
/-- The parts are within a decade. -/
theorem gd_parts {g : List Pt} (h : gd g = true) : ∀ p ∈ g, ∃ a, ptOk a p = true ∧ 1000 ≤ a := by
  obtain ⟨-, h2⟩ := (gd_iff g).1 h
  have key : ∀ (l : List Pt) (a b : Int), gdE a l = some b → 1000 ≤ a → ∀ p ∈ l, ∃ c, ptOk c p = true ∧ 1000 ≤ c := by
    intro l
    induction l with
    | nil => intro a b _ _ p hp; simp at hp
    | cons q r ih =>
      intro a b hab ha p hp
      obtain ⟨k1, k2⟩ := gdE_cons hab
      rcases List.mem_cons.1 hp with rfl | hp
      · exact ⟨a, k1, ha⟩
      · exact ih _ _ k2 (by have := (ptOk_iff _ _).1 k1; omega) p hp
  exact key g _ _ h2 (by omega)
end Go.Proofs.YtphebmbapllinaaDoor

/- Chapter 7: the least distance of marks, the finest step, chosen graduations; the marks in a range. -/
namespace Go.Proofs.YtphebmbapllinaaDoor
set_option linter.unusedVariables false
set_option linter.unusedSimpArgs false

/-- The middle of the place of a mark. -/
def mdl (s l n : Int) : Int := ((pl s n 0 l).1 + (pl s n 0 l).2).fdiv 2
def cnts (s a b : Int) : Bool := !decide (s = 4 ∧ a ≤ 3142 ∧ 3142 < b)
def dst (s l a b : Int) : Int := ((mdl s l b - mdl s l a).natAbs : Int)
theorem dst_nn (s l a b : Int) : 0 ≤ dst s l a b := by unfold dst; omega
/-- The least distance so far, the mark before, the marks that follow. -/
def ldS (s l : Int) : Int → Int → List Int → Int
  | m, _, [] => m
  | m, a, b :: r => ldS s l (if cnts s a b = true ∧ (m < 0 ∨ dst s l a b < m) then dst s l a b else m) b r
def ldM (s l : Int) : List Int → Int
  | [] => -1
  | a :: r => ldS s l (-1) a r
theorem ldS_ge (s l : Int) : ∀ (r : List Int) (m a : Int), -1 ≤ m → -1 ≤ ldS s l m a r
  | [], m, a, h => h
  | b :: r, m, a, h => by
    unfold ldS
    refine ldS_ge s l r _ b ?_
    have := dst_nn s l a b
    split <;> omega
theorem ldM_ge (s l : Int) (ms : List Int) : -1 ≤ ldM s l ms := by
  cases ms with
  | nil => simp [ldM]
  | cons a r => exact ldS_ge s l r _ a (by omega)
def ldR (s l : Int) (g : List Pt) : Int × Int :=
  if gd g = false then (0, 1) else if (sc s && ln l) = false then (0, 2) else if ldM s l (mks g) < 0 then (0, 4) else (ldM s l (mks g), 0)
theorem ldR_in (s l : Int) (g : List Pt) (h : gd g = false) : ldR s l g = (0, 1) := if_pos h
theorem ldR_rg (s l : Int) (g : List Pt) (h : gd g = true) (h1 : (sc s && ln l) = false) : ldR s l g = (0, 2) := by unfold ldR; rw [if_neg (by rw [h]; simp), if_pos h1]
theorem ldR_no (s l : Int) (g : List Pt) (h : gd g = true) (h1 : (sc s && ln l) = true) (h2 : ldM s l (mks g) < 0) : ldR s l g = (0, 4) := by unfold ldR; rw [if_neg (by rw [h]; simp), if_neg (by rw [h1]; simp), if_pos h2]
theorem ldR_ok (s l : Int) (g : List Pt) (h : gd g = true) (h1 : (sc s && ln l) = true) (h2 : ¬ ldM s l (mks g) < 0) : ldR s l g = (ldM s l (mks g), 0) := by unfold ldR; rw [if_neg (by rw [h]; simp), if_neg (by rw [h1]; simp), if_neg h2]
theorem ldR_nn (s l : Int) (g : List Pt) (h : (ldR s l g).2 = 0) : 0 ≤ (ldR s l g).1 := by
  unfold ldR at *
  split at h
  · cases h
  split at h
  · cases h
  split at h
  · cases h
  rename_i h1 h2 h3
  rw [if_neg h1, if_neg h2, if_neg h3]
  simp only; omega

/-- The usual steps. -/
def usual : List Int := [1, 2, 5, 10, 20, 50, 100, 200, 500]
def stOk (s l f t lim st : Int) : Bool := decide ((t - f).tmod st = 0) && decide (ldM s l (prM (f, t, st)) < 0 ∨ lim ≤ ldM s l (prM (f, t, st)))
def fnS (s l f t lim : Int) : Int := (usual.find? (stOk s l f t lim)).getD 0
def okF (s l f t lim : Int) : Bool := (sc s && ln l) && decide ((1000 ≤ f ∧ f ≤ t - 1) ∧ (1000 ≤ t ∧ t ≤ 10000) ∧ (0 ≤ lim ∧ lim ≤ 100000))
def fnR (s l f t lim : Int) : Int × Int := if okF s l f t lim = false then (0, 2) else if fnS s l f t lim = 0 then (0, 4) else (fnS s l f t lim, 0)
theorem fnR_rg (s l f t lim : Int) (h : okF s l f t lim = false) : fnR s l f t lim = (0, 2) := if_pos h
theorem fnR_no (s l f t lim : Int) (h : okF s l f t lim = true) (h1 : fnS s l f t lim = 0) : fnR s l f t lim = (0, 4) := by unfold fnR; rw [if_neg (by rw [h]; simp), if_pos h1]
theorem fnR_ok (s l f t lim : Int) (h : okF s l f t lim = true) (h1 : fnS s l f t lim ≠ 0) : fnR s l f t lim = (fnS s l f t lim, 0) := by unfold fnR; rw [if_neg (by rw [h]; simp), if_neg h1]
theorem usual_pos : ∀ x ∈ usual, 1 ≤ x ∧ x ≤ 500 := by decide
theorem usual_sorted : usual.Pairwise (· < ·) := by decide
theorem fnS_facts (s l f t lim : Int) (h : fnS s l f t lim ≠ 0) : usual.find? (stOk s l f t lim) = some (fnS s l f t lim) ∧ (1 ≤ fnS s l f t lim ∧ fnS s l f t lim ≤ 500) ∧ (t - f).tmod (fnS s l f t lim) = 0 := by
  unfold fnS at *
  cases hf : usual.find? (stOk s l f t lim) with
  | none => rw [hf] at h; exact absurd rfl h
  | some x =>
    have h1 := List.find?_some hf
    have h2 := List.mem_of_find?_eq_some hf
    refine ⟨rfl, usual_pos x h2, ?_⟩
    unfold stOk at h1
    rw [Bool.and_eq_true] at h1
    exact of_decide_eq_true h1.1
/-- The first one of a growing list: a weaker condition finds one that is not greater. -/
theorem find_weaker {p q : Int → Bool} (h : ∀ x, p x = true → q x = true) : ∀ (l : List Int), l.Pairwise (· < ·) → ∀ x, l.find? p = some x → ∃ y, l.find? q = some y ∧ y ≤ x
  | [], _, x, hx => by simp at hx
  | a :: r, hs, x, hx => by
    obtain ⟨h1, h2⟩ := List.pairwise_cons.1 hs
    rw [List.find?_cons] at hx
    rw [List.find?_cons]
    cases hq : q a
    · cases hp : p a
      · rw [hp] at hx
        exact find_weaker h r h2 x hx
      · rw [h a hp] at hq; cases hq
    · refine ⟨a, rfl, ?_⟩
      cases hp : p a
      · rw [hp] at hx
        exact Int.le_of_lt (h1 x (List.mem_of_find?_eq_some hx))
      · rw [hp] at hx
        injection hx with hx
        omega
/-- With a smaller limit the step is no greater. -/
theorem fnS_less (s l f t lim lim' : Int) (h : fnS s l f t lim ≠ 0) (hl : lim' ≤ lim) : fnS s l f t lim' ≠ 0 ∧ fnS s l f t lim' ≤ fnS s l f t lim := by
  obtain ⟨h1, -, -⟩ := fnS_facts s l f t lim h
  obtain ⟨y, hy, hle⟩ := find_weaker (p := stOk s l f t lim) (q := stOk s l f t lim') (fun x hx => by
    unfold stOk at *
    rw [Bool.and_eq_true] at *
    refine ⟨hx.1, decide_eq_true ?_⟩
    rcases of_decide_eq_true hx.2 with h | h
    · exact .inl h
    · exact .inr (by omega)) usual usual_sorted _ h1
  have e : fnS s l f t lim' = y := by unfold fnS; rw [hy]; rfl
  rw [e]
  exact ⟨by have := usual_pos y (List.mem_of_find?_eq_some hy); omega, hle⟩

/-- The chosen graduation. -/
def chG (s l lim : Int) : List Pt := [(1000, 2000, fnS s l 1000 2000 lim), (2000, 5000, fnS s l 2000 5000 lim), (5000, 10000, fnS s l 5000 10000 lim)]
def okC (s l lim : Int) : Bool := (sc s && ln l) && decide (0 ≤ lim ∧ lim ≤ 100000)
def chC (s l lim : Int) : Int := if okC s l lim = false then 2 else if fnS s l 1000 2000 lim = 0 ∨ fnS s l 2000 5000 lim = 0 ∨ fnS s l 5000 10000 lim = 0 then 4 else 0
theorem chC_ok {s l lim : Int} (h : chC s l lim = 0) : okC s l lim = true ∧ fnS s l 1000 2000 lim ≠ 0 ∧ fnS s l 2000 5000 lim ≠ 0 ∧ fnS s l 5000 10000 lim ≠ 0 := by
  unfold chC at h
  split at h
  · omega
  split at h
  · omega
  rename_i h1 h2
  exact ⟨by simpa using h1, fun e => h2 (.inl e), fun e => h2 (.inr (.inl e)), fun e => h2 (.inr (.inr e))⟩
/-- It is valid. -/
theorem chG_gd {s l lim : Int} (h : chC s l lim = 0) : gd (chG s l lim) = true := by
  obtain ⟨-, h1, h2, h3⟩ := chC_ok h
  obtain ⟨-, a1, a2⟩ := fnS_facts _ _ _ _ _ h1
  obtain ⟨-, b1, b2⟩ := fnS_facts _ _ _ _ _ h2
  obtain ⟨-, c1, c2⟩ := fnS_facts _ _ _ _ _ h3
  refine (gd_iff _).2 ⟨by simp [chG], ?_⟩
  unfold chG gdE gdE gdE gdE
  generalize fnS s l 1000 2000 lim = x at *
  generalize fnS s l 2000 5000 lim = y at *
  generalize fnS s l 5000 10000 lim = z at *
  have p1 : ptOk 1000 (1000, 2000, x) = true := (ptOk_iff _ _).2 ⟨rfl, (by decide : (1000 : Int) + 1 ≤ 2000), (by decide : (2000 : Int) ≤ 10000), a1.1, a2⟩
  have p2 : ptOk 2000 (2000, 5000, y) = true := (ptOk_iff _ _).2 ⟨rfl, (by decide : (2000 : Int) + 1 ≤ 5000), (by decide : (5000 : Int) ≤ 10000), b1.1, b2⟩
  have p3 : ptOk 5000 (5000, 10000, z) = true := (ptOk_iff _ _).2 ⟨rfl, (by decide : (5000 : Int) + 1 ≤ 10000), (by decide : (10000 : Int) ≤ 10000), c1.1, c2⟩
  rw [if_pos p1, if_pos p2, if_pos p3]
/-- Its parts' steps are the finest ones, and with half of the limit they are no greater. -/
theorem chG_steps {s l lim : Int} (h : chC s l lim = 0) (f t : Int) (hft : (f = 1000 ∧ t = 2000) ∨ (f = 2000 ∧ t = 5000) ∨ (f = 5000 ∧ t = 10000)) :
    fnR s l f t lim = (fnS s l f t lim, 0) ∧ ∃ y, fnR s l f t (lim.tdiv 2) = (y, 0) ∧ y ≤ fnS s l f t lim := by
  obtain ⟨h0, h1, h2, h3⟩ := chC_ok h
  unfold okC at h0
  rw [Bool.and_eq_true] at h0
  obtain ⟨hs, hl⟩ := h0
  have hl := of_decide_eq_true hl
  have hd : 0 ≤ lim.tdiv 2 ∧ lim.tdiv 2 ≤ lim := by
    rw [Int.tdiv_eq_ediv_of_nonneg hl.1]
    exact ⟨Int.ediv_nonneg hl.1 (by decide), Int.ediv_le_self _ hl.1⟩
  have hne : fnS s l f t lim ≠ 0 := by
    rcases hft with ⟨rfl, rfl⟩ | ⟨rfl, rfl⟩ | ⟨rfl, rfl⟩
    · exact h1
    · exact h2
    · exact h3
  obtain ⟨k1, k2⟩ := fnS_less s l f t lim (lim.tdiv 2) hne hd.2
  have ok : ∀ m, 0 ≤ m → m ≤ 100000 → okF s l f t m = true := fun m m1 m2 => by
    unfold okF
    rw [hs, Bool.true_and]
    refine decide_eq_true ?_
    omega
  exact ⟨fnR_ok _ _ _ _ _ (ok lim hl.1 hl.2) hne, _, fnR_ok _ _ _ _ _ (ok _ hd.1 (Int.le_trans hd.2 hl.2)) k1, k2⟩

/-- The marks in a range. -/
def inR (f t n : Int) : Bool := decide (f ≤ n ∧ n ≤ t)
def mrL (g : List Pt) (f t : Int) : List Int := (mks g).filter (inR f t)
def mrC (g : List Pt) (f t : Int) : Int := if gd g = false then 1 else if inR 1000 9999 f = false ∨ inR 1000 9999 t = false then 2 else if 200 < (mrL g f t).length then 3 else 0
theorem mrL_facts (g : List Pt) (f t : Int) (h : gd g = true) : (mrL g f t).Pairwise (· < ·) ∧ ∀ n ∈ mrL g f t, isM g n = true ∧ f ≤ n ∧ n ≤ t := by
  obtain ⟨-, h2⟩ := (gd_iff g).1 h
  refine ⟨(mks_sorted g _ _ h2).filter _, fun n hn => ?_⟩
  obtain ⟨h3, h4⟩ := List.mem_filter.1 hn
  exact ⟨(isM_mem g _ _ h2 n).2 h3, of_decide_eq_true h4⟩
theorem mrL_all (g : List Pt) (h : gd g = true) : mrL g 1000 9999 = mks g := by
  obtain ⟨-, h2⟩ := (gd_iff g).1 h
  refine List.filter_eq_self.2 (fun n hn => ?_)
  have := (mks_bd g _ _ h2).2 n hn
  exact decide_eq_true (by omega)
/-- As many marks as counted. -/
theorem mr_count (g : List Pt) (h : gd g = true) (hc : cntM g ≤ 200) : mrC g 1000 9999 = 0 ∧ ((mrL g 1000 9999).length : Int) = cntM g := by
  obtain ⟨-, h2⟩ := (gd_iff g).1 h
  have hl := (cntM_len g _ _ h2).1
  rw [mrL_all g h]
  refine ⟨?_, hl.symm⟩
  unfold mrC
  rw [if_neg (by rw [h]; simp), if_neg (by decide), mrL_all g h, if_neg (by omega)]
end Go.Proofs.YtphebmbapllinaaDoor

/- Chapter 7: validity as the program asks it: no part's end is bounded until the last. -/
namespace Go.Proofs.YtphebmbapllinaaDoor
set_option linter.unusedVariables false
set_option linter.unusedSimpArgs false

def dvd7 (p : Pt) : Bool := decide (1 ≤ p.2.2 ∧ (p.2.1 - p.1).tmod p.2.2 = 0)
theorem dvd7_iff (p : Pt) : dvd7 p = true ↔ (1 ≤ p.2.2 ∧ (p.2.1 - p.1).tmod p.2.2 = 0) := by unfold dvd7; simp
def ptJ (b : Int) (p : Pt) : Bool := decide (p.1 = b ∧ p.1 < p.2.1) && dvd7 p
theorem ptJ_iff (b : Int) (p : Pt) : ptJ b p = true ↔ (p.1 = b ∧ p.1 < p.2.1 ∧ dvd7 p = true) := by unfold ptJ; simp [and_assoc]
def gdJ : Int → List Pt → Option Int
  | a, [] => some a
  | a, p :: r => if ptJ a p = true then gdJ p.2.1 r else none
theorem gdJ_cons {a b : Int} {p : Pt} {r : List Pt} (h : gdJ a (p :: r) = some b) : ptJ a p = true ∧ gdJ p.2.1 r = some b := by
  unfold gdJ at h
  split at h
  · exact ⟨by assumption, h⟩
  · cases h
theorem gdJ_append : ∀ (l r : List Pt) (a : Int), gdJ a (l ++ r) = (gdJ a l).bind fun b => gdJ b r
  | [], r, a => rfl
  | p :: l, r, a => by
    have e : ∀ m : List Pt, gdJ a (p :: m) = if ptJ a p = true then gdJ p.2.1 m else none := fun m => rfl
    rw [List.cons_append, e, e]
    split
    · exact gdJ_append l r _
    · rfl
theorem gdJ_mono : ∀ (l : List Pt) (a b : Int), gdJ a l = some b → a ≤ b
  | [], a, b, h => by
    have : a = b := by simpa [gdJ] using h
    omega
  | p :: r, a, b, h => by
    obtain ⟨h1, h2⟩ := gdJ_cons h
    have hp := (ptJ_iff _ _).1 h1
    have := gdJ_mono r _ _ h2
    omega
theorem gdJ_gdE : ∀ (l : List Pt) (a : Int), gdJ a l = some 10000 ↔ gdE a l = some 10000
  | [], a => by simp [gdJ, gdE]
  | p :: r, a => by
    constructor
    · intro h
      obtain ⟨h1, h2⟩ := gdJ_cons h
      obtain ⟨q1, q2, q3⟩ := (ptJ_iff _ _).1 h1
      obtain ⟨q4, q5⟩ := (dvd7_iff _).1 q3
      have hm := gdJ_mono r _ _ h2
      have ho : ptOk a p = true := (ptOk_iff _ _).2 ⟨q1, by omega, hm, q4, q5⟩
      unfold gdE
      rw [if_pos ho]
      exact (gdJ_gdE r _).1 h2
    · intro h
      obtain ⟨h1, h2⟩ := gdE_cons h
      obtain ⟨q1, q2, q3, q4, q5⟩ := (ptOk_iff _ _).1 h1
      have ho : ptJ a p = true := (ptJ_iff _ _).2 ⟨q1, by omega, (dvd7_iff _).2 ⟨q4, q5⟩⟩
      unfold gdJ
      rw [if_pos ho]
      exact (gdJ_gdE r _).2 h2
theorem gd_J (zs : List Pt) : gd zs = (decide (zs.length ≤ 12) && decide (gdJ 1000 zs = some 10000)) := by
  cases zs with
  | nil => unfold gd; simp [gdJ]
  | cons p r =>
    unfold gd
    congr 1
    · simp
    · rw [decide_eq_decide]; exact (gdJ_gdE _ _).symm
theorem gdJ_take {zs : List Pt} {k : Nat} {p : Pt} (h : zs[k]? = some p) {a b : Int} (hb : gdJ a (zs.take k) = some b) :
    (ptJ b p = true → gdJ a (zs.take (k + 1)) = some p.2.1) ∧ (ptJ b p = false → gdJ a zs = none) := by
  obtain ⟨hk, e⟩ := List.getElem?_eq_some_iff.1 h
  have hs : gdJ a (zs.take (k + 1)) = if ptJ b p = true then some p.2.1 else none := by
    rw [List.take_succ_eq_append_getElem hk, e, gdJ_append, hb]
    rfl
  refine ⟨fun ho => by rw [hs, if_pos ho], fun ho => ?_⟩
  rw [ho] at hs
  have h2 := gdJ_append (zs.take (k + 1)) (zs.drop (k + 1)) a
  rw [List.take_append_drop, hs] at h2
  simpa using h2
/-- A part of a valid graduation: what lies ahead of it and behind it. -/
theorem gd_split {zs : List Pt} (h : gd zs = true) {k : Nat} {p : Pt} (hp : zs[k]? = some p) :
    ∃ a, gdE 1000 (zs.take k) = some a ∧ ptOk a p = true ∧ gdE p.2.1 (zs.drop (k + 1)) = some 10000 := by
  obtain ⟨-, h2⟩ := (gd_iff zs).1 h
  obtain ⟨hk, e⟩ := List.getElem?_eq_some_iff.1 hp
  have hs := gdE_append (zs.take k) (zs.drop k) 1000
  rw [List.take_append_drop, h2] at hs
  cases hb : gdE 1000 (zs.take k) with
  | none => rw [hb] at hs; cases hs
  | some a =>
    rw [hb, List.drop_eq_getElem_cons hk] at hs
    have hs2 : gdE a (zs[k] :: zs.drop (k + 1)) = some 10000 := hs.symm
    rw [e] at hs2
    obtain ⟨k1, k2⟩ := gdE_cons hs2
    exact ⟨a, rfl, k1, k2⟩
/-- A number within a part is a mark just if it is one of that part. -/
theorem isM_in {zs : List Pt} (h : gd zs = true) {k : Nat} {p : Pt} (hp : zs[k]? = some p) (n : Int) (h1 : p.1 ≤ n) (h2 : n < p.2.1) : isM zs n = decide ((n - p.1).tmod p.2.2 = 0) := by
  obtain ⟨a, e1, e2, e3⟩ := gd_split h hp
  obtain ⟨hk, e⟩ := List.getElem?_eq_some_iff.1 hp
  have f1 : isM (zs.take k) n = false := by
    cases q : isM (zs.take k) n with
    | false => rfl
    | true =>
      have := (mks_bd _ _ _ e1).2 n ((isM_mem _ _ _ e1 n).1 q)
      have := ((ptOk_iff _ _).1 e2).1
      omega
  have f2 : isM (zs.drop (k + 1)) n = false := by
    cases q : isM (zs.drop (k + 1)) n with
    | false => rfl
    | true =>
      have := (mks_bd _ _ _ e3).2 n ((isM_mem _ _ _ e3 n).1 q)
      omega
  have f3 : isM zs n = (isM (zs.take k) n || (prI n p || isM (zs.drop (k + 1)) n)) := by
    have e4 : zs = zs.take k ++ (p :: zs.drop (k + 1)) := by rw [← e, ← List.drop_eq_getElem_cons hk, List.take_append_drop]
    unfold isM
    conv => lhs; rw [e4]
    rw [List.any_append, List.any_cons]
  rw [f3, f1, f2, Bool.false_or, Bool.or_false]
  unfold prI
  rw [decide_eq_decide]
  omega
end Go.Proofs.YtphebmbapllinaaDoor

/- Chapter 7: the distances of marks that follow one another, in their order. -/
namespace Go.Proofs.YtphebmbapllinaaDoor
set_option linter.unusedVariables false
set_option linter.unusedSimpArgs false

def gap1 (s l a b : Int) : List Int := if cnts s a b = true then [dst s l a b] else []
def gapF (s l : Int) : Int → List Int → List Int
  | _, [] => []
  | a, b :: r => gap1 s l a b ++ gapF s l b r
def gapsL (s l : Int) : List Int → List Int
  | [] => []
  | a :: r => gapF s l a r
def lastO : Int → List Int → Int
  | a, [] => a
  | _, b :: r => lastO b r
def lst0 : List Int → Int
  | [] => 0
  | a :: r => lastO a r
theorem lastO_snoc : ∀ (r : List Int) (a y : Int), lastO a (r ++ [y]) = y
  | [], a, y => rfl
  | b :: r, a, y => lastO_snoc r b y
theorem lst0_snoc (L : List Int) (y : Int) : lst0 (L ++ [y]) = y := by
  cases L with
  | nil => rfl
  | cons a r => exact lastO_snoc r a y
theorem gapF_append (s l : Int) : ∀ (r t : List Int) (a : Int), gapF s l a (r ++ t) = gapF s l a r ++ gapF s l (lastO a r) t
  | [], t, a => rfl
  | b :: r, t, a => by
    have e : ∀ m, gapF s l a (b :: m) = gap1 s l a b ++ gapF s l b m := fun m => rfl
    rw [List.cons_append, e, e, gapF_append s l r t b, List.append_assoc]
    rfl
theorem gapsL_nil (s l : Int) : gapsL s l [] = [] := rfl
theorem gapsL_one (s l y : Int) : gapsL s l [y] = [] := rfl
theorem gapsL_snoc (s l : Int) {L : List Int} (h : L ≠ []) (y : Int) : gapsL s l (L ++ [y]) = gapsL s l L ++ gap1 s l (lst0 L) y := by
  cases L with
  | nil => exact absurd rfl h
  | cons a r =>
    have e : ∀ m, gapsL s l (a :: m) = gapF s l a m := fun m => rfl
    rw [List.cons_append, e, e, gapF_append]
    have e2 : gapF s l (lastO a r) [y] = gap1 s l (lastO a r) y ++ [] := rfl
    rw [e2, List.append_nil]
    rfl
theorem gapsL_pre (s l : Int) {p L : List Int} (h : p <+: L) : gapsL s l p <+: gapsL s l L := by
  obtain ⟨t, rfl⟩ := h
  cases p with
  | nil => exact List.nil_prefix
  | cons a r =>
    have e : ∀ m, gapsL s l (a :: m) = gapF s l a m := fun m => rfl
    rw [List.cons_append, e, e, gapF_append]
    exact List.prefix_append _ _
theorem gap1_nn (s l a b : Int) : ∀ d ∈ gap1 s l a b, 0 ≤ d := by
  intro d hd
  unfold gap1 at hd
  split at hd
  · simp at hd; subst hd; exact dst_nn _ _ _ _
  · simp at hd
theorem gapF_nn (s l : Int) : ∀ (r : List Int) (a : Int), ∀ d ∈ gapF s l a r, 0 ≤ d
  | [], a, d, h => by simp [gapF] at h
  | b :: r, a, d, h => by
    have e : gapF s l a (b :: r) = gap1 s l a b ++ gapF s l b r := rfl
    rw [e, List.mem_append] at h
    rcases h with h | h
    · exact gap1_nn _ _ _ _ d h
    · exact gapF_nn s l r b d h
theorem gapsL_nn (s l : Int) (L : List Int) : ∀ d ∈ gapsL s l L, 0 ≤ d := by
  cases L with
  | nil => intro d h; simp [gapsL] at h
  | cons a r => exact gapF_nn s l r a
/-- The least so far; none: less than nought. -/
def lm (m d : Int) : Int := if m < 0 ∨ d < m then d else m
theorem lm_lo (m d : Int) (h : m < 0 ∨ d < m) : lm m d = d := if_pos h
theorem lm_hi (m d : Int) (h : ¬ (m < 0 ∨ d < m)) : lm m d = m := if_neg h
theorem ldS_fold (s l : Int) : ∀ (r : List Int) (m a : Int), ldS s l m a r = (gapF s l a r).foldl lm m
  | [], m, a => rfl
  | b :: r, m, a => by
    have e : gapF s l a (b :: r) = gap1 s l a b ++ gapF s l b r := rfl
    have e2 : ldS s l m a (b :: r) = ldS s l (if cnts s a b = true ∧ (m < 0 ∨ dst s l a b < m) then dst s l a b else m) b r := rfl
    rw [e, e2, List.foldl_append, ldS_fold s l r]
    congr 1
    unfold gap1
    by_cases hc : cnts s a b = true
    · rw [if_pos hc]
      simp only [List.foldl_cons, List.foldl_nil, hc, true_and]
      rfl
    · rw [if_neg hc]
      simp [hc]
def leG (G : List Int) : Int := G.foldl lm (-1)
theorem ldM_fold (s l : Int) (L : List Int) : ldM s l L = leG (gapsL s l L) := by
  cases L with
  | nil => rfl
  | cons a r => exact ldS_fold s l r (-1) a
theorem leG_nil : leG [] = -1 := rfl
theorem leG_snoc (G : List Int) (d : Int) : leG (G ++ [d]) = lm (leG G) d := by unfold leG; rw [List.foldl_append]; rfl
theorem fold_all (lim : Int) : ∀ (G : List Int) (m : Int), (∀ d ∈ G, 0 ≤ d) → ((G.foldl lm m < 0 ∨ lim ≤ G.foldl lm m) ↔ ((m < 0 ∨ lim ≤ m) ∧ ∀ d ∈ G, lim ≤ d))
  | [], m, h => by simp
  | d :: G, m, h => by
    have hd := h d (by simp)
    rw [List.foldl_cons, fold_all lim G _ (fun x hx => h x (by simp [hx]))]
    simp only [List.forall_mem_cons]
    by_cases hc : m < 0 ∨ d < m
    · rw [lm_lo m d hc]
      constructor
      · rintro ⟨h1, h2⟩; exact ⟨by omega, by omega, h2⟩
      · rintro ⟨h1, h2, h3⟩; exact ⟨by omega, h3⟩
    · rw [lm_hi m d hc]
      constructor
      · rintro ⟨h1, h2⟩; exact ⟨h1, by omega, h2⟩
      · rintro ⟨h1, h2, h3⟩; exact ⟨h1, h3⟩
/-- No distance is below the limit. -/
theorem ldM_all (s l lim : Int) (L : List Int) : (ldM s l L < 0 ∨ lim ≤ ldM s l L) ↔ ∀ d ∈ gapsL s l L, lim ≤ d := by
  rw [ldM_fold]
  unfold leG
  rw [fold_all lim _ _ (gapsL_nn s l L)]
  simp
/-- The program's pair: the least one and whether there is one. -/
def lvG (G : List Int) : Int := if leG G < 0 then 0 else leG G
def fvG (G : List Int) : Bool := decide (0 ≤ leG G)
theorem leG_ge (G : List Int) (h : ∀ d ∈ G, 0 ≤ d) : -1 ≤ leG G := by
  unfold leG
  have key : ∀ (G : List Int) (m : Int), (∀ d ∈ G, 0 ≤ d) → -1 ≤ m → -1 ≤ G.foldl lm m := by
    intro G
    induction G with
    | nil => intro m _ hm; exact hm
    | cons d G ih =>
      intro m h hm
      rw [List.foldl_cons]
      refine ih _ (fun x hx => h x (by simp [hx])) ?_
      have := h d (by simp)
      unfold lm
      split <;> omega
  exact key G _ h (by omega)
end Go.Proofs.YtphebmbapllinaaDoor

/- Chapter 8: ticks, as functions of numbers: heights, codes, the nearest one, how many between, the closest ones. -/
namespace Go.Proofs.YtphebmbapllinaaDoor
set_option linter.unusedVariables false
set_option linter.unusedSimpArgs false

abbrev Tk := Int × Int × Int
def hgt (n : Int) : Int := if n.tmod 1000 = 0 then 4 else if n.tmod 500 = 0 then 3 else if n.tmod 100 = 0 then 2 else if n.tmod 50 = 0 then 1 else 0
theorem hgt_bd (n : Int) : 0 ≤ hgt n ∧ hgt n ≤ 4 := by unfold hgt; repeat' split <;> omega

/-- A tick's place is a value. -/
def allP (zs : List Tk) : Bool := zs.all fun p => vl p.2.1
theorem allP_take {zs : List Tk} {k : Nat} {z : Tk} (h : zs[k]? = some z) (ha : allP (zs.take k) = true) (hz : vl z.2.1 = true) : allP (zs.take (k + 1)) = true := by
  obtain ⟨hk, e⟩ := List.getElem?_eq_some_iff.1 h
  unfold allP at *
  rw [List.take_succ_eq_append_getElem hk, List.all_append, ha, e]
  simp [hz]
theorem allP_bad {zs : List Tk} {k : Nat} {z : Tk} (h : zs[k]? = some z) (hz : vl z.2.1 = false) : allP zs = false := by
  unfold allP
  cases ha : zs.all fun p => vl p.2.1
  · rfl
  · rw [List.all_eq_true] at ha
    rw [ha z (List.mem_of_getElem? h)] at hz; cases hz
theorem allP_at {zs : List Tk} {k : Nat} {z : Tk} (h : zs[k]? = some z) (ha : allP zs = true) : vl z.2.1 = true := by
  unfold allP at ha
  rw [List.all_eq_true] at ha
  exact ha z (List.mem_of_getElem? h)
/-- The code of ticks and of the points that come with them. -/
def tkE (zs : List Tk) (q : Bool) : Int := if 150 < zs.length then 3 else if (q && allP zs) = true then 0 else 2
theorem tkE_cases (zs : List Tk) (q : Bool) : (150 < zs.length ∧ tkE zs q = 3) ∨ (zs.length ≤ 150 ∧ q = true ∧ allP zs = true ∧ tkE zs q = 0) ∨ (zs.length ≤ 150 ∧ (q = false ∨ allP zs = false) ∧ tkE zs q = 2) := by
  unfold tkE
  by_cases h : 150 < zs.length
  · exact .inl ⟨h, by rw [if_pos h]⟩
  · rw [if_neg h]
    cases q <;> cases allP zs
    · exact .inr (.inr ⟨by omega, .inl rfl, rfl⟩)
    · exact .inr (.inr ⟨by omega, .inl rfl, rfl⟩)
    · exact .inr (.inr ⟨by omega, .inr rfl, rfl⟩)
    · exact .inr (.inl ⟨by omega, rfl, rfl, rfl⟩)
theorem tkE_false (zs : List Tk) (h : tkE zs true = 0) : tkE zs false = 2 := by
  unfold tkE at *
  split at h
  · omega
  · rename_i h1; rw [if_neg h1]; rfl
theorem tkE_same (zs : List Tk) (q : Bool) (h : tkE zs true ≠ 0) : tkE zs q = tkE zs true := by
  unfold tkE at *
  split
  · rfl
  · rename_i h1
    rw [if_neg h1] at h
    cases hp : allP zs
    · simp
    · rw [hp] at h; exact absurd rfl h

/-- The first of the least. -/
def argm (d : Nat → Int) : Nat → Nat
  | 0 => 0
  | k + 1 => if d k < d (argm d k) then k else argm d k
theorem argm_succ (d : Nat → Int) (k : Nat) : argm d (k + 1) = if d k < d (argm d k) then k else argm d k := rfl
theorem argm_lt (d : Nat → Int) : ∀ k, 0 < k → argm d k < k
  | k + 1, _ => by
    rw [argm_succ]
    split
    · omega
    · rcases Nat.eq_zero_or_pos k with h | h
      · subst h; simp [argm]
      · have := argm_lt d k h; omega
theorem argm_le (d : Nat → Int) : ∀ k j, j < k → d (argm d k) ≤ d j
  | k + 1, j, h => by
    rw [argm_succ]
    rcases Nat.lt_or_ge j k with h1 | h1
    · have := argm_le d k j h1
      split <;> omega
    · obtain rfl : j = k := by omega
      split <;> omega
def tkP (zs : List Tk) (i : Nat) : Int := (zs.getD i (0, 0, 0)).2.1
theorem tkP_at {zs : List Tk} {k : Nat} {z : Tk} (h : zs[k]? = some z) : tkP zs k = z.2.1 := by unfold tkP; rw [List.getD_eq_getElem?_getD, h]; rfl
theorem tkP_bd {zs : List Tk} (ha : allP zs = true) (k : Nat) : -1000000000000 ≤ tkP zs k ∧ tkP zs k ≤ 1000000000000 := by
  unfold tkP
  rw [List.getD_eq_getElem?_getD]
  cases h : zs[k]? with
  | none => simp
  | some z => exact (vl_iff _).1 (allP_at h ha)
/-- How far a tick is from a point. -/
def tkD (zs : List Tk) (p : Int) (i : Nat) : Int := ((tkP zs i - p).natAbs : Int)
def ntE (zs : List Tk) (p : Int) : Int := if tkE zs (vl p) = 0 then if zs.length = 0 then 4 else 0 else tkE zs (vl p)
def ntV (zs : List Tk) (p : Int) : Int := if ntE zs p = 0 then (argm (tkD zs p) zs.length : Int) else 0
/-- How many ticks stand between two bounds. -/
def cntB (zs : List Tk) (f t : Int) : Nat → Int
  | 0 => 0
  | k + 1 => if f ≤ tkP zs k ∧ tkP zs k ≤ t then cntB zs f t k + 1 else cntB zs f t k
theorem cntB_succ (zs : List Tk) (f t : Int) (k : Nat) : cntB zs f t (k + 1) = if f ≤ tkP zs k ∧ tkP zs k ≤ t then cntB zs f t k + 1 else cntB zs f t k := rfl
theorem cntB_bd (zs : List Tk) (f t : Int) : ∀ k : Nat, 0 ≤ cntB zs f t k ∧ cntB zs f t k ≤ k
  | 0 => by simp [cntB]
  | k + 1 => by
    have := cntB_bd zs f t k
    rw [cntB_succ]
    split <;> omega
def tbE (zs : List Tk) (f t : Int) : Int := tkE zs (vl f && vl t)
def tbV (zs : List Tk) (f t : Int) : Int := if tbE zs f t = 0 then cntB zs f t zs.length else 0
/-- The closest pair: the first of the least. -/
def clJ (D : Nat → Nat → Int) (i : Nat) (s : Nat × Nat) : Nat → Nat × Nat
  | 0 => s
  | m + 1 => if D i (i + 1 + m) < D (clJ D i s m).1 (clJ D i s m).2 then (i, i + 1 + m) else clJ D i s m
theorem clJ_succ (D : Nat → Nat → Int) (i : Nat) (s : Nat × Nat) (m : Nat) : clJ D i s (m + 1) = if D i (i + 1 + m) < D (clJ D i s m).1 (clJ D i s m).2 then (i, i + 1 + m) else clJ D i s m := rfl
def clI (D : Nat → Nat → Int) (n : Nat) : Nat → Nat × Nat
  | 0 => (0, 1)
  | i + 1 => clJ D i (clI D n i) (n - (i + 1))
theorem clI_succ (D : Nat → Nat → Int) (n i : Nat) : clI D n (i + 1) = clJ D i (clI D n i) (n - (i + 1)) := rfl
theorem clJ_lt (D : Nat → Nat → Int) (n i : Nat) (s : Nat × Nat) (h : s.1 < s.2 ∧ s.2 < n) : ∀ m, i + 1 + m ≤ n → (clJ D i s m).1 < (clJ D i s m).2 ∧ (clJ D i s m).2 < n
  | 0, _ => h
  | m + 1, hm => by
    have ih := clJ_lt D n i s h m (by omega)
    rw [clJ_succ]
    split
    · exact ⟨by simp; omega, by simp; omega⟩
    · exact ih
theorem clI_lt (D : Nat → Nat → Int) (n : Nat) (hn : 2 ≤ n) : ∀ i, i ≤ n → (clI D n i).1 < (clI D n i).2 ∧ (clI D n i).2 < n
  | 0, _ => by simp [clI]; omega
  | i + 1, hi => by
    rw [clI_succ]
    exact clJ_lt D n i _ (clI_lt D n hn i (by omega)) _ (by omega)
theorem clJ_le (D : Nat → Nat → Int) (i : Nat) (s : Nat × Nat) : ∀ m, D (clJ D i s m).1 (clJ D i s m).2 ≤ D s.1 s.2 ∧ ∀ k, k < m → D (clJ D i s m).1 (clJ D i s m).2 ≤ D i (i + 1 + k)
  | 0 => ⟨by simp [clJ], fun k hk => absurd hk (by omega)⟩
  | m + 1 => by
    obtain ⟨i1, i2⟩ := clJ_le D i s m
    rw [clJ_succ]
    split
    · rename_i h
      refine ⟨by simp; omega, fun k hk => ?_⟩
      rcases Nat.lt_or_ge k m with h1 | h1
      · have := i2 k h1; simp; omega
      · obtain rfl : k = m := by omega
        simp
    · rename_i h
      refine ⟨i1, fun k hk => ?_⟩
      rcases Nat.lt_or_ge k m with h1 | h1
      · exact i2 k h1
      · obtain rfl : k = m := by omega
        omega
theorem clI_le (D : Nat → Nat → Int) (n : Nat) : ∀ i, i ≤ n → ∀ a b, a < i → a < b → b < n → D (clI D n i).1 (clI D n i).2 ≤ D a b
  | 0, _, a, b, h, _, _ => absurd h (by omega)
  | i + 1, hi, a, b, h, h2, h3 => by
    rw [clI_succ]
    obtain ⟨i1, i2⟩ := clJ_le D i (clI D n i) (n - (i + 1))
    rcases Nat.lt_or_ge a i with h1 | h1
    · have := clI_le D n i (by omega) a b h1 h2 h3
      omega
    · obtain rfl : a = i := by omega
      have := i2 (b - (a + 1)) (by omega)
      rw [show a + 1 + (b - (a + 1)) = b by omega] at this
      exact this
def Dp (zs : List Tk) (i j : Nat) : Int := ((tkP zs i - tkP zs j).natAbs : Int)
def ctE (zs : List Tk) : Int := if tkE zs true = 0 then if zs.length < 2 then 4 else 0 else tkE zs true
def ctA (zs : List Tk) : Int := if ctE zs = 0 then ((clI (Dp zs) zs.length zs.length).1 : Int) else 0
def ctB (zs : List Tk) : Int := if ctE zs = 0 then ((clI (Dp zs) zs.length zs.length).2 : Int) else 0
/-- How many numbers have a height. -/
def cHn (l : List Int) (h : Nat) : Int := ((l.filter fun n => decide (hgt n = (h : Int))).length : Int)
def cH (l : List Int) : List Int := [cHn l 0, cHn l 1, cHn l 2, cHn l 3, cHn l 4]
theorem cH_len (l : List Int) : (cH l).length = 5 := rfl
theorem cH_at (l : List Int) (k : Nat) (h : k < 5) : (cH l)[k]? = some (cHn l k) := by
  rcases (show k = 0 ∨ k = 1 ∨ k = 2 ∨ k = 3 ∨ k = 4 by omega) with rfl | rfl | rfl | rfl | rfl <;> rfl
theorem cHn_bd (l : List Int) (k : Nat) : 0 ≤ cHn l k ∧ cHn l k ≤ l.length := by
  unfold cHn
  have := List.length_filter_le (fun n => decide (hgt n = (k : Int))) l
  omega
theorem cHn_snoc (l : List Int) (y : Int) (k : Nat) : cHn (l ++ [y]) k = cHn l k + if hgt y = (k : Int) then 1 else 0 := by
  unfold cHn
  rw [List.filter_append, List.length_append]
  by_cases h : hgt y = (k : Int)
  · rw [if_pos h]; simp [h]
  · rw [if_neg h]; simp [h]
theorem cH_snoc (l : List Int) (y : Int) (k : Nat) (hk : hgt y = (k : Int)) : cH (l ++ [y]) = (cH l).set k (cHn l k + 1) := by
  have hb := hgt_bd y
  have hk5 : k < 5 := by omega
  unfold cH
  rw [cHn_snoc, cHn_snoc, cHn_snoc, cHn_snoc, cHn_snoc, hk]
  rcases (show k = 0 ∨ k = 1 ∨ k = 2 ∨ k = 3 ∨ k = 4 by omega) with rfl | rfl | rfl | rfl | rfl <;> simp
theorem cH_nil : cH [] = [0, 0, 0, 0, 0] := by unfold cH cHn; simp
end Go.Proofs.YtphebmbapllinaaDoor

/- Chapter 8: putting an element into a list behind those that need not stand after it. -/
namespace Go.Proofs.YtphebmbapllinaaDoor
set_option linter.unusedVariables false
set_option linter.unusedSimpArgs false

/-- Where it goes: going down while the element stands before the one below. -/
def insA (q : Nat → Bool) : Nat → Nat
  | 0 => 0
  | k + 1 => if q k = true then insA q k else k + 1
theorem insA_succ (q : Nat → Bool) (k : Nat) : insA q (k + 1) = if q k = true then insA q k else k + 1 := rfl
theorem insA_le (q : Nat → Bool) : ∀ k, insA q k ≤ k
  | 0 => Nat.le_refl _
  | k + 1 => by
    rw [insA_succ]
    split
    · exact Nat.le_succ_of_le (insA_le q k)
    · exact Nat.le_refl _
theorem insA_above (q : Nat → Bool) : ∀ k j, insA q k ≤ j → j < k → q j = true
  | k + 1, j, h1, h2 => by
    rw [insA_succ] at h1
    split at h1
    · rename_i h
      rcases Nat.lt_or_ge j k with h3 | h3
      · exact insA_above q k j h1 h3
      · obtain rfl : j = k := by omega
        exact h
    · omega
theorem insA_below (q : Nat → Bool) : ∀ k, 0 < insA q k → q (insA q k - 1) = false
  | 0, h => absurd h (by simp [insA])
  | k + 1, h => by
    rw [insA_succ] at h ⊢
    split
    · rename_i h1
      rw [if_pos h1] at h
      exact insA_below q k h
    · rename_i h1
      simpa using h1
theorem insA_congr {q r : Nat → Bool} : ∀ k, (∀ j, j < k → q j = r j) → insA q k = insA r k
  | 0, _ => rfl
  | k + 1, h => by
    rw [insA_succ, insA_succ, h k (by omega), insA_congr k (fun j hj => h j (by omega))]
section
variable {α : Type}
/-- The list with the element put in. -/
def insB (bf : α → α → Bool) (x : α) (xs : List α) : List α :=
  let at_ := insA (fun k => (xs[k]?.map (bf x)).getD false) xs.length
  xs.take at_ ++ x :: xs.drop at_
def insN (bf : α → α → Bool) (x : α) (xs : List α) : Nat := insA (fun k => (xs[k]?.map (bf x)).getD false) xs.length
theorem insB_eq (bf : α → α → Bool) (x : α) (xs : List α) : insB bf x xs = xs.take (insN bf x xs) ++ x :: xs.drop (insN bf x xs) := rfl
theorem insN_le (bf : α → α → Bool) (x : α) (xs : List α) : insN bf x xs ≤ xs.length := insA_le _ _
theorem insB_len (bf : α → α → Bool) (x : α) (xs : List α) : (insB bf x xs).length = xs.length + 1 := by
  have := insN_le bf x xs
  rw [insB_eq, List.length_append, List.length_take, List.length_cons, List.length_drop]
  omega
theorem insB_perm (bf : α → α → Bool) (x : α) (xs : List α) : (insB bf x xs).Perm (x :: xs) := by
  rw [insB_eq]
  have h := List.perm_middle (a := x) (l₁ := xs.take (insN bf x xs)) (l₂ := xs.drop (insN bf x xs))
  rwa [List.take_append_drop] at h
theorem insB_mem (bf : α → α → Bool) (x : α) (xs : List α) (y : α) : y ∈ insB bf x xs ↔ y = x ∨ y ∈ xs := by
  rw [(insB_perm bf x xs).mem_iff, List.mem_cons]
/-- What stands behind it, and what just before it. -/
theorem insB_after (bf : α → α → Bool) (x : α) (xs : List α) (j : Nat) (y : α) (hy : xs[j]? = some y) (h : insN bf x xs ≤ j) : bf x y = true := by
  obtain ⟨hj, -⟩ := List.getElem?_eq_some_iff.1 hy
  have := insA_above _ _ j h hj
  rw [hy] at this
  exact this
theorem insB_before (bf : α → α → Bool) (x : α) (xs : List α) (h : 0 < insN bf x xs) : ∃ y, xs[insN bf x xs - 1]? = some y ∧ bf x y = false := by
  have hle := insN_le bf x xs
  have hb := insA_below _ _ h
  have hl : insN bf x xs - 1 < xs.length := by omega
  refine ⟨xs[insN bf x xs - 1], List.getElem?_eq_getElem hl, ?_⟩
  change ((xs[insN bf x xs - 1]?).map (bf x)).getD false = false at hb
  rw [List.getElem?_eq_getElem hl] at hb
  exact hb
end
end Go.Proofs.YtphebmbapllinaaDoor

/- Chapter 8: which ticks stay apart: by falling heights, in their order for equal heights. -/
namespace Go.Proofs.YtphebmbapllinaaDoor
set_option linter.unusedVariables false
set_option linter.unusedSimpArgs false

section
variable {α β : Type}
/-- An element goes between those that it need not stand before and those that it stands before. -/
theorem insA_split (q : Nat → Bool) (a : Nat) : ∀ b, (∀ j, a ≤ j → j < a + b → q j = true) → (0 < a → q (a - 1) = false) → insA q (a + b) = a
  | 0, _, h2 => by
    cases a with
    | zero => rfl
    | succ a =>
      rw [Nat.add_zero, insA_succ, if_neg (by have := h2 (by omega); simp at this; simp [this])]
  | b + 1, h1, h2 => by
    rw [← Nat.add_assoc, insA_succ, if_pos (h1 (a + b) (by omega) (by omega))]
    exact insA_split q a b (fun j hj hj2 => h1 j hj (by omega)) h2
theorem insB_split (bf : α → α → Bool) (x : α) (A B : List α) (hA : ∀ y ∈ A, bf x y = false) (hB : ∀ y ∈ B, bf x y = true) : insB bf x (A ++ B) = A ++ x :: B := by
  have e : insN bf x (A ++ B) = A.length := by
    unfold insN
    rw [List.length_append]
    refine insA_split _ _ _ (fun j h1 h2 => ?_) (fun h => ?_)
    · rw [List.getElem?_append_right h1, List.getElem?_eq_getElem (by omega)]
      exact hB _ (List.getElem_mem _)
    · rw [List.getElem?_append_left (by omega), List.getElem?_eq_getElem (by omega)]
      exact hA _ (List.getElem_mem _)
  rw [insB_eq, e]
  simp
theorem insB_map (f : α → β) (bf : α → α → Bool) (bg : β → β → Bool) (x : α) (xs : List α) (h : ∀ y ∈ xs, bg (f x) (f y) = bf x y) : insB bg (f x) (xs.map f) = (insB bf x xs).map f := by
  have e : insN bg (f x) (xs.map f) = insN bf x xs := by
    unfold insN
    rw [List.length_map]
    refine insA_congr _ (fun j hj => ?_)
    rw [List.getElem?_map, List.getElem?_eq_getElem hj]
    exact h _ (List.getElem_mem _)
  rw [insB_eq, insB_eq, e]
  simp
end

/-- The height of a tick. -/
def tkH (zs : List Tk) (i : Nat) : Int := (zs.getD i (0, 0, 0)).2.2
theorem tkH_at {zs : List Tk} {k : Nat} {z : Tk} (h : zs[k]? = some z) : tkH zs k = z.2.2 := by unfold tkH; rw [List.getD_eq_getElem?_getD, h]; rfl
def allH (zs : List Tk) : Bool := zs.all fun p => decide (0 ≤ p.2.2 ∧ p.2.2 ≤ 4)
theorem allH_take {zs : List Tk} {k : Nat} {z : Tk} (h : zs[k]? = some z) (ha : allH (zs.take k) = true) (hz : 0 ≤ z.2.2 ∧ z.2.2 ≤ 4) : allH (zs.take (k + 1)) = true := by
  obtain ⟨hk, e⟩ := List.getElem?_eq_some_iff.1 h
  unfold allH at *
  rw [List.take_succ_eq_append_getElem hk, List.all_append, ha, e]
  simp [hz]
theorem allH_bad {zs : List Tk} {k : Nat} {z : Tk} (h : zs[k]? = some z) (hz : ¬ (0 ≤ z.2.2 ∧ z.2.2 ≤ 4)) : allH zs = false := by
  cases ha : allH zs
  · rfl
  · unfold allH at ha
    rw [List.all_eq_true] at ha
    exact absurd (of_decide_eq_true (ha z (List.mem_of_getElem? h))) hz
theorem allH_at {zs : List Tk} {k : Nat} {z : Tk} (h : zs[k]? = some z) (ha : allH zs = true) : 0 ≤ z.2.2 ∧ z.2.2 ≤ 4 := by
  unfold allH at ha
  rw [List.all_eq_true] at ha
  exact of_decide_eq_true (ha z (List.mem_of_getElem? h))
theorem tkH_bd {zs : List Tk} (ha : allH zs = true) (k : Nat) : 0 ≤ tkH zs k ∧ tkH zs k ≤ 4 := by
  unfold tkH
  rw [List.getD_eq_getElem?_getD]
  cases h : zs[k]? with
  | none => simp
  | some z => exact allH_at h ha

/-- The ticks among the first ones that have a height. -/
def ofH (zs : List Tk) (h : Int) (k : Nat) : List Nat := (List.range k).filter fun i => decide (tkH zs i = h)
theorem ofH_succ (zs : List Tk) (h : Int) (k : Nat) : ofH zs h (k + 1) = ofH zs h k ++ if tkH zs k = h then [k] else [] := by
  unfold ofH
  rw [List.range_succ, List.filter_append]
  by_cases e : tkH zs k = h
  · rw [if_pos e]; simp [e]
  · rw [if_neg e]; simp [e]
theorem ofH_mem {zs : List Tk} {h : Int} {k i : Nat} : i ∈ ofH zs h k ↔ i < k ∧ tkH zs i = h := by unfold ofH; rw [List.mem_filter, List.mem_range]; simp
/-- By falling heights. -/
def byH (zs : List Tk) (k : Nat) : List Nat := ofH zs 4 k ++ (ofH zs 3 k ++ (ofH zs 2 k ++ (ofH zs 1 k ++ ofH zs 0 k)))
def bfH (zs : List Tk) (i j : Nat) : Bool := decide (tkH zs j < tkH zs i)
theorem byH_mem {zs : List Tk} (ha : allH zs = true) {k i : Nat} : i ∈ byH zs k ↔ i < k := by
  have := tkH_bd ha i
  unfold byH
  simp only [List.mem_append, ofH_mem]
  constructor
  · rintro (h | h | h | h | h) <;> exact h.1
  · intro h
    rcases (show tkH zs i = 4 ∨ tkH zs i = 3 ∨ tkH zs i = 2 ∨ tkH zs i = 1 ∨ tkH zs i = 0 by omega) with e | e | e | e | e
    · exact .inl ⟨h, e⟩
    · exact .inr (.inl ⟨h, e⟩)
    · exact .inr (.inr (.inl ⟨h, e⟩))
    · exact .inr (.inr (.inr (.inl ⟨h, e⟩)))
    · exact .inr (.inr (.inr (.inr ⟨h, e⟩)))
theorem byH_zero (zs : List Tk) : byH zs 0 = [] := rfl
/-- One more is put in its place. -/
theorem byH_succ {zs : List Tk} (ha : allH zs = true) (k : Nat) : byH zs (k + 1) = insB (bfH zs) k (byH zs k) := by
  have hb := tkH_bd ha k
  have hF : ∀ h y, y ∈ ofH zs h k → tkH zs k ≤ h → bfH zs k y = false := fun h y hy hle => by
    have := (ofH_mem.1 hy).2
    unfold bfH; exact decide_eq_false (by omega)
  have hT : ∀ h y, y ∈ ofH zs h k → h < tkH zs k → bfH zs k y = true := fun h y hy hle => by
    have := (ofH_mem.1 hy).2
    unfold bfH; exact decide_eq_true (by omega)
  rcases (show tkH zs k = 4 ∨ tkH zs k = 3 ∨ tkH zs k = 2 ∨ tkH zs k = 1 ∨ tkH zs k = 0 by omega) with e | e | e | e | e
  · have h := insB_split (bfH zs) k (ofH zs 4 k) (ofH zs 3 k ++ (ofH zs 2 k ++ (ofH zs 1 k ++ ofH zs 0 k)))
      (fun y hy => hF 4 y hy (by omega))
      (fun y hy => by
        rcases List.mem_append.1 hy with hy | hy; exact hT 3 y hy (by omega)
        rcases List.mem_append.1 hy with hy | hy; exact hT 2 y hy (by omega)
        rcases List.mem_append.1 hy with hy | hy; exact hT 1 y hy (by omega)
        exact hT 0 y hy (by omega))
    unfold byH
    rw [h, ofH_succ, ofH_succ, ofH_succ, ofH_succ, ofH_succ, e]
    simp
  · have h := insB_split (bfH zs) k (ofH zs 4 k ++ ofH zs 3 k) (ofH zs 2 k ++ (ofH zs 1 k ++ ofH zs 0 k))
      (fun y hy => by
        rcases List.mem_append.1 hy with hy | hy; exact hF 4 y hy (by omega)
        exact hF 3 y hy (by omega))
      (fun y hy => by
        rcases List.mem_append.1 hy with hy | hy; exact hT 2 y hy (by omega)
        rcases List.mem_append.1 hy with hy | hy; exact hT 1 y hy (by omega)
        exact hT 0 y hy (by omega))
    have e2 : byH zs k = (ofH zs 4 k ++ ofH zs 3 k) ++ (ofH zs 2 k ++ (ofH zs 1 k ++ ofH zs 0 k)) := by unfold byH; simp
    rw [e2, h]
    unfold byH
    rw [ofH_succ, ofH_succ, ofH_succ, ofH_succ, ofH_succ, e]
    simp
  · have h := insB_split (bfH zs) k (ofH zs 4 k ++ (ofH zs 3 k ++ ofH zs 2 k)) (ofH zs 1 k ++ ofH zs 0 k)
      (fun y hy => by
        rcases List.mem_append.1 hy with hy | hy; exact hF 4 y hy (by omega)
        rcases List.mem_append.1 hy with hy | hy; exact hF 3 y hy (by omega)
        exact hF 2 y hy (by omega))
      (fun y hy => by
        rcases List.mem_append.1 hy with hy | hy; exact hT 1 y hy (by omega)
        exact hT 0 y hy (by omega))
    have e2 : byH zs k = (ofH zs 4 k ++ (ofH zs 3 k ++ ofH zs 2 k)) ++ (ofH zs 1 k ++ ofH zs 0 k) := by unfold byH; simp
    rw [e2, h]
    unfold byH
    rw [ofH_succ, ofH_succ, ofH_succ, ofH_succ, ofH_succ, e]
    simp
  · have h := insB_split (bfH zs) k (ofH zs 4 k ++ (ofH zs 3 k ++ (ofH zs 2 k ++ ofH zs 1 k))) (ofH zs 0 k)
      (fun y hy => by
        rcases List.mem_append.1 hy with hy | hy; exact hF 4 y hy (by omega)
        rcases List.mem_append.1 hy with hy | hy; exact hF 3 y hy (by omega)
        rcases List.mem_append.1 hy with hy | hy; exact hF 2 y hy (by omega)
        exact hF 1 y hy (by omega))
      (fun y hy => hT 0 y hy (by omega))
    have e2 : byH zs k = (ofH zs 4 k ++ (ofH zs 3 k ++ (ofH zs 2 k ++ ofH zs 1 k))) ++ ofH zs 0 k := by unfold byH; simp
    rw [e2, h]
    unfold byH
    rw [ofH_succ, ofH_succ, ofH_succ, ofH_succ, ofH_succ, e]
    simp
  · have h := insB_split (bfH zs) k (byH zs k) []
      (fun y hy => by
        unfold byH at hy
        rcases List.mem_append.1 hy with hy | hy; exact hF 4 y hy (by omega)
        rcases List.mem_append.1 hy with hy | hy; exact hF 3 y hy (by omega)
        rcases List.mem_append.1 hy with hy | hy; exact hF 2 y hy (by omega)
        rcases List.mem_append.1 hy with hy | hy; exact hF 1 y hy (by omega)
        exact hF 0 y hy (by omega))
      (fun y hy => by cases hy)
    rw [List.append_nil] at h
    rw [h]
    unfold byH
    rw [ofH_succ, ofH_succ, ofH_succ, ofH_succ, ofH_succ, e]
    simp
theorem byH_len (zs : List Tk) (ha : allH zs = true) : ∀ k, (byH zs k).length = k
  | 0 => rfl
  | k + 1 => by rw [byH_succ ha, insB_len, byH_len zs ha k]
theorem byH_nodup (zs : List Tk) (ha : allH zs = true) : ∀ k, (byH zs k).Nodup
  | 0 => by rw [byH_zero]; exact List.nodup_nil
  | k + 1 => by
    rw [byH_succ ha, (insB_perm _ _ _).nodup_iff, List.nodup_cons]
    exact ⟨fun h => by have := (byH_mem ha).1 h; omega, byH_nodup zs ha k⟩

/-- Which ticks have been kept, and whether one more is apart from them. -/
def apS (zs : List Tk) (n : Nat) (d : Nat → Nat → Bool) (S : Nat → Bool) (i : Nat) : Bool := (List.range n).all fun k => !(S k && d i k)
def stS (zs : List Tk) (n : Nat) (d : Nat → Nat → Bool) (S : Nat → Bool) (i : Nat) : Nat → Bool := if apS zs n d S i = true then fun j => S j || j == i else S
def kpS (zs : List Tk) (n : Nat) (d : Nat → Nat → Bool) (L : List Nat) : Nat → Bool := L.foldl (stS zs n d) (fun _ => false)
theorem kpS_snoc (zs : List Tk) (n : Nat) (d : Nat → Nat → Bool) (L : List Nat) (i : Nat) : kpS zs n d (L ++ [i]) = stS zs n d (kpS zs n d L) i := by unfold kpS; rw [List.foldl_append]; rfl
theorem kpS_mem (zs : List Tk) (n : Nat) (d : Nat → Nat → Bool) : ∀ (L : List Nat) (j : Nat), kpS zs n d L.reverse j = true → j ∈ L
  | [], j, h => by simp [kpS] at h
  | i :: L, j, h => by
    rw [List.reverse_cons, kpS_snoc] at h
    unfold stS at h
    split at h
    · rw [Bool.or_eq_true] at h
      rcases h with h | h
      · exact List.mem_cons_of_mem _ (kpS_mem zs n d L j h)
      · rw [beq_iff_eq.1 h]; exact List.mem_cons_self ..
    · exact List.mem_cons_of_mem _ (kpS_mem zs n d L j h)
theorem kpS_in (zs : List Tk) (n : Nat) (d : Nat → Nat → Bool) (L : List Nat) (j : Nat) (h : kpS zs n d L j = true) : j ∈ L := by
  have := kpS_mem zs n d L.reverse j (by rw [List.reverse_reverse]; exact h)
  exact List.mem_reverse.1 this
theorem kpS_new (zs : List Tk) (n : Nat) (d : Nat → Nat → Bool) (L : List Nat) (m i : Nat) (hn : L.Nodup) (hi : L[m]? = some i) : kpS zs n d (L.take m) i = false := by
  cases h : kpS zs n d (L.take m) i
  · rfl
  · have h1 := kpS_in zs n d _ _ h
    obtain ⟨hm, e⟩ := List.getElem?_eq_some_iff.1 hi
    have h2 : i ∈ L.drop m := by rw [List.drop_eq_getElem_cons hm, e]; exact List.mem_cons_self ..
    rw [← List.take_append_drop m L] at hn
    exact absurd rfl ((List.nodup_append.1 hn).2.2 i h1 i h2)
theorem kpS_next (zs : List Tk) (n : Nat) (d : Nat → Nat → Bool) (L : List Nat) (m i : Nat) (hi : L[m]? = some i) : kpS zs n d (L.take (m + 1)) = stS zs n d (kpS zs n d (L.take m)) i := by
  obtain ⟨hm, e⟩ := List.getElem?_eq_some_iff.1 hi
  rw [List.take_succ_eq_append_getElem hm, e, kpS_snoc]
/-- The kept ones, in order. -/
def lsS (n : Nat) (S : Nat → Bool) : List Nat := (List.range n).filter S
theorem range_split (n i : Nat) (h : i < n) : ∃ r, List.range n = List.range i ++ i :: r ∧ ∀ y ∈ r, i < y := by
  refine ⟨(List.range n).drop (i + 1), ?_, fun y hy => ?_⟩
  · have e1 : List.range i = (List.range n).take i := by rw [List.take_range]; congr 1; omega
    have hl : i < (List.range n).length := by simpa using h
    have e2 := List.drop_eq_getElem_cons hl
    rw [List.getElem_range] at e2
    rw [e1, ← e2, List.take_append_drop]
  · obtain ⟨k, hk, e⟩ := List.mem_iff_getElem.1 hy
    rw [List.getElem_drop, List.getElem_range] at e
    omega
theorem lsS_ins (n : Nat) (S : Nat → Bool) (i : Nat) (h : i < n) (hS : S i = false) : insB (fun a b : Nat => decide (a < b)) i (lsS n S) = lsS n (fun j => S j || j == i) := by
  obtain ⟨r, e, hr⟩ := range_split n i h
  unfold lsS
  rw [e, List.filter_append, List.filter_cons_of_neg (by rw [hS]; simp), List.filter_append, List.filter_cons_of_pos (by simp)]
  have e1 : (List.range i).filter (fun j => S j || j == i) = (List.range i).filter S := by
    refine List.filter_congr (fun j hj => ?_)
    have := List.mem_range.1 hj
    rw [show (j == i) = false by simp; omega, Bool.or_false]
  have e2 : r.filter (fun j => S j || j == i) = r.filter S := by
    refine List.filter_congr (fun j hj => ?_)
    have := hr j hj
    rw [show (j == i) = false by simp; omega, Bool.or_false]
  rw [e1, e2]
  exact insB_split _ _ _ _ (fun y hy => by
    have := List.mem_range.1 (List.mem_filter.1 hy).1
    exact decide_eq_false (by omega)) (fun y hy => by
    have := hr y (List.mem_filter.1 hy).1
    exact decide_eq_true this)
/-- The program asks the kept ones alone. -/
theorem apS_ls (zs : List Tk) (n : Nat) (d : Nat → Nat → Bool) (S : Nat → Bool) (i : Nat) : apS zs n d S i = (lsS n S).all fun k => !d i k := by
  unfold apS lsS
  rw [List.all_filter]
  congr 1
  funext k
  cases S k <;> simp
/-- The model goes height by height. -/
def gH (zs : List Tk) (n : Nat) : Nat → List Nat
  | 0 => []
  | g + 1 => gH zs n g ++ ofH zs (4 - (g : Int)) n
theorem gH_succ (zs : List Tk) (n g : Nat) : gH zs n (g + 1) = gH zs n g ++ ofH zs (4 - (g : Int)) n := rfl
theorem gH_all (zs : List Tk) (n : Nat) : gH zs n 5 = byH zs n := by
  unfold byH
  simp [gH]
def sL (zs : List Tk) (n : Nat) (d : Nat → Nat → Bool) (g i : Nat) : Nat → Bool := kpS zs n d (gH zs n g ++ ofH zs (4 - (g : Int)) i)
theorem sL_zero (zs : List Tk) (n : Nat) (d : Nat → Nat → Bool) (g : Nat) : sL zs n d g 0 = kpS zs n d (gH zs n g) := by unfold sL; simp [ofH]
theorem sL_end (zs : List Tk) (n : Nat) (d : Nat → Nat → Bool) (g : Nat) : sL zs n d g n = kpS zs n d (gH zs n (g + 1)) := rfl
theorem sL_hit (zs : List Tk) (n : Nat) (d : Nat → Nat → Bool) (g i : Nat) (h : tkH zs i = 4 - (g : Int)) : sL zs n d g (i + 1) = stS zs n d (sL zs n d g i) i := by
  unfold sL
  rw [ofH_succ, if_pos h, ← List.append_assoc, kpS_snoc]
theorem sL_miss (zs : List Tk) (n : Nat) (d : Nat → Nat → Bool) (g i : Nat) (h : tkH zs i ≠ 4 - (g : Int)) : sL zs n d g (i + 1) = sL zs n d g i := by
  unfold sL
  rw [ofH_succ, if_neg h, List.append_nil]
/-- The first ones asked. -/
def apP (zs : List Tk) (d : Nat → Nat → Bool) (S : Nat → Bool) (i k : Nat) : Bool := (List.range k).all fun k => !(S k && d i k)
theorem apP_zero (zs : List Tk) (d : Nat → Nat → Bool) (S : Nat → Bool) (i : Nat) : apP zs d S i 0 = true := rfl
theorem apP_succ (zs : List Tk) (d : Nat → Nat → Bool) (S : Nat → Bool) (i k : Nat) : apP zs d S i (k + 1) = (apP zs d S i k && !(S k && d i k)) := by
  unfold apP
  rw [List.range_succ, List.all_append]
  simp
theorem lsS_succ (S : Nat → Bool) (k : Nat) : lsS (k + 1) S = lsS k S ++ if S k = true then [k] else [] := by
  unfold lsS
  rw [List.range_succ, List.filter_append]
  cases h : S k <;> simp [h]
/-- Two ticks are nearer than a distance. -/
def nrD (zs : List Tk) (d : Int) (i k : Nat) : Bool := decide (Dp zs k i < d)
theorem nrD_sym (zs : List Tk) (d : Int) (i k : Nat) : decide (Dp zs i k < d) = nrD zs d i k := by
  unfold nrD
  rw [show Dp zs i k = Dp zs k i by unfold Dp; omega]
def kaE (zs : List Tk) (d : Int) : Int := if tkE zs true = 0 then if allH zs = true ∧ (0 ≤ d ∧ d ≤ 100000) then 0 else 2 else tkE zs true
def kaL (zs : List Tk) (d : Int) : List Int := if kaE zs d = 0 then (lsS zs.length (kpS zs zs.length (nrD zs d) (byH zs zs.length))).map fun (i : Nat) => (i : Int) else []
end Go.Proofs.YtphebmbapllinaaDoor

/- Chapter 9: the order of a proof, the least proof, and the best choice that it gives. -/
namespace Go.Proofs.YtphebmbapllinaaDoor
set_option linter.unusedVariables false
set_option linter.unusedSimpArgs false

section
variable {α : Type}
/-- Putting in keeps an order by a number. -/
theorem insB_sorted (f : α → Int) (x : α) (xs : List α) (h : xs.Pairwise (fun a b => f a ≤ f b)) : (insB (fun a b => decide (f a < f b)) x xs).Pairwise (fun a b => f a ≤ f b) := by
  have hle := insN_le (fun a b => decide (f a < f b)) x xs
  have hA : ∀ y ∈ xs.drop (insN (fun a b => decide (f a < f b)) x xs), f x < f y := by
    intro y hy
    obtain ⟨j, hj, e⟩ := List.mem_iff_getElem.1 hy
    rw [List.getElem_drop] at e
    rw [List.length_drop] at hj
    have := insB_after (fun a b => decide (f a < f b)) x xs (insN (fun a b => decide (f a < f b)) x xs + j) y (by rw [← e]; exact List.getElem?_eq_getElem (by omega)) (by omega)
    exact of_decide_eq_true this
  have hB : ∀ y ∈ xs.take (insN (fun a b => decide (f a < f b)) x xs), f y ≤ f x := by
    intro y hy
    obtain ⟨j, hj, e⟩ := List.mem_iff_getElem.1 hy
    rw [List.length_take] at hj
    rw [List.getElem_take] at e
    obtain ⟨z, hz, hb⟩ := insB_before (fun a b => decide (f a < f b)) x xs (by omega)
    have hzx : f z ≤ f x := by have := of_decide_eq_false hb; omega
    obtain ⟨hl, ez⟩ := List.getElem?_eq_some_iff.1 hz
    rcases Nat.lt_or_ge j (insN (fun a b => decide (f a < f b)) x xs - 1) with h1 | h1
    · have := List.pairwise_iff_getElem.1 h j _ (by omega) hl h1
      rw [e, ez] at this
      omega
    · have hj2 : j = insN (fun a b => decide (f a < f b)) x xs - 1 := by omega
      subst hj2
      rw [e] at ez
      rw [ez]; exact hzx
  rw [insB_eq, List.pairwise_append]
  refine ⟨h.sublist (List.take_sublist _ _), ?_, fun a ha b hb => ?_⟩
  · rw [List.pairwise_cons]
    exact ⟨fun b hb => Int.le_of_lt (hA b hb), h.sublist (List.drop_sublist _ _)⟩
  · rcases List.mem_cons.1 hb with rfl | hb
    · exact hB a ha
    · have := hB a ha
      have := hA b hb
      omega
end

section
variable (rt lf wo : Nat → Int)
/-- The order by right ends. -/
def bfR (i j : Nat) : Bool := decide (rt i < rt j)
def orL : Nat → List Nat
  | 0 => []
  | k + 1 => insB (bfR rt) k (orL k)
theorem orL_succ (k : Nat) : orL rt (k + 1) = insB (bfR rt) k (orL rt k) := rfl
theorem orL_len : ∀ k, (orL rt k).length = k
  | 0 => rfl
  | k + 1 => by rw [orL_succ, insB_len, orL_len k]
theorem orL_mem {k i : Nat} : i ∈ orL rt k ↔ i < k := by
  induction k with
  | zero => simp [orL]
  | succ k ih => rw [orL_succ, insB_mem, ih]; omega
theorem orL_nodup : ∀ k, (orL rt k).Nodup
  | 0 => List.nodup_nil
  | k + 1 => by
    rw [orL_succ, (insB_perm _ _ _).nodup_iff, List.nodup_cons]
    exact ⟨fun h => by have := (orL_mem rt).1 h; omega, orL_nodup k⟩
theorem orL_perm : ∀ k, (orL rt k).Perm (List.range k)
  | 0 => List.Perm.refl _
  | k + 1 => by
    rw [orL_succ, List.range_succ]
    exact (insB_perm _ _ _).trans (((orL_perm k).cons k).trans (List.perm_append_comm (l₁ := [k]) (l₂ := List.range k)))
theorem orL_sorted : ∀ k, (orL rt k).Pairwise (fun a b => rt a ≤ rt b)
  | 0 => List.Pairwise.nil
  | k + 1 => insB_sorted rt k (orL rt k) (orL_sorted k)
/-- The p-th one. -/
def orA (n p : Nat) : Nat := (orL rt n).getD p 0
theorem orA_at {n p : Nat} (h : p < n) : (orL rt n)[p]? = some (orA rt n p) := by
  unfold orA
  rw [List.getD_eq_getElem?_getD, List.getElem?_eq_getElem (by rw [orL_len]; exact h)]
  rfl
theorem orA_lt {n p : Nat} (h : p < n) : orA rt n p < n := (orL_mem rt).1 (List.mem_of_getElem? (orA_at rt h))
theorem orA_inj {n p q : Nat} (hp : p < n) (hq : q < n) (e : orA rt n p = orA rt n q) : p = q := by
  have h1 := orA_at rt hp
  have h2 := orA_at rt hq
  rw [← e, ← h1] at h2
  exact ((List.getElem?_inj (by rw [orL_len]; exact hq) (orL_nodup rt n)).1 h2).symm
theorem orA_le {n p q : Nat} (hpq : p ≤ q) (hq : q < n) : rt (orA rt n p) ≤ rt (orA rt n q) := by
  rcases Nat.lt_or_ge p q with h | h
  · obtain ⟨h1, e1⟩ := List.getElem?_eq_some_iff.1 (orA_at rt (show p < n by omega))
    obtain ⟨h2, e2⟩ := List.getElem?_eq_some_iff.1 (orA_at rt hq)
    have := List.pairwise_iff_getElem.1 (orL_sorted rt n) p q h1 h2 h
    rwa [e1, e2] at this
  · rw [show p = q by omega]; exact Int.le_refl _
theorem orA_sur {n i : Nat} (h : i < n) : ∃ p, p < n ∧ orA rt n p = i := by
  obtain ⟨p, hp, e⟩ := List.mem_iff_getElem.1 ((orL_mem rt).2 h)
  rw [orL_len] at hp
  refine ⟨p, hp, ?_⟩
  have := orA_at rt hp
  rw [List.getElem?_eq_getElem (by rw [orL_len]; exact hp), e] at this
  injection this with this
  exact this.symm
/-- How many of the first k end at a place or before it. -/
def frK (x : Int) (k : Nat) : Nat := ((List.range k).filter fun j => decide (rt j ≤ x)).length
theorem frK_zero (x : Int) : frK rt x 0 = 0 := rfl
theorem frK_succ (x : Int) (k : Nat) : frK rt x (k + 1) = frK rt x k + if rt k ≤ x then 1 else 0 := by
  unfold frK
  rw [List.range_succ, List.filter_append, List.length_append]
  by_cases h : rt k ≤ x <;> simp [h]
theorem frK_le (x : Int) (k : Nat) : frK rt x k ≤ k := by
  unfold frK
  have := List.length_filter_le (fun j => decide (rt j ≤ x)) (List.range k)
  rwa [List.length_range] at this
def frN (n i : Nat) : Nat := frK rt (lf i) n
theorem frK_ord (x : Int) (n : Nat) : frK rt x n = ((orL rt n).filter fun j => decide (rt j ≤ x)).length := by
  unfold frK
  exact ((orL_perm rt n).filter _).length_eq.symm
/-- Those that end at a place or before it are the first ones in the order. -/
theorem frK_iff (x : Int) {n p : Nat} (hp : p < n) : rt (orA rt n p) ≤ x ↔ p < frK rt x n := by
  have hs := List.take_append_drop p (orL rt n)
  have hl := orL_len rt n
  rw [frK_ord, ← hs, List.filter_append, List.length_append]
  have hd : (orL rt n).drop p = orA rt n p :: (orL rt n).drop (p + 1) := by
    obtain ⟨h1, e1⟩ := List.getElem?_eq_some_iff.1 (orA_at rt hp)
    rw [List.drop_eq_getElem_cons h1, e1]
  constructor
  · intro h
    have h1 : (((orL rt n).take p).filter fun j => decide (rt j ≤ x)) = (orL rt n).take p := by
      rw [List.filter_eq_self]
      intro y hy
      obtain ⟨j, hj, e⟩ := List.mem_iff_getElem.1 hy
      rw [List.length_take] at hj
      rw [List.getElem_take] at e
      have h2 := orA_at rt (show j < n by omega)
      rw [List.getElem?_eq_getElem (by omega), e] at h2
      injection h2 with h2
      have := orA_le rt (show j ≤ p by omega) hp
      rw [h2]
      exact decide_eq_true (by omega)
    rw [h1, hd, List.filter_cons_of_pos (by simpa using h), List.length_take, List.length_cons]
    omega
  · intro h
    rcases Int.lt_or_le x (rt (orA rt n p)) with h1 | h1
    · exfalso
      have h2 : (((orL rt n).drop p).filter fun j => decide (rt j ≤ x)) = [] := by
        rw [List.filter_eq_nil_iff]
        intro y hy
        obtain ⟨j, hj, e⟩ := List.mem_iff_getElem.1 hy
        rw [List.length_drop] at hj
        rw [List.getElem_drop] at e
        have h3 := orA_at rt (show p + j < n by omega)
        rw [List.getElem?_eq_getElem (by omega), e] at h3
        injection h3 with h3
        have := orA_le rt (show p ≤ p + j by omega) (show p + j < n by omega)
        rw [h3]
        simp
        omega
      rw [h2] at h
      have h4 := List.length_filter_le (fun j => decide (rt j ≤ x)) ((orL rt n).take p)
      rw [List.length_take] at h4
      simp at h
      omega
    · exact h1
theorem frN_le {n p : Nat} (hp : p < n) (h : lf (orA rt n p) < rt (orA rt n p)) : frN rt lf n (orA rt n p) ≤ p := by
  rcases Nat.lt_or_ge p (frN rt lf n (orA rt n p)) with h1 | h1
  · have := (frK_iff rt (lf (orA rt n p)) hp).2 h1
    omega
  · exact h1

/-- The least proof. -/
def pvN (n : Nat) (v : List Int) (i : Nat) : Int := max (v.getD i 0) (wo (orA rt n i) + v.getD (frN rt lf n (orA rt n i)) 0)
def pvL (n : Nat) : Nat → List Int
  | 0 => [0]
  | i + 1 => pvL n i ++ [pvN rt lf wo n (pvL n i) i]
theorem pvL_succ (n i : Nat) : pvL rt lf wo n (i + 1) = pvL rt lf wo n i ++ [pvN rt lf wo n (pvL rt lf wo n i) i] := rfl
theorem pvL_len (n : Nat) : ∀ i, (pvL rt lf wo n i).length = i + 1
  | 0 => rfl
  | i + 1 => by rw [pvL_succ, List.length_append, pvL_len n i]; rfl
/-- Its numbers. -/
def pvA (n i : Nat) : Int := (pvL rt lf wo n i).getD i 0
theorem pvL_at (n : Nat) : ∀ (m i : Nat), i ≤ m → (pvL rt lf wo n m)[i]? = some (pvA rt lf wo n i)
  | 0, i, h => by
    obtain rfl : i = 0 := by omega
    rfl
  | m + 1, i, h => by
    by_cases hi : i = m + 1
    · subst hi
      unfold pvA
      rw [List.getD_eq_getElem?_getD, List.getElem?_eq_getElem (by rw [pvL_len]; omega)]
      rfl
    · rw [pvL_succ, List.getElem?_append_left (by rw [pvL_len]; omega)]
      exact pvL_at n m i (by omega)
theorem pvL_getD (n : Nat) (m i : Nat) (h : i ≤ m) : (pvL rt lf wo n m).getD i 0 = pvA rt lf wo n i := by
  rw [List.getD_eq_getElem?_getD, pvL_at rt lf wo n m i h]; rfl
theorem pvA_zero (n : Nat) : pvA rt lf wo n 0 = 0 := rfl
theorem pvA_succ (n i : Nat) (hf : frN rt lf n (orA rt n i) ≤ i) : pvA rt lf wo n (i + 1) = max (pvA rt lf wo n i) (wo (orA rt n i) + pvA rt lf wo n (frN rt lf n (orA rt n i))) := by
  have h := pvL_at rt lf wo n (i + 1) (i + 1) (Nat.le_refl _)
  rw [pvL_succ, List.getElem?_append_right (by rw [pvL_len]; omega), pvL_len, show i + 1 - (i + 1) = 0 by omega] at h
  simp only [List.getElem?_cons_zero] at h
  injection h with h
  rw [← h]
  unfold pvN
  rw [pvL_getD rt lf wo n i i (Nat.le_refl _), pvL_getD rt lf wo n i _ hf]
theorem pvL_next (n i : Nat) (hf : frN rt lf n (orA rt n i) ≤ i) : pvL rt lf wo n (i + 1) = pvL rt lf wo n i ++ [max (pvA rt lf wo n i) (wo (orA rt n i) + pvA rt lf wo n (frN rt lf n (orA rt n i)))] := by
  rw [pvL_succ]
  unfold pvN
  rw [pvL_getD rt lf wo n i i (Nat.le_refl _), pvL_getD rt lf wo n i _ hf]
theorem pvA_bd {n : Nat} (hw : ∀ i, 0 ≤ wo i ∧ wo i ≤ 41) (hf : ∀ i, i < n → frN rt lf n (orA rt n i) ≤ i) (i : Nat) (hi : i ≤ n) : 0 ≤ pvA rt lf wo n i ∧ pvA rt lf wo n i ≤ 41 * (i : Int) := by
  induction i using Nat.strongRecOn with
  | _ i ih =>
    cases i with
    | zero => rw [pvA_zero]; omega
    | succ i =>
      have hfi := hf i (by omega)
      have h1 := ih i (by omega) (by omega)
      have h2 := ih (frN rt lf n (orA rt n i)) (by omega) (by omega)
      have h3 := hw (orA rt n i)
      rw [pvA_succ rt lf wo n i hfi]
      have : (frN rt lf n (orA rt n i) : Int) ≤ (i : Int) := by omega
      omega

/-- The best choice: from the end on. -/
def bcS (n : Nat) (i : Nat) (S : Nat → Bool) : Nat → Bool :=
  if h : i = 0 then S
  else if pvA rt lf wo n i = pvA rt lf wo n (i - 1) then bcS n (i - 1) S
  else bcS n (min (frN rt lf n (orA rt n (i - 1))) (i - 1)) (fun j => S j || j == orA rt n (i - 1))
termination_by i
decreasing_by all_goals omega
theorem bcS_zero (n : Nat) (S : Nat → Bool) : bcS rt lf wo n 0 S = S := by rw [bcS, dif_pos rfl]
theorem bcS_same (n i : Nat) (S : Nat → Bool) (h : pvA rt lf wo n (i + 1) = pvA rt lf wo n i) : bcS rt lf wo n (i + 1) S = bcS rt lf wo n i S := by
  rw [bcS, dif_neg (by omega), Nat.add_sub_cancel, if_pos h]
theorem bcS_take (n i : Nat) (S : Nat → Bool) (h : ¬ pvA rt lf wo n (i + 1) = pvA rt lf wo n i) (hf : frN rt lf n (orA rt n i) ≤ i) : bcS rt lf wo n (i + 1) S = bcS rt lf wo n (frN rt lf n (orA rt n i)) (fun j => S j || j == orA rt n i) := by
  rw [bcS, dif_neg (by omega), Nat.add_sub_cancel, if_neg h, Nat.min_eq_left hf]
/-- Those that have been taken stand behind. -/
def bcI (n i : Nat) (S : Nat → Bool) : Prop := ∀ j, S j = true → ∃ p, i ≤ p ∧ p < n ∧ orA rt n p = j
theorem bcI_none (n : Nat) : bcI rt n n (fun _ => false) := fun j h => by cases h
theorem bcI_new {n i : Nat} {S : Nat → Bool} (h : bcI rt n (i + 1) S) (hi : i < n) : S (orA rt n i) = false := by
  cases e : S (orA rt n i)
  · rfl
  · obtain ⟨p, h1, h2, h3⟩ := h _ e
    have := orA_inj rt h2 hi h3
    omega
theorem bcI_same {n i : Nat} {S : Nat → Bool} (h : bcI rt n (i + 1) S) : bcI rt n i S := fun j hj => by
  obtain ⟨p, h1, h2, h3⟩ := h j hj
  exact ⟨p, by omega, h2, h3⟩
theorem bcI_take {n i f : Nat} {S : Nat → Bool} (h : bcI rt n (i + 1) S) (hi : i < n) (hf : f ≤ i) : bcI rt n f (fun j => S j || j == orA rt n i) := fun j hj => by
  rw [Bool.or_eq_true] at hj
  rcases hj with hj | hj
  · obtain ⟨p, h1, h2, h3⟩ := h j hj
    exact ⟨p, by omega, h2, h3⟩
  · exact ⟨i, hf, hi, (beq_iff_eq.1 hj).symm⟩
end
end Go.Proofs.YtphebmbapllinaaDoor

/- Chapter 9: no choice has more than the least proof ends with; the best choice has just that; no proof is less. -/
namespace Go.Proofs.YtphebmbapllinaaDoor
set_option linter.unusedVariables false
set_option linter.unusedSimpArgs false

theorem perm_sum {α : Type} (f : α → Int) {l m : List α} (h : l.Perm m) : (l.map f).sum = (m.map f).sum := by
  induction h with
  | nil => rfl
  | cons x _ ih => simp [ih]
  | swap x y l => simp; omega
  | trans _ _ ih1 ih2 => exact ih1.trans ih2

section
variable (rt lf wo : Nat → Int) (n : Nat)
/-- The worth of those of a set that stand among the first p in the order. -/
def wsP (S : Nat → Bool) (p : Nat) : Int := ((((orL rt n).take p).filter S).map wo).sum
theorem wsP_zero (S : Nat → Bool) : wsP rt wo n S 0 = 0 := by simp [wsP]
theorem wsP_succ (S : Nat → Bool) {p : Nat} (h : p < n) : wsP rt wo n S (p + 1) = wsP rt wo n S p + if S (orA rt n p) = true then wo (orA rt n p) else 0 := by
  obtain ⟨h1, e1⟩ := List.getElem?_eq_some_iff.1 (orA_at rt h)
  unfold wsP
  rw [List.take_succ_eq_append_getElem h1, e1, List.filter_append, List.map_append, List.sum_append]
  cases hS : S (orA rt n p) <;> simp [hS]
theorem wsP_all (S : Nat → Bool) : wsP rt wo n S n = ((lsS n S).map wo).sum := by
  unfold wsP lsS
  rw [List.take_of_length_le (by rw [orL_len]; exact Nat.le_refl _)]
  exact perm_sum wo ((orL_perm rt n).filter S)
theorem wsP_gap (S : Nat → Bool) {f p : Nat} (hfp : f ≤ p) (hp : p ≤ n) (h : ∀ q, f ≤ q → q < p → S (orA rt n q) = false) : wsP rt wo n S p = wsP rt wo n S f := by
  induction p with
  | zero => rw [show f = 0 by omega]
  | succ p ih =>
    rcases Nat.lt_or_ge p f with h1 | h1
    · rw [show f = p + 1 by omega]
    · rw [wsP_succ rt wo n S (by omega), h p h1 (by omega), ih h1 (by omega) (fun q a b => h q a (by omega))]
      simp
theorem wsP_congr (S T : Nat → Bool) {p : Nat} (hp : p ≤ n) (h : ∀ q, q < p → S (orA rt n q) = T (orA rt n q)) : wsP rt wo n S p = wsP rt wo n T p := by
  induction p with
  | zero => rw [wsP_zero, wsP_zero]
  | succ p ih => rw [wsP_succ rt wo n S (by omega), wsP_succ rt wo n T (by omega), h p (by omega), ih (by omega) (fun q a => h q (by omega))]

/-- No two of a set collide. -/
def freeS (co : Nat → Nat → Bool) (S : Nat → Bool) : Prop := ∀ i k, i < n → k < n → S i = true → S k = true → i ≠ k → co i k = false
variable {rt lf n} {co : Nat → Nat → Bool}
/-- No set without collisions has more than the least proof. -/
theorem ws_le (hlr : ∀ i, i < n → lf i < rt i) (hco : ∀ i k, i < n → k < n → co i k = false → rt i ≤ lf k ∨ rt k ≤ lf i) (S : Nat → Bool) (hS : freeS n co S) : ∀ p, p ≤ n → wsP rt wo n S p ≤ pvA rt lf wo n p := by
  intro p
  induction p using Nat.strongRecOn with
  | _ p ih =>
    intro hp
    cases p with
    | zero => rw [wsP_zero, pvA_zero]; omega
    | succ p =>
      have hpn : p < n := by omega
      have hi := orA_lt rt hpn
      have hf := frN_le rt lf hpn (hlr _ hi)
      rw [pvA_succ rt lf wo n p hf, wsP_succ rt wo n S hpn]
      by_cases hs : S (orA rt n p) = true
      · rw [if_pos hs]
        have hg : wsP rt wo n S p = wsP rt wo n S (frN rt lf n (orA rt n p)) := by
          refine wsP_gap rt wo n S hf (by omega) (fun q hq1 hq2 => ?_)
          cases hq : S (orA rt n q)
          · rfl
          · exfalso
            have hqn : q < n := by omega
            have hk := orA_lt rt hqn
            have hne : orA rt n q ≠ orA rt n p := fun e => by have := orA_inj rt hqn hpn e; omega
            rcases hco _ _ hk hi (hS _ _ hk hi hq hs hne) with h | h
            · have := (frK_iff rt (lf (orA rt n p)) hqn).1 h
              unfold frN at hq1
              omega
            · have h1 := hlr _ hk
              have h2 := orA_le rt (show q ≤ p by omega) hpn
              omega
        have h1 := ih (frN rt lf n (orA rt n p)) (by omega) (by omega)
        rw [hg]
        have := Int.le_max_right (pvA rt lf wo n p) (wo (orA rt n p) + pvA rt lf wo n (frN rt lf n (orA rt n p)))
        omega
      · rw [if_neg hs]
        have h1 := ih p (by omega) (by omega)
        have := Int.le_max_left (pvA rt lf wo n p) (wo (orA rt n p) + pvA rt lf wo n (frN rt lf n (orA rt n p)))
        omega

/-- What the best choice adds to a set. -/
theorem bcS_add (hlr : ∀ i, i < n → lf i < rt i) : ∀ i, i ≤ n → ∀ S : Nat → Bool, ∀ j, bcS rt lf wo n i S j = (S j || bcS rt lf wo n i (fun _ => false) j) := by
  intro i
  induction i using Nat.strongRecOn with
  | _ i ih =>
    intro hi S j
    cases i with
    | zero => simp [bcS_zero]
    | succ i =>
      have hin : i < n := by omega
      have hf := frN_le rt lf hin (hlr _ (orA_lt rt hin))
      by_cases h : pvA rt lf wo n (i + 1) = pvA rt lf wo n i
      · rw [bcS_same rt lf wo n i S h, bcS_same rt lf wo n i (fun _ => false) h]
        exact ih i (by omega) (by omega) S j
      · rw [bcS_take rt lf wo n i S h hf, bcS_take rt lf wo n i (fun _ => false) h hf, ih _ (by omega) (by omega), ih _ (by omega) (by omega) (fun j => false || j == orA rt n i)]
        simp [Bool.or_assoc]
/-- The best choice: where its elements stand, that they do not collide, and what they are worth. -/
theorem bcS_best (hlr : ∀ i, i < n → lf i < rt i) (hco : ∀ i k, i < n → k < n → (rt i ≤ lf k ∨ rt k ≤ lf i) → co i k = false) :
    ∀ i, i ≤ n → (∀ j, bcS rt lf wo n i (fun _ => false) j = true → ∃ p, p < i ∧ orA rt n p = j) ∧ freeS n co (bcS rt lf wo n i (fun _ => false)) ∧ wsP rt wo n (bcS rt lf wo n i (fun _ => false)) i = pvA rt lf wo n i := by
  intro i
  induction i using Nat.strongRecOn with
  | _ i ih =>
    intro hi
    cases i with
    | zero =>
      rw [bcS_zero]
      exact ⟨fun j h => (by cases h), fun i k _ _ h => (by cases h), by rw [wsP_zero, pvA_zero]⟩
    | succ i =>
      have hin : i < n := by omega
      have hlt := orA_lt rt hin
      have hf := frN_le rt lf hin (hlr _ hlt)
      by_cases h : pvA rt lf wo n (i + 1) = pvA rt lf wo n i
      · rw [bcS_same rt lf wo n i _ h]
        obtain ⟨a, b, c⟩ := ih i (by omega) (by omega)
        refine ⟨fun j hj => ?_, b, ?_⟩
        · obtain ⟨p, h1, h2⟩ := a j hj
          exact ⟨p, by omega, h2⟩
        · rw [wsP_succ rt wo n _ hin, if_neg, c, h]
          · simp
          · intro hs
            obtain ⟨p, h1, h2⟩ := a _ hs
            have := orA_inj rt (show p < n by omega) hin h2
            omega
      · obtain ⟨a, b, c⟩ := ih (frN rt lf n (orA rt n i)) (by omega) (by omega)
        have e : ∀ j, bcS rt lf wo n (i + 1) (fun _ => false) j = (j == orA rt n i || bcS rt lf wo n (frN rt lf n (orA rt n i)) (fun _ => false) j) := by
          intro j
          rw [bcS_take rt lf wo n i _ h hf, bcS_add wo hlr _ (by omega)]
          simp
        have hpv : pvA rt lf wo n (i + 1) = wo (orA rt n i) + pvA rt lf wo n (frN rt lf n (orA rt n i)) := by
          have h1 := pvA_succ rt lf wo n i hf
          rw [h1] at h ⊢
          omega
        generalize bcS rt lf wo n (i + 1) (fun _ => false) = T at *
        generalize bcS rt lf wo n (frN rt lf n (orA rt n i)) (fun _ => false) = U at *
        have hU : ∀ k, U k = true → rt k ≤ lf (orA rt n i) := fun k hk => by
          obtain ⟨p, h1, rfl⟩ := a k hk
          exact (frK_iff rt (lf (orA rt n i)) (by omega)).2 h1
        refine ⟨fun j hj => ?_, fun x y hx hy h1 h2 hne => ?_, ?_⟩
        · rw [e, Bool.or_eq_true] at hj
          rcases hj with hj | hj
          · exact ⟨i, by omega, (beq_iff_eq.1 hj).symm⟩
          · obtain ⟨p, h1, h2⟩ := a j hj
            exact ⟨p, by omega, h2⟩
        · rw [e, Bool.or_eq_true] at h1 h2
          rcases h1 with h1 | h1
          · obtain rfl := beq_iff_eq.1 h1
            rcases h2 with h2 | h2
            · exact absurd (beq_iff_eq.1 h2).symm hne
            · exact hco _ _ hx hy (.inr (hU _ h2))
          · rcases h2 with h2 | h2
            · obtain rfl := beq_iff_eq.1 h2
              exact hco _ _ hx hy (.inl (hU _ h1))
            · exact b _ _ hx hy h1 h2 hne
        · rw [wsP_succ rt wo n T hin, if_pos (by rw [e]; simp), hpv, ← c]
          have hg : wsP rt wo n T i = wsP rt wo n T (frN rt lf n (orA rt n i)) := by
            refine wsP_gap rt wo n T hf (by omega) (fun q h1 h2 => ?_)
            rw [e]
            cases hq : U (orA rt n q)
            · have : orA rt n q ≠ orA rt n i := fun e => by have := orA_inj rt (show q < n by omega) hin e; omega
              simp [this]
            · obtain ⟨p, h3, h4⟩ := a _ hq
              have := orA_inj rt (show p < n by omega) (show q < n by omega) h4
              omega
          rw [hg, wsP_congr rt wo n T U (by omega) (fun q hq => by
            rw [e]
            have : orA rt n q ≠ orA rt n i := fun e => by have := orA_inj rt (show q < n by omega) hin e; omega
            simp [this])]
          omega
/-- No proof is less than the least. -/
theorem pv_least (hlr : ∀ i, i < n → lf i < rt i) (v : Nat → Int) (h0 : v 0 = 0) (hv : ∀ k, k < n → v k ≤ v (k + 1) ∧ wo (orA rt n k) + v (frN rt lf n (orA rt n k)) ≤ v (k + 1)) : ∀ p, p ≤ n → pvA rt lf wo n p ≤ v p := by
  intro p
  induction p using Nat.strongRecOn with
  | _ p ih =>
    intro hp
    cases p with
    | zero => rw [pvA_zero, h0]; omega
    | succ p =>
      have hpn : p < n := by omega
      have hf := frN_le rt lf hpn (hlr _ (orA_lt rt hpn))
      rw [pvA_succ rt lf wo n p hf]
      obtain ⟨a, b⟩ := hv p hpn
      have h1 := ih p (by omega) (by omega)
      have h2 := ih (frN rt lf n (orA rt n p)) (by omega) (by omega)
      rw [Int.max_def]
      split <;> omega
/-- Those kept do not collide. -/
theorem kpS_free {zs : List Tk} (hsy : ∀ i k, co i k = co k i) (L : List Nat) (hL : ∀ i ∈ L, i < n) : freeS n co (kpS zs n co L) := by
  have key : ∀ (M : List Nat) (S : Nat → Bool), freeS n co S → freeS n co (M.foldl (stS zs n co) S) := by
    intro M
    induction M with
    | nil => exact fun S h => h
    | cons x M ih =>
      intro S h
      rw [List.foldl_cons]
      refine ih _ ?_
      unfold stS
      split
      · rename_i ha
        unfold apS at ha
        rw [List.all_eq_true] at ha
        have hx : ∀ k, k < n → S k = true → co x k = false := fun k hk hs => by
          have := ha k (List.mem_range.2 hk)
          rw [hs] at this
          simpa using this
        intro i k hi hk h1 h2 hne
        rw [Bool.or_eq_true] at h1 h2
        rcases h1 with h1 | h1
        · rcases h2 with h2 | h2
          · exact h i k hi hk h1 h2 hne
          · obtain rfl := beq_iff_eq.1 h2
            rw [hsy]
            exact hx i hi h1
        · obtain rfl := beq_iff_eq.1 h1
          rcases h2 with h2 | h2
          · exact hx k hk h2
          · exact absurd (beq_iff_eq.1 h2).symm hne
      · exact h
  exact key L _ (fun i k _ _ h => by cases h)
end
end Go.Proofs.YtphebmbapllinaaDoor
