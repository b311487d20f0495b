/- Chapter 7: graduations, as functions of numbers: which lists of parts are valid, their marks, how many, which is nearest. -/
import Derived.Test.YtlimfpdibohioaaMB
namespace Go.Proofs.Ytlimfpdibohioaa
set_option linter.unusedVariables false
set_option linter.unusedSimpArgs false

/-- A part: from, to, step. -/
abbrev Pt := Int × Int × Int
def ptOk (at_ : Int) (p : Pt) : Bool := decide (p.1 = at_ ∧ at_ + 1 ≤ p.2.1 ∧ p.2.1 ≤ 10000 ∧ 1 ≤ p.2.2 ∧ (p.2.1 - p.1).tmod p.2.2 = 0)
theorem ptOk_iff (at_ : Int) (p : Pt) : ptOk at_ p = true ↔ (p.1 = at_ ∧ at_ + 1 ≤ p.2.1 ∧ p.2.1 ≤ 10000 ∧ 1 ≤ p.2.2 ∧ (p.2.1 - p.1).tmod p.2.2 = 0) := by unfold ptOk; simp
/-- Where a chain of parts that begins at a number ends; none, if a part does not fit. -/
def gdE : Int → List Pt → Option Int
  | a, [] => some a
  | a, p :: r => if ptOk a p = true then gdE p.2.1 r else none
def gd (g : List Pt) : Bool := decide (1 ≤ g.length ∧ g.length ≤ 12) && decide (gdE 1000 g = some 10000)
theorem gd_iff (g : List Pt) : gd g = true ↔ ((1 ≤ g.length ∧ g.length ≤ 12) ∧ gdE 1000 g = some 10000) := by unfold gd; simp
theorem gdE_cons {a b : Int} {p : Pt} {r : List Pt} (h : gdE a (p :: r) = some b) : ptOk a p = true ∧ gdE p.2.1 r = some b := by
  unfold gdE at h
  split at h
  · exact ⟨by assumption, h⟩
  · cases h
theorem gdE_snoc (a : Int) : ∀ (g : List Pt) (p : Pt), gdE a (g ++ [p]) = (gdE a g).bind fun b => if ptOk b p = true then some p.2.1 else none := by
  intro g
  induction g generalizing a with
  | nil => intro p; rfl
  | cons q r ih =>
    intro p
    rw [List.cons_append]
    unfold gdE
    split
    · exact ih _ p
    · rfl

/-- The marks of a part. -/
def prN (p : Pt) : Nat := ((p.2.1 - p.1) / p.2.2).toNat
def prM (p : Pt) : List Int := (List.range (prN p)).map fun (i : Nat) => p.1 + p.2.2 * (i : Int)
def mks (g : List Pt) : List Int := g.flatMap prM
def cntM (g : List Pt) : Int := (g.map fun p => (p.2.1 - p.1).tdiv p.2.2).sum
/-- A number is a mark of a part. -/
def prI (n : Int) (p : Pt) : Bool := decide (p.1 ≤ n ∧ n < p.2.1 ∧ (n - p.1).tmod p.2.2 = 0)
def isM (g : List Pt) (n : Int) : Bool := g.any (prI n)

theorem prN_is {a : Int} {p : Pt} (h : ptOk a p = true) : p.1 + p.2.2 * (prN p : Int) = p.2.1 ∧ 1 ≤ prN p := by
  obtain ⟨rfl, h1, h2, h3, h4⟩ := (ptOk_iff _ _).1 h
  rw [Int.tmod_eq_emod_of_nonneg (by omega)] at h4
  have hd := Int.mul_ediv_add_emod (p.2.1 - p.1) p.2.2
  rw [h4] at hd
  have hq : 0 ≤ (p.2.1 - p.1) / p.2.2 := Int.ediv_nonneg (by omega) (by omega)
  have hn : ((prN p : Nat) : Int) = (p.2.1 - p.1) / p.2.2 := by unfold prN; omega
  refine ⟨by rw [hn]; omega, ?_⟩
  rcases Nat.lt_or_ge 0 (prN p) with g | g
  · exact g
  · exfalso
    have h0 : prN p = 0 := by omega
    rw [← hn, h0] at hd
    simp at hd
    omega
theorem mem_prM {a : Int} {p : Pt} (h : ptOk a p = true) (n : Int) : n ∈ prM p ↔ (p.1 ≤ n ∧ n < p.2.1 ∧ (n - p.1).tmod p.2.2 = 0) := by
  obtain ⟨e, -⟩ := prN_is h
  obtain ⟨rfl, h1, h2, h3, h4⟩ := (ptOk_iff _ _).1 h
  unfold prM
  rw [List.mem_map]
  constructor
  · rintro ⟨i, hi, rfl⟩
    rw [List.mem_range] at hi
    have hm := Int.mul_le_mul_of_nonneg_left (show ((i : Int) + 1) ≤ (prN p : Int) by omega) (show 0 ≤ p.2.2 by omega)
    rw [Int.mul_add] at hm
    have h0 : 0 ≤ p.2.2 * (i : Int) := Int.mul_nonneg (by omega) (by omega)
    refine ⟨by omega, by omega, ?_⟩
    rw [show p.1 + p.2.2 * (i : Int) - p.1 = p.2.2 * (i : Int) by omega]
    exact Int.mul_tmod_right _ _
  · rintro ⟨g1, g2, g3⟩
    rw [Int.tmod_eq_emod_of_nonneg (by omega)] at g3
    have hd := Int.mul_ediv_add_emod (n - p.1) p.2.2
    rw [g3] at hd
    have hq : 0 ≤ (n - p.1) / p.2.2 := Int.ediv_nonneg (by omega) (by omega)
    refine ⟨((n - p.1) / p.2.2).toNat, ?_, by rw [Int.toNat_of_nonneg hq]; omega⟩
    rw [List.mem_range]
    rcases Nat.lt_or_ge ((n - p.1) / p.2.2).toNat (prN p) with g | g
    · exact g
    · exfalso
      have hm := Int.mul_le_mul_of_nonneg_left (show (prN p : Int) ≤ (n - p.1) / p.2.2 by omega) (show 0 ≤ p.2.2 by omega)
      omega
theorem prI_mem {a : Int} {p : Pt} (h : ptOk a p = true) (n : Int) : prI n p = true ↔ n ∈ prM p := by
  rw [mem_prM h]; unfold prI; simp
theorem prM_sorted {a : Int} {p : Pt} (h : ptOk a p = true) : (prM p).Pairwise (· < ·) := by
  obtain ⟨-, -, -, h3, -⟩ := (ptOk_iff _ _).1 h
  unfold prM
  rw [List.pairwise_map]
  refine List.Pairwise.imp ?_ List.pairwise_lt_range
  intro i j hij
  have hm := Int.mul_le_mul_of_nonneg_left (show ((i : Int) + 1) ≤ (j : Int) by omega) (show 0 ≤ p.2.2 by omega)
  rw [Int.mul_add] at hm
  omega
theorem prM_len (p : Pt) : (prM p).length = prN p := by unfold prM; simp
theorem prM_head {a : Int} {p : Pt} (h : ptOk a p = true) : (prM p)[0]? = some a := by
  obtain ⟨-, h1⟩ := prN_is h
  obtain ⟨rfl, -⟩ := (ptOk_iff _ _).1 h
  unfold prM
  rw [List.getElem?_map, List.getElem?_range (by omega)]
  simp

/-- The marks of a chain lie between its ends. -/
theorem mks_bd : ∀ (g : List Pt) (a b : Int), gdE a g = some b → a ≤ b ∧ ∀ n ∈ mks g, a ≤ n ∧ n < b
  | [], a, b, h => by
    have : a = b := by simpa [gdE] using h
    subst this
    exact ⟨Int.le_refl _, by simp [mks]⟩
  | p :: r, a, b, h => by
    obtain ⟨h1, h2⟩ := gdE_cons h
    obtain ⟨i1, i2⟩ := mks_bd r _ _ h2
    have hp := (ptOk_iff _ _).1 h1
    refine ⟨by omega, fun n hn => ?_⟩
    unfold mks at hn
    rw [List.flatMap_cons, List.mem_append] at hn
    rcases hn with hn | hn
    · have := (mem_prM h1 n).1 hn
      omega
    · have := i2 n hn
      omega
theorem mks_sorted : ∀ (g : List Pt) (a b : Int), gdE a g = some b → (mks g).Pairwise (· < ·)
  | [], a, b, h => by simp [mks]
  | p :: r, a, b, h => by
    obtain ⟨h1, h2⟩ := gdE_cons h
    unfold mks
    rw [List.flatMap_cons, List.pairwise_append]
    refine ⟨prM_sorted h1, mks_sorted r _ _ h2, fun x hx y hy => ?_⟩
    have := (mem_prM h1 x).1 hx
    have := (mks_bd r _ _ h2).2 y hy
    omega
theorem isM_mem : ∀ (g : List Pt) (a b : Int), gdE a g = some b → ∀ n, isM g n = true ↔ n ∈ mks g
  | [], a, b, h, n => by simp [isM, mks]
  | p :: r, a, b, h, n => by
    obtain ⟨h1, h2⟩ := gdE_cons h
    have ih := isM_mem r _ _ h2 n
    unfold isM at ih ⊢
    unfold mks at ih ⊢
    rw [List.any_cons, Bool.or_eq_true, prI_mem h1, ih, List.flatMap_cons, List.mem_append]
theorem cntM_len : ∀ (g : List Pt) (a b : Int), gdE a g = some b → cntM g = ((mks g).length : Int) ∧ cntM g ≤ b - a
  | [], a, b, h => by
    have : a = b := by simpa [gdE] using h
    subst this
    simp [cntM, mks]
  | p :: r, a, b, h => by
    obtain ⟨h1, h2⟩ := gdE_cons h
    obtain ⟨i1, i2⟩ := cntM_len r _ _ h2
    obtain ⟨rfl, q1, q2, q3, q4⟩ := (ptOk_iff _ _).1 h1
    have hn : ((prN p : Nat) : Int) = (p.2.1 - p.1).tdiv p.2.2 := by
      have hq : 0 ≤ (p.2.1 - p.1) / p.2.2 := Int.ediv_nonneg (by omega) (by omega)
      rw [Int.tdiv_eq_ediv_of_nonneg (by omega)]
      unfold prN; omega
    have hle : (p.2.1 - p.1).tdiv p.2.2 ≤ p.2.1 - p.1 := by
      rw [Int.tdiv_eq_ediv_of_nonneg (by omega)]
      exact Int.ediv_le_self _ (by omega)
    have hc : cntM (p :: r) = (p.2.1 - p.1).tdiv p.2.2 + cntM r := by simp [cntM]
    have hl : (mks (p :: r)).length = prN p + (mks r).length := by
      unfold mks
      rw [List.flatMap_cons, List.length_append, prM_len]
    rw [hc, hl, i1, ← hn]
    constructor
    · omega
    · omega
theorem mks_head (g : List Pt) (h : gd g = true) : (mks g)[0]? = some 1000 := by
  obtain ⟨⟨h1, -⟩, h2⟩ := (gd_iff g).1 h
  cases g with
  | nil => simp at h1
  | cons p r =>
    obtain ⟨k1, -⟩ := gdE_cons h2
    obtain ⟨-, hn⟩ := prN_is k1
    unfold mks
    rw [List.flatMap_cons, List.getElem?_append_left (by rw [prM_len]; omega)]
    exact prM_head k1

/-- The nearest one of a list so far: the first one of several. -/
def nrS (n : Int) : Int → List Int → Int
  | b, [] => b
  | b, x :: r => nrS n (if (x - n).natAbs < (b - n).natAbs then x else b) r
theorem nrS_spec (n : Int) : ∀ (l : List Int) (b : Int), (nrS n b l = b ∨ nrS n b l ∈ l) ∧ (nrS n b l - n).natAbs ≤ (b - n).natAbs ∧ ∀ x ∈ l, (nrS n b l - n).natAbs ≤ (x - n).natAbs
  | [], b => by simp [nrS]
  | x :: r, b => by
    unfold nrS
    obtain ⟨h1, h2, h3⟩ := nrS_spec n r (if (x - n).natAbs < (b - n).natAbs then x else b)
    split at h1 <;> rename_i hc
    · rw [if_pos hc] at h2 h3 ⊢
      refine ⟨.inr ?_, by omega, fun y hy => ?_⟩
      · rcases h1 with h | h
        · rw [h]; simp
        · simp [h]
      · rcases List.mem_cons.1 hy with rfl | hy
        · exact h2
        · exact h3 y hy
    · rw [if_neg hc] at h2 h3 ⊢
      refine ⟨?_, h2, fun y hy => ?_⟩
      · rcases h1 with h | h
        · exact .inl h
        · exact .inr (by simp [h])
      · rcases List.mem_cons.1 hy with rfl | hy
        · omega
        · exact h3 y hy
def nrM (g : List Pt) (n : Int) : Int := nrS n 1000 (mks g)
/-- A number is a mark just if it is its own nearest one; the nearest one is a mark. -/
theorem nrM_facts (g : List Pt) (n : Int) (h : gd g = true) : isM g (nrM g n) = true ∧ (isM g n = true ↔ nrM g n = n) := by
  obtain ⟨-, h2⟩ := (gd_iff g).1 h
  have hm := isM_mem g _ _ h2
  have h0 := mks_head g h
  have hin : (1000 : Int) ∈ mks g := List.mem_of_getElem? h0
  obtain ⟨q1, q2, q3⟩ := nrS_spec n (mks g) 1000
  have hmem : nrM g n ∈ mks g := by
    unfold nrM
    rcases q1 with h | h
    · rw [h]; exact hin
    · exact h
  refine ⟨(hm _).2 hmem, fun hi => ?_, fun he => ?_⟩
  · have := q3 n ((hm n).1 hi)
    unfold nrM
    omega
  · rw [← he]; exact (hm _).2 hmem

theorem gdE_append : ∀ (l r : List Pt) (a : Int), gdE a (l ++ r) = (gdE a l).bind fun b => gdE b r
  | [], r, a => rfl
  | p :: l, r, a => by
    have e : ∀ m : List Pt, gdE a (p :: m) = if ptOk a p = true then gdE p.2.1 m else none := fun m => rfl
    rw [List.cons_append, e, e]
    split
    · exact gdE_append l r _
    · rfl
theorem gdE_up : ∀ (l : List Pt) (a b : Int), gdE a l = some b → a ≤ 10000 → a ≤ b ∧ b ≤ 10000
  | [], a, b, h, ha => by
    have : a = b := by simpa [gdE] using h
    omega
  | p :: r, a, b, h, ha => by
    obtain ⟨h1, h2⟩ := gdE_cons h
    have hp := (ptOk_iff _ _).1 h1
    have := gdE_up r _ _ h2 (by omega)
    omega
/-- One part more. -/
theorem gdE_take {zs : List Pt} {k : Nat} {p : Pt} (h : zs[k]? = some p) {a b : Int} (hb : gdE a (zs.take k) = some b) :
    (ptOk b p = true → gdE a (zs.take (k + 1)) = some p.2.1) ∧ (ptOk b p = false → gdE a zs = none) := by
  obtain ⟨hk, e⟩ := List.getElem?_eq_some_iff.1 h
  have hs : gdE a (zs.take (k + 1)) = if ptOk b p = true then some p.2.1 else none := by
    rw [List.take_succ_eq_append_getElem hk, e, gdE_snoc, hb]
    rfl
  refine ⟨fun ho => by rw [hs, if_pos ho], fun ho => ?_⟩
  rw [ho] at hs
  have h2 := gdE_append (zs.take (k + 1)) (zs.drop (k + 1)) a
  rw [List.take_append_drop, hs] at h2
  simpa using h2
/-- The parts are within a decade. -/
theorem gd_parts {g : List Pt} (h : gd g = true) : ∀ p ∈ g, ∃ a, ptOk a p = true ∧ 1000 ≤ a := by
  obtain ⟨-, h2⟩ := (gd_iff g).1 h
  have key : ∀ (l : List Pt) (a b : Int), gdE a l = some b → 1000 ≤ a → ∀ p ∈ l, ∃ c, ptOk c p = true ∧ 1000 ≤ c := by
    intro l
    induction l with
    | nil => intro a b _ _ p hp; simp at hp
    | cons q r ih =>
      intro a b hab ha p hp
      obtain ⟨k1, k2⟩ := gdE_cons hab
      rcases List.mem_cons.1 hp with rfl | hp
      · exact ⟨a, k1, ha⟩
      · exact ih _ _ k2 (by have := (ptOk_iff _ _).1 k1; omega) p hp
  exact key g _ _ h2 (by omega)
end Go.Proofs.Ytlimfpdibohioaa
