/- Chapter 9: the order of a proof, the least proof, and the best choice that it gives. -/
import Derived.Test.YtlimfpdibohioabDoorM28
namespace Go.Proofs.YtlimfpdibohioabDoor
set_option linter.unusedVariables false
set_option linter.unusedSimpArgs false

section
variable {α : Type}
/-- Putting in keeps an order by a number. -/
theorem insB_sorted (f : α → Int) (x : α) (xs : List α) (h : xs.Pairwise (fun a b => f a ≤ f b)) : (insB (fun a b => decide (f a < f b)) x xs).Pairwise (fun a b => f a ≤ f b) := by
  have hle := insN_le (fun a b => decide (f a < f b)) x xs
  have hA : ∀ y ∈ xs.drop (insN (fun a b => decide (f a < f b)) x xs), f x < f y := by
    intro y hy
    obtain ⟨j, hj, e⟩ := List.mem_iff_getElem.1 hy
    rw [List.getElem_drop] at e
    rw [List.length_drop] at hj
    have := insB_after (fun a b => decide (f a < f b)) x xs (insN (fun a b => decide (f a < f b)) x xs + j) y (by rw [← e]; exact List.getElem?_eq_getElem (by omega)) (by omega)
    exact of_decide_eq_true this
  have hB : ∀ y ∈ xs.take (insN (fun a b => decide (f a < f b)) x xs), f y ≤ f x := by
    intro y hy
    obtain ⟨j, hj, e⟩ := List.mem_iff_getElem.1 hy
    rw [List.length_take] at hj
    rw [List.getElem_take] at e
    obtain ⟨z, hz, hb⟩ := insB_before (fun a b => decide (f a < f b)) x xs (by omega)
    have hzx : f z ≤ f x := by have := of_decide_eq_false hb; omega
    obtain ⟨hl, ez⟩ := List.getElem?_eq_some_iff.1 hz
    rcases Nat.lt_or_ge j (insN (fun a b => decide (f a < f b)) x xs - 1) with h1 | h1
    · have := List.pairwise_iff_getElem.1 h j _ (by omega) hl h1
      rw [e, ez] at this
      omega
    · have hj2 : j = insN (fun a b => decide (f a < f b)) x xs - 1 := by omega
      subst hj2
      rw [e] at ez
      rw [ez]; exact hzx
  rw [insB_eq, List.pairwise_append]
  refine ⟨h.sublist (List.take_sublist _ _), ?_, fun a ha b hb => ?_⟩
  · rw [List.pairwise_cons]
    exact ⟨fun b hb => Int.le_of_lt (hA b hb), h.sublist (List.drop_sublist _ _)⟩
  · rcases List.mem_cons.1 hb with rfl | hb
    · exact hB a ha
    · have := hB a ha
      have := hA b hb
      omega
end

section
variable (rt lf wo : Nat → Int)
/-- The order by right ends. -/
def bfR (i j : Nat) : Bool := decide (rt i < rt j)
def orL : Nat → List Nat
  | 0 => []
  | k + 1 => insB (bfR rt) k (orL k)
theorem orL_succ (k : Nat) : orL rt (k + 1) = insB (bfR rt) k (orL rt k) := rfl
theorem orL_len : ∀ k, (orL rt k).length = k
  | 0 => rfl
  | k + 1 => by rw [orL_succ, insB_len, orL_len k]
theorem orL_mem {k i : Nat} : i ∈ orL rt k ↔ i < k := by
  induction k with
  | zero => simp [orL]
  | succ k ih => rw [orL_succ, insB_mem, ih]; omega
theorem orL_nodup : ∀ k, (orL rt k).Nodup
  | 0 => List.nodup_nil
  | k + 1 => by
    rw [orL_succ, (insB_perm _ _ _).nodup_iff, List.nodup_cons]
    exact ⟨fun h => by have := (orL_mem rt).1 h; omega, orL_nodup k⟩
theorem orL_perm : ∀ k, (orL rt k).Perm (List.range k)
  | 0 => List.Perm.refl _
  | k + 1 => by
    rw [orL_succ, List.range_succ]
    exact (insB_perm _ _ _).trans (((orL_perm k).cons k).trans (List.perm_append_comm (l₁ := [k]) (l₂ := List.range k)))
theorem orL_sorted : ∀ k, (orL rt k).Pairwise (fun a b => rt a ≤ rt b)
  | 0 => List.Pairwise.nil
  | k + 1 => insB_sorted rt k (orL rt k) (orL_sorted k)
/-- The p-th one. -/
def orA (n p : Nat) : Nat := (orL rt n).getD p 0
theorem orA_at {n p : Nat} (h : p < n) : (orL rt n)[p]? = some (orA rt n p) := by
  unfold orA
  rw [List.getD_eq_getElem?_getD, List.getElem?_eq_getElem (by rw [orL_len]; exact h)]
  rfl
theorem orA_lt {n p : Nat} (h : p < n) : orA rt n p < n := (orL_mem rt).1 (List.mem_of_getElem? (orA_at rt h))
theorem orA_inj {n p q : Nat} (hp : p < n) (hq : q < n) (e : orA rt n p = orA rt n q) : p = q := by
  have h1 := orA_at rt hp
  have h2 := orA_at rt hq
  rw [← e, ← h1] at h2
  exact ((List.getElem?_inj (by rw [orL_len]; exact hq) (orL_nodup rt n)).1 h2).symm
theorem orA_le {n p q : Nat} (hpq : p ≤ q) (hq : q < n) : rt (orA rt n p) ≤ rt (orA rt n q) := by
  rcases Nat.lt_or_ge p q with h | h
  · obtain ⟨h1, e1⟩ := List.getElem?_eq_some_iff.1 (orA_at rt (show p < n by omega))
    obtain ⟨h2, e2⟩ := List.getElem?_eq_some_iff.1 (orA_at rt hq)
    have := List.pairwise_iff_getElem.1 (orL_sorted rt n) p q h1 h2 h
    rwa [e1, e2] at this
  · rw [show p = q by omega]; exact Int.le_refl _
theorem orA_sur {n i : Nat} (h : i < n) : ∃ p, p < n ∧ orA rt n p = i := by
  obtain ⟨p, hp, e⟩ := List.mem_iff_getElem.1 ((orL_mem rt).2 h)
  rw [orL_len] at hp
  refine ⟨p, hp, ?_⟩
  have := orA_at rt hp
  rw [List.getElem?_eq_getElem (by rw [orL_len]; exact hp), e] at this
  injection this with this
  exact this.symm
/-- How many of the first k end at a place or before it. -/
def frK (x : Int) (k : Nat) : Nat := ((List.range k).filter fun j => decide (rt j ≤ x)).length
theorem frK_zero (x : Int) : frK rt x 0 = 0 := rfl
theorem frK_succ (x : Int) (k : Nat) : frK rt x (k + 1) = frK rt x k + if rt k ≤ x then 1 else 0 := by
  unfold frK
  rw [List.range_succ, List.filter_append, List.length_append]
  by_cases h : rt k ≤ x <;> simp [h]
theorem frK_le (x : Int) (k : Nat) : frK rt x k ≤ k := by
  unfold frK
  have := List.length_filter_le (fun j => decide (rt j ≤ x)) (List.range k)
  rwa [List.length_range] at this
def frN (n i : Nat) : Nat := frK rt (lf i) n
theorem frK_ord (x : Int) (n : Nat) : frK rt x n = ((orL rt n).filter fun j => decide (rt j ≤ x)).length := by
  unfold frK
  exact ((orL_perm rt n).filter _).length_eq.symm
/-- Those that end at a place or before it are the first ones in the order. -/
theorem frK_iff (x : Int) {n p : Nat} (hp : p < n) : rt (orA rt n p) ≤ x ↔ p < frK rt x n := by
  have hs := List.take_append_drop p (orL rt n)
  have hl := orL_len rt n
  rw [frK_ord, ← hs, List.filter_append, List.length_append]
  have hd : (orL rt n).drop p = orA rt n p :: (orL rt n).drop (p + 1) := by
    obtain ⟨h1, e1⟩ := List.getElem?_eq_some_iff.1 (orA_at rt hp)
    rw [List.drop_eq_getElem_cons h1, e1]
  constructor
  · intro h
    have h1 : (((orL rt n).take p).filter fun j => decide (rt j ≤ x)) = (orL rt n).take p := by
      rw [List.filter_eq_self]
      intro y hy
      obtain ⟨j, hj, e⟩ := List.mem_iff_getElem.1 hy
      rw [List.length_take] at hj
      rw [List.getElem_take] at e
      have h2 := orA_at rt (show j < n by omega)
      rw [List.getElem?_eq_getElem (by omega), e] at h2
      injection h2 with h2
      have := orA_le rt (show j ≤ p by omega) hp
      rw [h2]
      exact decide_eq_true (by omega)
    rw [h1, hd, List.filter_cons_of_pos (by simpa using h), List.length_take, List.length_cons]
    omega
  · intro h
    rcases Int.lt_or_le x (rt (orA rt n p)) with h1 | h1
    · exfalso
      have h2 : (((orL rt n).drop p).filter fun j => decide (rt j ≤ x)) = [] := by
        rw [List.filter_eq_nil_iff]
        intro y hy
        obtain ⟨j, hj, e⟩ := List.mem_iff_getElem.1 hy
        rw [List.length_drop] at hj
        rw [List.getElem_drop] at e
        have h3 := orA_at rt (show p + j < n by omega)
        rw [List.getElem?_eq_getElem (by omega), e] at h3
        injection h3 with h3
        have := orA_le rt (show p ≤ p + j by omega) (show p + j < n by omega)
        rw [h3]
        simp
        omega
      rw [h2] at h
      have h4 := List.length_filter_le (fun j => decide (rt j ≤ x)) ((orL rt n).take p)
      rw [List.length_take] at h4
      simp at h
      omega
    · exact h1
theorem frN_le {n p : Nat} (hp : p < n) (h : lf (orA rt n p) < rt (orA rt n p)) : frN rt lf n (orA rt n p) ≤ p := by
  rcases Nat.lt_or_ge p (frN rt lf n (orA rt n p)) with h1 | h1
  · have := (frK_iff rt (lf (orA rt n p)) hp).2 h1
    omega
  · exact h1

/-- The least proof. -/
def pvN (n : Nat) (v : List Int) (i : Nat) : Int := max (v.getD i 0) (wo (orA rt n i) + v.getD (frN rt lf n (orA rt n i)) 0)
def pvL (n : Nat) : Nat → List Int
  | 0 => [0]
  | i + 1 => pvL n i ++ [pvN rt lf wo n (pvL n i) i]
theorem pvL_succ (n i : Nat) : pvL rt lf wo n (i + 1) = pvL rt lf wo n i ++ [pvN rt lf wo n (pvL rt lf wo n i) i] := rfl
theorem pvL_len (n : Nat) : ∀ i, (pvL rt lf wo n i).length = i + 1
  | 0 => rfl
  | i + 1 => by rw [pvL_succ, List.length_append, pvL_len n i]; rfl
/-- Its numbers. -/
def pvA (n i : Nat) : Int := (pvL rt lf wo n i).getD i 0
theorem pvL_at (n : Nat) : ∀ (m i : Nat), i ≤ m → (pvL rt lf wo n m)[i]? = some (pvA rt lf wo n i)
  | 0, i, h => by
    obtain rfl : i = 0 := by omega
    rfl
  | m + 1, i, h => by
    by_cases hi : i = m + 1
    · subst hi
      unfold pvA
      rw [List.getD_eq_getElem?_getD, List.getElem?_eq_getElem (by rw [pvL_len]; omega)]
      rfl
    · rw [pvL_succ, List.getElem?_append_left (by rw [pvL_len]; omega)]
      exact pvL_at n m i (by omega)
theorem pvL_getD (n : Nat) (m i : Nat) (h : i ≤ m) : (pvL rt lf wo n m).getD i 0 = pvA rt lf wo n i := by
  rw [List.getD_eq_getElem?_getD, pvL_at rt lf wo n m i h]; rfl
theorem pvA_zero (n : Nat) : pvA rt lf wo n 0 = 0 := rfl
theorem pvA_succ (n i : Nat) (hf : frN rt lf n (orA rt n i) ≤ i) : pvA rt lf wo n (i + 1) = max (pvA rt lf wo n i) (wo (orA rt n i) + pvA rt lf wo n (frN rt lf n (orA rt n i))) := by
  have h := pvL_at rt lf wo n (i + 1) (i + 1) (Nat.le_refl _)
  rw [pvL_succ, List.getElem?_append_right (by rw [pvL_len]; omega), pvL_len, show i + 1 - (i + 1) = 0 by omega] at h
  simp only [List.getElem?_cons_zero] at h
  injection h with h
  rw [← h]
  unfold pvN
  rw [pvL_getD rt lf wo n i i (Nat.le_refl _), pvL_getD rt lf wo n i _ hf]
theorem pvL_next (n i : Nat) (hf : frN rt lf n (orA rt n i) ≤ i) : pvL rt lf wo n (i + 1) = pvL rt lf wo n i ++ [max (pvA rt lf wo n i) (wo (orA rt n i) + pvA rt lf wo n (frN rt lf n (orA rt n i)))] := by
  rw [pvL_succ]
  unfold pvN
  rw [pvL_getD rt lf wo n i i (Nat.le_refl _), pvL_getD rt lf wo n i _ hf]
theorem pvA_bd {n : Nat} (hw : ∀ i, 0 ≤ wo i ∧ wo i ≤ 41) (hf : ∀ i, i < n → frN rt lf n (orA rt n i) ≤ i) (i : Nat) (hi : i ≤ n) : 0 ≤ pvA rt lf wo n i ∧ pvA rt lf wo n i ≤ 41 * (i : Int) := by
  induction i using Nat.strongRecOn with
  | _ i ih =>
    cases i with
    | zero => rw [pvA_zero]; omega
    | succ i =>
      have hfi := hf i (by omega)
      have h1 := ih i (by omega) (by omega)
      have h2 := ih (frN rt lf n (orA rt n i)) (by omega) (by omega)
      have h3 := hw (orA rt n i)
      rw [pvA_succ rt lf wo n i hfi]
      have : (frN rt lf n (orA rt n i) : Int) ≤ (i : Int) := by omega
      omega

/-- The best choice: from the end on. -/
def bcS (n : Nat) (i : Nat) (S : Nat → Bool) : Nat → Bool :=
  if h : i = 0 then S
  else if pvA rt lf wo n i = pvA rt lf wo n (i - 1) then bcS n (i - 1) S
  else bcS n (min (frN rt lf n (orA rt n (i - 1))) (i - 1)) (fun j => S j || j == orA rt n (i - 1))
termination_by i
decreasing_by all_goals omega
theorem bcS_zero (n : Nat) (S : Nat → Bool) : bcS rt lf wo n 0 S = S := by rw [bcS, dif_pos rfl]
theorem bcS_same (n i : Nat) (S : Nat → Bool) (h : pvA rt lf wo n (i + 1) = pvA rt lf wo n i) : bcS rt lf wo n (i + 1) S = bcS rt lf wo n i S := by
  rw [bcS, dif_neg (by omega), Nat.add_sub_cancel, if_pos h]
theorem bcS_take (n i : Nat) (S : Nat → Bool) (h : ¬ pvA rt lf wo n (i + 1) = pvA rt lf wo n i) (hf : frN rt lf n (orA rt n i) ≤ i) : bcS rt lf wo n (i + 1) S = bcS rt lf wo n (frN rt lf n (orA rt n i)) (fun j => S j || j == orA rt n i) := by
  rw [bcS, dif_neg (by omega), Nat.add_sub_cancel, if_neg h, Nat.min_eq_left hf]
/-- Those that have been taken stand behind. -/
def bcI (n i : Nat) (S : Nat → Bool) : Prop := ∀ j, S j = true → ∃ p, i ≤ p ∧ p < n ∧ orA rt n p = j
theorem bcI_none (n : Nat) : bcI rt n n (fun _ => false) := fun j h => by cases h
theorem bcI_new {n i : Nat} {S : Nat → Bool} (h : bcI rt n (i + 1) S) (hi : i < n) : S (orA rt n i) = false := by
  cases e : S (orA rt n i)
  · rfl
  · obtain ⟨p, h1, h2, h3⟩ := h _ e
    have := orA_inj rt h2 hi h3
    omega
theorem bcI_same {n i : Nat} {S : Nat → Bool} (h : bcI rt n (i + 1) S) : bcI rt n i S := fun j hj => by
  obtain ⟨p, h1, h2, h3⟩ := h j hj
  exact ⟨p, by omega, h2, h3⟩
theorem bcI_take {n i f : Nat} {S : Nat → Bool} (h : bcI rt n (i + 1) S) (hi : i < n) (hf : f ≤ i) : bcI rt n f (fun j => S j || j == orA rt n i) := fun j hj => by
  rw [Bool.or_eq_true] at hj
  rcases hj with hj | hj
  · obtain ⟨p, h1, h2, h3⟩ := h j hj
    exact ⟨p, by omega, h2, h3⟩
  · exact ⟨i, hf, hi, (beq_iff_eq.1 hj).symm⟩
end
end Go.Proofs.YtlimfpdibohioabDoor
