/- Chapter 8: putting an element into a list behind those that need not stand after it. -/
import Derived.Test.YtlimfpdibohioaaMA
namespace Go.Proofs.Ytlimfpdibohioaa
set_option linter.unusedVariables false
set_option linter.unusedSimpArgs false

/-- Where it goes: going down while the element stands before the one below. -/
def insA (q : Nat → Bool) : Nat → Nat
  | 0 => 0
  | k + 1 => if q k = true then insA q k else k + 1
theorem insA_succ (q : Nat → Bool) (k : Nat) : insA q (k + 1) = if q k = true then insA q k else k + 1 := rfl
theorem insA_le (q : Nat → Bool) : ∀ k, insA q k ≤ k
  | 0 => Nat.le_refl _
  | k + 1 => by
    rw [insA_succ]
    split
    · exact Nat.le_succ_of_le (insA_le q k)
    · exact Nat.le_refl _
theorem insA_above (q : Nat → Bool) : ∀ k j, insA q k ≤ j → j < k → q j = true
  | k + 1, j, h1, h2 => by
    rw [insA_succ] at h1
    split at h1
    · rename_i h
      rcases Nat.lt_or_ge j k with h3 | h3
      · exact insA_above q k j h1 h3
      · obtain rfl : j = k := by omega
        exact h
    · omega
theorem insA_below (q : Nat → Bool) : ∀ k, 0 < insA q k → q (insA q k - 1) = false
  | 0, h => absurd h (by simp [insA])
  | k + 1, h => by
    rw [insA_succ] at h ⊢
    split
    · rename_i h1
      rw [if_pos h1] at h
      exact insA_below q k h
    · rename_i h1
      simpa using h1
theorem insA_congr {q r : Nat → Bool} : ∀ k, (∀ j, j < k → q j = r j) → insA q k = insA r k
  | 0, _ => rfl
  | k + 1, h => by
    rw [insA_succ, insA_succ, h k (by omega), insA_congr k (fun j hj => h j (by omega))]
section
variable {α : Type}
/-- The list with the element put in. -/
def insB (bf : α → α → Bool) (x : α) (xs : List α) : List α :=
  let at_ := insA (fun k => (xs[k]?.map (bf x)).getD false) xs.length
  xs.take at_ ++ x :: xs.drop at_
def insN (bf : α → α → Bool) (x : α) (xs : List α) : Nat := insA (fun k => (xs[k]?.map (bf x)).getD false) xs.length
theorem insB_eq (bf : α → α → Bool) (x : α) (xs : List α) : insB bf x xs = xs.take (insN bf x xs) ++ x :: xs.drop (insN bf x xs) := rfl
theorem insN_le (bf : α → α → Bool) (x : α) (xs : List α) : insN bf x xs ≤ xs.length := insA_le _ _
theorem insB_len (bf : α → α → Bool) (x : α) (xs : List α) : (insB bf x xs).length = xs.length + 1 := by
  have := insN_le bf x xs
  rw [insB_eq, List.length_append, List.length_take, List.length_cons, List.length_drop]
  omega
theorem insB_perm (bf : α → α → Bool) (x : α) (xs : List α) : (insB bf x xs).Perm (x :: xs) := by
  rw [insB_eq]
  have h := List.perm_middle (a := x) (l₁ := xs.take (insN bf x xs)) (l₂ := xs.drop (insN bf x xs))
  rwa [List.take_append_drop] at h
theorem insB_mem (bf : α → α → Bool) (x : α) (xs : List α) (y : α) : y ∈ insB bf x xs ↔ y = x ∨ y ∈ xs := by
  rw [(insB_perm bf x xs).mem_iff, List.mem_cons]
/-- What stands behind it, and what just before it. -/
theorem insB_after (bf : α → α → Bool) (x : α) (xs : List α) (j : Nat) (y : α) (hy : xs[j]? = some y) (h : insN bf x xs ≤ j) : bf x y = true := by
  obtain ⟨hj, -⟩ := List.getElem?_eq_some_iff.1 hy
  have := insA_above _ _ j h hj
  rw [hy] at this
  exact this
theorem insB_before (bf : α → α → Bool) (x : α) (xs : List α) (h : 0 < insN bf x xs) : ∃ y, xs[insN bf x xs - 1]? = some y ∧ bf x y = false := by
  have hle := insN_le bf x xs
  have hb := insA_below _ _ h
  have hl : insN bf x xs - 1 < xs.length := by omega
  refine ⟨xs[insN bf x xs - 1], List.getElem?_eq_getElem hl, ?_⟩
  change ((xs[insN bf x xs - 1]?).map (bf x)).getD false = false at hb
  rw [List.getElem?_eq_getElem hl] at hb
  exact hb
end
end Go.Proofs.Ytlimfpdibohioaa
