/- Lists in blocks of the call's own, with room to spare, that a law marks and holds. -/
import Derived.Test.YtphebmbapllinaaDoorD1
import Derived.Test.YtphebmbapllinaaDoor1A
import Derived.Test.YtphebmbapllinaaDoor7C
import Derived.Deep.Onto
namespace Go.Proofs.YtphebmbapllinaaDoor
open Go.RowKit
set_option linter.unusedVariables false
set_option linter.unusedSimpArgs false

/-- The marks that a law lays into a list: 1, 2, and so on. -/
def mkI (n : Nat) : List Int := (List.range n).map fun (i : Nat) => (1 + i : Int)
theorem mkI_len (n : Nat) : (mkI n).length = n := by simp [mkI]
theorem mkI_at (n k : Nat) (h : k < n) : (mkI n)[k]? = some (1 + k : Int) := by simp [mkI, h]
def mixI (xs : List Int) (k : Nat) : List Int := (mkI xs.length).take k ++ xs.drop k
theorem mixI_len (xs : List Int) (k : Nat) (h : k ≤ xs.length) : (mixI xs k).length = xs.length := by unfold mixI; rw [List.length_append, List.length_take, mkI_len, List.length_drop]; omega
theorem mixI_zero (xs : List Int) : mixI xs 0 = xs := by simp [mixI]
theorem mixI_all (xs : List Int) : mixI xs xs.length = mkI xs.length := by
  unfold mixI
  rw [List.drop_length, List.append_nil, List.take_of_length_le (by rw [mkI_len]; exact Nat.le_refl _)]
theorem mixI_at (xs : List Int) (k : Nat) (h : k < xs.length) : (mixI xs k)[k]? = xs[k]? := by
  unfold mixI
  rw [List.getElem?_append_right (by rw [List.length_take, mkI_len]; omega), List.length_take, mkI_len, List.getElem?_drop]
  congr 1; omega
theorem mixI_set (xs : List Int) (k : Nat) (h : k < xs.length) : (mixI xs k).set k (1 + k : Int) = mixI xs (k + 1) := by
  unfold mixI
  have e := mkI_at xs.length k h
  obtain ⟨hl, e⟩ := List.getElem?_eq_some_iff.1 e
  rw [List.set_append_right _ _ (by rw [List.length_take, mkI_len]; omega), List.length_take, mkI_len, show k - min k xs.length = 0 by omega, List.drop_eq_getElem_cons h, List.set_cons_zero, List.take_succ_eq_append_getElem hl, e, List.append_assoc]
  rfl
/-- A list of the call's own: nothing, or the first cells of a block. -/
theorem Lst.row {w : World} {B : Nat} {v : Value} {xs : List Int} (h : Lst w B v xs) :
    (v = .slice none 0 0 ∧ xs = []) ∨ ∃ (g cap : Nat) (rest : List Value), v = .slice (some ⟨g, 0, none⟩) xs.length cap ∧ B ≤ g ∧ Row w g 2 (xs.map vi ++ rest) ∧ xs.length ≤ cap ∧ cap ≤ maxLen ∧ xs.length + rest.length = cap := by
  obtain ⟨h1, h2⟩ := h
  rcases h2 with ⟨rfl, h0⟩ | ⟨g, cap, cur, rfl, hB, hg, hn, hc, hs, ht⟩
  · exact .inl ⟨rfl, List.eq_nil_of_length_eq_zero h0⟩
  · refine .inr ⟨g, cap, cur.toList.drop xs.length, rfl, hB, ?_, hn, hc, ?_⟩
    · unfold Row
      rw [Nat.mul_one] at ht
      rw [← ht, List.take_append_drop]
      simpa using hg
    · rw [List.length_drop]
      have : cur.toList.length = cap := by simpa using hs
      omega
theorem Lst.of_row {w : World} {B g cap : Nat} {xs : List Int} {rest : List Value} (hB : B ≤ g) (h : Row w g 2 (xs.map vi ++ rest)) (hc : cap ≤ maxLen) (hl : xs.length + rest.length = cap) : Lst w B (.slice (some ⟨g, 0, none⟩) xs.length cap) xs :=
  ⟨by simp, .inr ⟨g, cap, (xs.map vi ++ rest).toArray, rfl, hB, h, by omega, hc, by simp; omega, by simp⟩⟩
theorem Lst.slice {w : World} {B : Nat} {v : Value} {xs : List Int} (h : Lst w B v xs) : ∃ A c, v = .slice A xs.length c ∧ Reads w w.heap.size A (xs.map vi) := by
  rcases Lst.row h with ⟨rfl, rfl⟩ | ⟨g, cap, rest, rfl, hB, hr, -⟩
  · exact ⟨none, 0, rfl, Reads.nil _ _ _⟩
  · refine ⟨_, _, rfl, fun k hk => ?_⟩
    obtain ⟨g2, o, e, h1, h2⟩ := hr.reads k (by rw [List.length_append]; omega)
    refine ⟨g2, o, e, h1, ?_⟩
    rw [h2, List.getElem_append_left hk]
theorem Lst.below {w w' : World} {B : Nat} {v : Value} {xs : List Int} (h : Lst w B v xs) (hb : Below w.heap.size w w') : Lst w' B v xs := by
  refine ⟨h.1, ?_⟩
  rcases h.2 with h0 | ⟨g, cap, cur, rfl, hB, hg, r⟩
  · exact .inl h0
  · exact .inr ⟨g, cap, cur, rfl, hB, (hb.block g (Array.getElem?_eq_some_iff.1 hg).1).trans hg, r⟩
theorem Lst.keep {w w' : World} {B : Nat} {v : Value} {xs : List Int} (h : Lst w B v xs) (hk : ∀ g, v.ownBlock = some g → g < w.heap.size → w'.heap[g]? = w.heap[g]?) : Lst w' B v xs := by
  refine ⟨h.1, ?_⟩
  rcases h.2 with h0 | ⟨g, cap, cur, rfl, hB, hg, r⟩
  · exact .inl h0
  · exact .inr ⟨g, cap, cur, rfl, hB, (hk g rfl (Array.getElem?_eq_some_iff.1 hg).1).trans hg, r⟩
theorem Lst.mono {w : World} {B B' : Nat} {v : Value} {xs : List Int} (h : Lst w B v xs) (hb : B' ≤ B) : Lst w B' v xs := World.ownsRow.mono h hb

end Go.Proofs.YtphebmbapllinaaDoor
