/- Contracts of chapter 8: an element is put into a list of integers, in order. -/
import Derived.Test.Ytphebmbapllinaa8B
import Derived.Test.YtphebmbapllinaaMC
import Derived.Test.YtphebmbapllinaaDl
import Derived.Test.YtphebmbapllinaaSA
import Derived.Laws.CopyOwn
import Derived.StillTailTactics
import Derived.Shelf.Abstract
namespace Go.Proofs.Ytphebmbapllinaa
open Go.RowKit Go.Shelf Go.ChangeShapes Go.WideShapes Go.ChangeAt
set_option linter.unusedVariables false
set_option linter.unusedSimpArgs false

/-- What the row holds when all behind the place has been moved up by one. -/
theorem ins_cells (xs : List Int) (x : Int) (rest : List Value) (k : Nat) (hk : k ≤ xs.length) :
    (splice ((xs ++ [x]).map vi ++ rest) (k + 1) ((xs.drop k).map vi)).set k (vi x) = (xs.take k ++ x :: xs.drop k).map vi ++ rest := by
  have hl : ((xs.drop k).map vi).length = xs.length - k := by simp
  have e0 : ((xs ++ [x]).map vi ++ rest).drop (k + 1 + ((xs.drop k).map vi).length) = rest := by
    rw [hl, List.drop_append_of_le_length (by simp; omega), List.drop_eq_nil_of_le (by simp; omega), List.nil_append]
  unfold splice
  rw [e0]
  have e1 : (((xs ++ [x]).map vi ++ rest).take (k + 1)).length = k + 1 := by simp; omega
  have e2 : (((xs ++ [x]).map vi ++ rest).take (k + 1)).set k (vi x) = (xs.take k).map vi ++ [vi x] := by
    apply List.ext_getElem?
    intro i
    rw [List.getElem?_set]
    by_cases hi : k = i
    · subst hi
      rw [if_pos rfl, if_pos (by omega), List.getElem?_append_right (by simp; omega)]
      simp [show k - min k xs.length = 0 by omega]
    · rw [if_neg hi, List.getElem?_take]
      by_cases h2 : i < k
      · rw [if_pos (by omega), List.getElem?_append_left (by simp; omega), List.getElem?_append_left (by simp; omega), List.getElem?_map, List.getElem?_map, List.getElem?_append_left (by omega), List.getElem?_take, if_pos h2]
      · rw [if_neg (by omega), List.getElem?_eq_none (by simp; omega)]
  rw [List.set_append_left _ _ (by omega), e2]
  simp

/-- What an append leaves of a list of the call's own. -/
theorem Lst.grown {w : World} {B : Nat} {v : Value} {xs : List Int} {x : Int} (h : w.ownsRow B 2 1 v (xs.length + 1) (xs.map vi ++ [vi x])) :
    ∃ (g cap : Nat) (rest : List Value), v = .slice (some ⟨g, 0, none⟩) (xs.length + 1) cap ∧ B ≤ g ∧ g < w.heap.size ∧ Row w g 2 ((xs ++ [x]).map vi ++ rest) ∧ xs.length + 1 ≤ cap ∧ cap ≤ maxLen ∧ xs.length + 1 + rest.length = cap := by
  have h2 : Lst w B v (xs ++ [x]) := by simpa [Lst] using h
  rcases Lst.row h2 with ⟨-, e⟩ | ⟨g, cap, rest, e, hB, hr, h1, h3, h4⟩
  · simp at e
  · rw [List.length_append] at e h1 h4
    exact ⟨g, cap, rest, e, hB, hr.lt, hr, h1, h3, h4⟩

/-- A slice cut from a place on. -/
theorem cut_from {P : Program} {T : TypeId} (hT : P.underlying T = some (.slice (P.elem T))) {i0 : TypeInfo} {sz : Nat} (hi : P.info? (P.elem T) = some i0) (hs : i0.size = sz) (g n cap l : Nat) (h : l ≤ n) :
    ∃ D E, (∀ W, (Instr.sliceAt T (.slice (some ⟨g, 0, none⟩) n cap) (some (.int .i64 (l : Int))) none none).run P W = .ok (.slice D (n - l) E) W) ∧ (l < n → n ≤ cap → D = some ⟨g, l * sz, none⟩) := by
  refine ⟨if cap = l then some ⟨g, 0, none⟩ else (some (⟨g, 0, none⟩ : Addr)).map (·.add (l * sz)), cap - l, fun W => ?_, ?_⟩
  · rw [run_sliceAt_slice W T _ _ _ _ hT, run_slice_l W T _ n cap hT .i64 (l : Int) (by omega) (by omega)]
    have hsz : (sizeOf (P.elem T)).run P W = .ok sz W := by simp [sizeOf, typeInfo, hi, hs]
    rw [hsz]
    simp only [Result.andThen, sliced, Int.toNat_natCast]
  · intro h1 h2
    rw [if_neg (by omega)]
    simp only [Option.map_some, Addr.add, Nat.zero_add]
    split <;> first | rfl | simp_all

theorem ins_src (xs : List Int) (x : Int) (rest : List Value) (k : Nat) {w : World} {g : Nat} (h : Row w g 2 ((xs ++ [x]).map vi ++ rest)) : ∀ j u, ((xs.drop k).map vi)[j]? = some u → w.cell? ((⟨g, k, none⟩ : Addr).add j) = some u := by
  intro j u hj
  rw [List.getElem?_map, List.getElem?_drop] at hj
  obtain ⟨y, hy, rfl⟩ := Option.map_eq_some_iff.1 hj
  obtain ⟨hl, e⟩ := List.getElem?_eq_some_iff.1 hy
  rw [add_plain, h.cell, List.getElem?_append_left (by simp; omega), List.getElem?_map, List.getElem?_append_left hl, hy]
  rfl
theorem ins_at (xs : List Int) (x : Int) (rest : List Value) (k : Nat) (hk : k ≤ xs.length) : ∃ u, (splice ((xs ++ [x]).map vi ++ rest) (k + 1) ((xs.drop k).map vi))[k]? = some u := by
  refine some_at ?_
  have h1 := length_splice ((xs ++ [x]).map vi ++ rest) (k + 1) ((xs.drop k).map vi) (by simp; omega)
  rw [h1]
  simp; omega
theorem ins_done {w : World} {B g cap : Nat} {bf : Int → Int → Bool} {x : Int} {xs : List Int} {rest : List Value} (hB : B ≤ g) (hr : Row w g 2 ((xs.take (insN bf x xs) ++ x :: xs.drop (insN bf x xs)).map vi ++ rest)) (hc : cap ≤ maxLen) (hl : xs.length + 1 + rest.length = cap) :
    Lst w B (.slice (some ⟨g, 0, none⟩) (xs.length + 1) cap) (insB bf x xs) := by
  rw [← insB_len bf x xs]
  rw [← insB_eq] at hr
  exact Lst.of_row hB hr hc (by rw [insB_len]; exact hl)

theorem oldNew_at {w wr : World} {o : Obj} {v : Value} {g n c : Nat} (hg : Gr w wr) (h : OldOrNew (wr.alloc o) v (.slice (some ⟨g, 0, none⟩) n c)) : v.ownBlock = some g ∨ w.heap.size ≤ g := by
  rcases h with h | ⟨b, h, hb⟩
  · exact .inl h.symm
  · injection h with h
    have h2 := hg.below.size
    simp at hb h
    exact .inr (by omega)
theorem Lst.below_of {w w' : World} {B : Nat} {v : Value} {xs : List Int} (h : Lst w B v xs) (hB : B ≤ w.heap.size) (hg : w.grownBy w' v.ownBlock) : Below B w w' := (Below.refl B w).grown hg hB (fun k hk => (World.ownsRow.lt h k hk).1)

end Go.Proofs.Ytphebmbapllinaa
