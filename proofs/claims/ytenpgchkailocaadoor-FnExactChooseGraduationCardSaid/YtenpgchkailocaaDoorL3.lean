/- Lists of structs of three integers in blocks of the call's own, with room to spare. -/
import Derived.Test.YtenpgchkailocaaDoorSp
import Derived.Test.YtenpgchkailocaaDoorD1
import Derived.OwnWalk
import Derived.Maps.AppendAt
import Derived.Deep.Onto
import Derived.BigQuiet
namespace Go.Proofs.YtenpgchkailocaaDoor
open Go.RowKit
set_option linter.unusedVariables false
set_option linter.unusedSimpArgs false

abbrev Lst3 (T : TypeId) (w : World) (B : Nat) (v : Value) (xs : List P3) : Prop := w.ownsRow B T 3 v xs.length (cells3 xs)
theorem Lst3.nil (T : TypeId) (w : World) (B : Nat) : Lst3 T w B (.slice none 0 0) [] := World.ownsRow_nil _ _ _ _
theorem Lst3.new (T : TypeId) (w : World) (B : Nat) (hB : B ≤ w.heap.size) : Lst3 T (w.alloc (.cells #[] T)) B (.slice (some ⟨w.heap.size, 0, none⟩) 0 0) [] := World.ownsRow_made w #[] 0 hB (Nat.zero_le _) rfl
theorem cells3_append (xs ys : List P3) : cells3 (xs ++ ys) = cells3 xs ++ cells3 ys := by unfold cells3; rw [List.flatMap_append]
theorem cells3_one (p : P3) : cells3 [p] = [vi p.1, vi p.2.1, vi p.2.2] := by simp [cells3]
/-- An element was appended: what append's law leaves. -/
theorem Lst3.app {T : TypeId} {w wr w1 : World} {B : Nat} {v v' : Value} {xs : List P3} {a b c : Int} {o : Obj} (hb : Below B w wr) (hB : B ≤ wr.heap.size) (hx : (wr.alloc o).ownsRow B T 3 v xs.length (cells3 xs)) (h' : w1.ownsRow B T 3 v' (xs.length + 1) (cells3 xs ++ [vi a, vi b, vi c])) (hg : (wr.alloc o).grownBy w1 v.ownBlock) :
    Lst3 T w1 B v' (xs ++ [(a, b, c)]) ∧ Below B w w1 := by
  refine ⟨?_, (hb.alloc hB o).grown hg (by simp; omega) (fun k hk => (hx.lt k hk).1)⟩
  unfold Lst3
  rw [cells3_append, cells3_one, List.length_append]
  exact h'
/-- The three cells of the element that is appended. -/
theorem three_cells_new (w : World) (x y z : Value) (t : TypeId) : ∀ j u, [x, y, z][j]? = some u → (w.alloc (.cells #[x, y, z] t)).cell? ((⟨w.heap.size, 0, none⟩ : Addr).add j) = some u := by
  intro j u hj
  match j, hj with
  | 0, hj => simp at hj; subst hj; simp [Addr.add]
  | 1, hj => simp at hj; subst hj; simp [Addr.add]
  | 2, hj => simp at hj; subst hj; simp [Addr.add]
theorem Lst3.row {T : TypeId} {w : World} {B : Nat} {v : Value} {xs : List P3} (h : Lst3 T w B v xs) :
    (v = .slice none 0 0 ∧ xs = []) ∨ ∃ (g cap : Nat) (rest : List Value), v = .slice (some ⟨g, 0, none⟩) xs.length cap ∧ B ≤ g ∧ Row w g T (cells3 xs ++ rest) ∧ xs.length ≤ cap ∧ cap ≤ maxLen ∧ xs.length * 3 + rest.length = cap * 3 := by
  obtain ⟨h1, h2⟩ := h
  rcases h2 with ⟨rfl, h0⟩ | ⟨g, cap, cur, rfl, hB, hg, hn, hc, hs, ht⟩
  · exact .inl ⟨rfl, List.eq_nil_of_length_eq_zero h0⟩
  · refine .inr ⟨g, cap, cur.toList.drop (xs.length * 3), rfl, hB, ?_, hn, hc, ?_⟩
    · unfold Row
      rw [← ht, List.take_append_drop]
      simpa using hg
    · rw [List.length_drop]
      have : cur.toList.length = cap * 3 := by simpa using hs
      omega
theorem Lst3.of_row {T : TypeId} {w : World} {B g cap : Nat} {xs : List P3} {rest : List Value} (hB : B ≤ g) (h : Row w g T (cells3 xs ++ rest)) (hc : cap ≤ maxLen) (hl : xs.length * 3 + rest.length = cap * 3) : Lst3 T w B (.slice (some ⟨g, 0, none⟩) xs.length cap) xs :=
  ⟨cells3_len xs, .inr ⟨g, cap, (cells3 xs ++ rest).toArray, rfl, hB, h, by omega, hc, by simp [cells3_len]; omega, by
    have e : (cells3 xs).length = xs.length * 3 := cells3_len xs
    simp [← e]⟩⟩
theorem Lst3.slice {T : TypeId} {w : World} {B : Nat} {v : Value} {xs : List P3} (h : Lst3 T w B v xs) : ∃ A c, v = .slice A xs.length c ∧ Reads w w.heap.size A (cells3 xs) := by
  rcases Lst3.row h with ⟨rfl, rfl⟩ | ⟨g, cap, rest, rfl, hB, hr, -⟩
  · exact ⟨none, 0, rfl, Reads.nil _ _ _⟩
  · refine ⟨_, _, rfl, fun k hk => ?_⟩
    obtain ⟨g2, o, e, h1, h2⟩ := hr.reads k (by rw [List.length_append]; omega)
    refine ⟨g2, o, e, h1, ?_⟩
    rw [h2, List.getElem_append_left hk]
theorem Lst3.below {T : TypeId} {w w' : World} {B : Nat} {v : Value} {xs : List P3} (h : Lst3 T w B v xs) (hb : Below w.heap.size w w') : Lst3 T w' B v xs := by
  refine ⟨h.1, ?_⟩
  rcases h.2 with h0 | ⟨g, cap, cur, rfl, hB, hg, r⟩
  · exact .inl h0
  · exact .inr ⟨g, cap, cur, rfl, hB, (hb.block g (Array.getElem?_eq_some_iff.1 hg).1).trans hg, r⟩
theorem Lst3.keep {T : TypeId} {w w' : World} {B : Nat} {v : Value} {xs : List P3} (h : Lst3 T w B v xs) (hk : ∀ g, v.ownBlock = some g → g < w.heap.size → w'.heap[g]? = w.heap[g]?) : Lst3 T w' B v xs := by
  refine ⟨h.1, ?_⟩
  rcases h.2 with h0 | ⟨g, cap, cur, rfl, hB, hg, r⟩
  · exact .inl h0
  · exact .inr ⟨g, cap, cur, rfl, hB, (hk g rfl (Array.getElem?_eq_some_iff.1 hg).1).trans hg, r⟩
theorem Lst3.mono {T : TypeId} {w : World} {B B' : Nat} {v : Value} {xs : List P3} (h : Lst3 T w B v xs) (hb : B' ≤ B) : Lst3 T w B' v xs := World.ownsRow.mono h hb

/-- The marks that a law lays into such a list: 1, 2, 3; 4, 5, 6; and so on. -/
def mk3 (n : Nat) : List P3 := (List.range n).map fun (i : Nat) => ((1 + 3 * (i : Int), 1 + 3 * (i : Int) + 1, 1 + 3 * (i : Int) + 1 + 1) : P3)
theorem mk3_len (n : Nat) : (mk3 n).length = n := by simp [mk3]
theorem mk3_at (n k : Nat) (h : k < n) : (mk3 n)[k]? = some (1 + 3 * (k : Int), 1 + 3 * (k : Int) + 1, 1 + 3 * (k : Int) + 1 + 1) := by simp [mk3, h]
def mix3 (xs : List P3) (k : Nat) : List P3 := (mk3 xs.length).take k ++ xs.drop k
theorem mix3_len (xs : List P3) (k : Nat) (h : k ≤ xs.length) : (mix3 xs k).length = xs.length := by unfold mix3; rw [List.length_append, List.length_take, mk3_len, List.length_drop]; omega
theorem mix3_zero (xs : List P3) : mix3 xs 0 = xs := by simp [mix3]
theorem mix3_all (xs : List P3) : mix3 xs xs.length = mk3 xs.length := by
  unfold mix3
  rw [List.drop_length, List.append_nil, List.take_of_length_le (by rw [mk3_len]; exact Nat.le_refl _)]
theorem mix3_at (xs : List P3) (k : Nat) (h : k < xs.length) : (mix3 xs k)[k]? = xs[k]? := by
  unfold mix3
  rw [List.getElem?_append_right (by rw [List.length_take, mk3_len]; omega), List.length_take, mk3_len, List.getElem?_drop]
  congr 1; omega
theorem mix3_cells (xs : List P3) (rest : List Value) (k : Nat) (h : k < xs.length) :
    (((cells3 (mix3 xs k) ++ rest).set (k * 3) (vi (1 + 3 * (k : Int)))).set (k * 3 + 1) (vi (1 + 3 * (k : Int) + 1))).set (k * 3 + 2) (vi (1 + 3 * (k : Int) + 1 + 1)) = cells3 (mix3 xs (k + 1)) ++ rest := by
  have hl : (cells3 ((mk3 xs.length).take k)).length = k * 3 := by rw [cells3_len, List.length_take, mk3_len]; congr 1; omega
  obtain ⟨hm, e⟩ := List.getElem?_eq_some_iff.1 (mk3_at xs.length k h)
  have e1 : cells3 (mix3 xs k) = cells3 ((mk3 xs.length).take k) ++ (vi xs[k].1 :: vi xs[k].2.1 :: vi xs[k].2.2 :: cells3 (xs.drop (k + 1))) := by
    unfold mix3
    rw [cells3_append, List.drop_eq_getElem_cons h]
    rfl
  have e2 : cells3 (mix3 xs (k + 1)) = cells3 ((mk3 xs.length).take k) ++ (vi (1 + 3 * (k : Int)) :: vi (1 + 3 * (k : Int) + 1) :: vi (1 + 3 * (k : Int) + 1 + 1) :: cells3 (xs.drop (k + 1))) := by
    unfold mix3
    rw [cells3_append, List.take_succ_eq_append_getElem hm, e, cells3_append, cells3_one, List.append_assoc]
    rfl
  rw [e1, e2, List.append_assoc, List.append_assoc, List.set_append_right _ _ (by omega), List.set_append_right _ _ (by omega), List.set_append_right _ _ (by omega), hl,
    show k * 3 - k * 3 = 0 by omega, show k * 3 + 1 - k * 3 = 1 by omega, show k * 3 + 2 - k * 3 = 2 by omega]
  rfl
end Go.Proofs.YtenpgchkailocaaDoor
