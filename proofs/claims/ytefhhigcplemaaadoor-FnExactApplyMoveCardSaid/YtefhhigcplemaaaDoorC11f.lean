/- Contracts of chapter 11: searches in a row of figures, the figure at a point. -/
import Derived.Test.YtefhhigcplemaaaDoorC11e
import Derived.Deep.Onto
namespace Go.Proofs.YtefhhigcplemaaaDoor
open Go.RowKit
set_option linter.unusedVariables false
set_option linter.unusedSimpArgs false

/-- The figures beside a place: where they begin is one before it, and this is how many they are. -/
def bsN (n N : Nat) : Nat := if n = 0 then 1 else if n < N then 2 else 1
theorem bs_bd (n N : Nat) (hn : n ≤ N) (hN : 1 ≤ N) : (max ((n : Int) - 1) 0) = ((n - 1 : Nat) : Int) ∧ (min (n : Int) ((N : Int) - 1)) = ((n - 1 : Nat) : Int) + (bsN n N : Int) - 1 ∧ 1 ≤ bsN n N ∧ n - 1 + bsN n N ≤ N := by
  unfold bsN
  split
  · omega
  · split <;> omega
theorem bs_in (n N : Nat) (hn : n ≤ N) (hN : 1 ≤ N) : (∀ m, m < bsN n N → n - 1 + m < N ∧ (n - 1 + m = n ∨ n - 1 + m + 1 = n)) ∧ ∀ j, j < N → (j = n ∨ j + 1 = n) → ∃ i, i < bsN n N ∧ j = n - 1 + i := by
  unfold bsN
  constructor
  · intro m hm
    split at hm
    · omega
    · split at hm <;> omega
  · intro j hj h
    refine ⟨j - (n - 1), ?_, by omega⟩
    split
    · omega
    · split <;> omega
theorem below_app {w v v' : World} {B n m : Nat} {T : TypeId} {x : Value} {xs : List Value} (h : Below w.heap.size w v) (hB : w.heap.size ≤ B) (hx : v.ownsRow B T m x n xs) (hg : v.grownBy v' x.ownBlock) : Below w.heap.size w v' :=
  ⟨hg.os.trans h.os, hg.tape.trans h.tape, hg.output.trans h.output, Nat.le_trans h.size hg.size, fun k hk => (hg.block k (Nat.lt_of_lt_of_le hk h.size) (fun e => by have := (hx.lt k e.symm).1; omega)).trans (h.block k hk)⟩

theorem app_keep {w wr v' : World} {o : Obj} {B n m g : Nat} {T t : TypeId} {x : Value} {xs : List Value} {cs : Array Value} (hrow : wr.ownsRow B T m x n xs) (hgrow : (wr.alloc o).grownBy v' x.ownBlock) (hBlk : Blk wr g t cs) (hg : g < B) (hW : Below w.heap.size w wr) (hB : w.heap.size ≤ B) :
    Blk v' g t cs ∧ Below w.heap.size w v' :=
  ⟨(hgrow.block g (by have := hBlk.lt; simp; omega) (fun e => by have := (World.ownsRow.lt hrow _ e.symm).1; omega)).trans (hBlk.alloc o), below_app (hW.alloc hW.size _) hB (hrow.alloc o) hgrow⟩
theorem row_below {w w' : World} {B n m : Nat} {T : TypeId} {v : Value} {xs : List Value} (h : w.ownsRow B T m v n xs) (hb : Below w.heap.size w w') : w'.ownsRow B T m v n xs := by
  refine ⟨h.1, ?_⟩
  rcases h.2 with h0 | ⟨g, cap, cur, rfl, hB, hg, r⟩
  · exact .inl h0
  · exact .inr ⟨g, cap, cur, rfl, hB, (hb.block g (Array.getElem?_eq_some_iff.1 hg).1).trans hg, r⟩
end Go.Proofs.YtefhhigcplemaaaDoor
