/- Contracts of chapter 4: spans of intervals in the model. -/
import Derived.Test.YtphebmbapllinaaDoorC04c
import Derived.Deep.DeepCutAuto
namespace Go.Proofs.YtphebmbapllinaaDoor
open Go.RowKit Go.Shelf
set_option linter.unusedVariables false
set_option linter.unusedSimpArgs false

/- (worlds written out, where blocks are laid beside calls in any order: sizes come into one form) -/
theorem gr_of_drew (w : World) (k : Nat) (os : Array Obj) : gr w.drew k os = gr w k os := rfl
theorem gr_alloc_size (w : World) (k : Nat) (os : Array Obj) (o : Obj) : (gr (w.alloc o) k os).heap.size = w.heap.size + 1 + os.size := by rw [gr_size]; simp
theorem gr_lt_s (w : World) (k m n : Nat) (os : Array Obj) (h : n ≤ w.heap.size) : n < (gr w k os).heap.size + 1 + m := by rw [gr_size]; omega
theorem up_s1 (n m : Nat) : n < n + 1 + m := by omega
theorem up_n1 (n m : Nat) : ¬ n = n + 1 + m := by omega
theorem up_m1 (n m : Nat) : ¬ n + 1 + m = n := by omega
theorem up_s2 (n m : Nat) : n < n + 1 + 1 + m := by omega
theorem up_n2 (n m : Nat) : ¬ n = n + 1 + 1 + m := by omega
theorem up_m2 (n m : Nat) : ¬ n + 1 + 1 + m = n := by omega
theorem up_s3 (n m : Nat) : n < n + 1 + 1 + 1 + m := by omega
theorem up_n3 (n m : Nat) : ¬ n = n + 1 + 1 + 1 + m := by omega
theorem up_m3 (n m : Nat) : ¬ n + 1 + 1 + 1 + m = n := by omega
theorem up_s4 (n m : Nat) : n < n + 1 + 1 + 1 + 1 + m := by omega
theorem up_n4 (n m : Nat) : ¬ n = n + 1 + 1 + 1 + 1 + m := by omega
theorem up_m4 (n m : Nat) : ¬ n + 1 + 1 + 1 + 1 + m = n := by omega
theorem up_s5 (n m : Nat) : n < n + 1 + 1 + 1 + 1 + 1 + m := by omega
theorem up_n5 (n m : Nat) : ¬ n = n + 1 + 1 + 1 + 1 + 1 + m := by omega
theorem up_m5 (n m : Nat) : ¬ n + 1 + 1 + 1 + 1 + 1 + m = n := by omega
theorem up_s6 (n m : Nat) : n < n + 1 + 1 + 1 + 1 + 1 + 1 + m := by omega
theorem up_n6 (n m : Nat) : ¬ n = n + 1 + 1 + 1 + 1 + 1 + 1 + m := by omega
theorem up_m6 (n m : Nat) : ¬ n + 1 + 1 + 1 + 1 + 1 + 1 + m = n := by omega
attribute [local go_sem] gr_of_drew gr_alloc_size gr_lt_s up_s1 up_n1 up_m1 up_s2 up_n2 up_m2 up_s3 up_n3 up_m3 up_s4 up_n4 up_m4 up_s5 up_n5 up_m5 up_s6 up_n6 up_m6

/-- TwoC cells of a block that lies in the world. -/
def TwoC (w : World) (g : Nat) (x y : Value) : Prop := g < w.heap.size ∧ w.cell? ⟨g, 0, none⟩ = some x ∧ w.cell? ⟨g, 1, none⟩ = some y
theorem TwoC.gr {w w' : World} {g : Nat} {x y : Value} (h : TwoC w g x y) (hg : Gr w w') : TwoC w' g x y :=
  ⟨Nat.lt_of_lt_of_le h.1 hg.below.size, (hg.below.cell (p := ⟨g, 0, none⟩) h.1).trans h.2.1, (hg.below.cell (p := ⟨g, 1, none⟩) h.1).trans h.2.2⟩

end Go.Proofs.YtphebmbapllinaaDoor
