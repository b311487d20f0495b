/- Regions that draw their order and make memory between calls: the blocks that they make, found again behind the calls (no side conditions: simp's depth is spared). -/
import Derived.Test.YtgadkpkpdpphbaaDoorGr
import Derived.Laws.NewBlocks
namespace Go.Proofs.YtgadkpkpdpphbaaDoor
open Go.RowKit
set_option linter.unusedVariables false
set_option linter.unusedSimpArgs false

theorem gr_drewn (w : World) (k : Nat) (os : Array Obj) : gr w.drew k os = gr w k os := rfl
theorem alloc_size_eq (X : World) (o : Obj) : (X.alloc o).heap.size = X.heap.size + 1 := World.size_alloc ..
theorem lt_new (X : World) (o : Obj) : X.heap.size < (X.alloc o).heap.size := by rw [alloc_size_eq]; omega
theorem lt_new_gr (X : World) (o : Obj) (k : Nat) (os : Array Obj) : X.heap.size < (gr (X.alloc o) k os).heap.size := by rw [gr_size, alloc_size_eq]; omega
theorem lt_new_gr_alloc (X : World) (o o' : Obj) (k : Nat) (os : Array Obj) : X.heap.size < ((gr (X.alloc o) k os).alloc o').heap.size := by rw [alloc_size_eq]; have := lt_new_gr X o k os; omega
theorem size_same (X : World) (o1 o2 : Obj) (k : Nat) (os : Array Obj) : (gr (X.alloc o1) k os).heap.size = (gr (X.alloc o2) k os).heap.size := by rw [gr_size, gr_size, alloc_size_eq, alloc_size_eq]

theorem gn_cell (X : World) (o : Obj) (k : Nat) (os : Array Obj) (i : Nat) : (gr (X.alloc o) k os).cell? ⟨X.heap.size, i, none⟩ = (X.alloc o).cell? ⟨X.heap.size, i, none⟩ := gr_cell _ _ _ _ _ (lt_new X o)
theorem gn_frozen (X : World) (o : Obj) (k : Nat) (os : Array Obj) (i : Nat) : (gr (X.alloc o) k os).frozen? ⟨X.heap.size, i, none⟩ = (X.alloc o).frozen? ⟨X.heap.size, i, none⟩ := gr_frozen _ _ _ _ _ (lt_new X o)
theorem gn_set (X : World) (o : Obj) (k : Nat) (os : Array Obj) (i : Nat) (v : Value) : (gr (X.alloc o) k os).setCell ⟨X.heap.size, i, none⟩ v = gr ((X.alloc o).setCell ⟨X.heap.size, i, none⟩ v) k os := gr_setCell _ _ _ _ _ _ (lt_new X o)

theorem gn_cell2 (X : World) (o o' : Obj) (k : Nat) (os : Array Obj) (i : Nat) : ((gr (X.alloc o) k os).alloc o').cell? ⟨X.heap.size, i, none⟩ = (gr (X.alloc o) k os).cell? ⟨X.heap.size, i, none⟩ := World.cell?_alloc_past _ _ _ (lt_new_gr X o k os)
theorem gn_frozen2 (X : World) (o o' : Obj) (k : Nat) (os : Array Obj) (i : Nat) : ((gr (X.alloc o) k os).alloc o').frozen? ⟨X.heap.size, i, none⟩ = (gr (X.alloc o) k os).frozen? ⟨X.heap.size, i, none⟩ := World.frozen?_alloc_past _ _ _ (lt_new_gr X o k os)
theorem gn_set2 (X : World) (o o' : Obj) (k : Nat) (os : Array Obj) (i : Nat) (v : Value) : ((gr (X.alloc o) k os).alloc o').setCell ⟨X.heap.size, i, none⟩ v = ((gr (X.alloc o) k os).setCell ⟨X.heap.size, i, none⟩ v).alloc o' := World.setCell_alloc_past _ _ _ _ (lt_new_gr X o k os)

theorem gn_cell3 (X : World) (o o' : Obj) (k k' : Nat) (os os' : Array Obj) (i : Nat) : (gr ((gr (X.alloc o) k os).alloc o') k' os').cell? ⟨X.heap.size, i, none⟩ = ((gr (X.alloc o) k os).alloc o').cell? ⟨X.heap.size, i, none⟩ := gr_cell _ _ _ _ _ (lt_new_gr_alloc X o o' k os)
theorem gn_frozen3 (X : World) (o o' : Obj) (k k' : Nat) (os os' : Array Obj) (i : Nat) : (gr ((gr (X.alloc o) k os).alloc o') k' os').frozen? ⟨X.heap.size, i, none⟩ = ((gr (X.alloc o) k os).alloc o').frozen? ⟨X.heap.size, i, none⟩ := gr_frozen _ _ _ _ _ (lt_new_gr_alloc X o o' k os)
theorem gn_set3 (X : World) (o o' : Obj) (k k' : Nat) (os os' : Array Obj) (i : Nat) (v : Value) : (gr ((gr (X.alloc o) k os).alloc o') k' os').setCell ⟨X.heap.size, i, none⟩ v = gr (((gr (X.alloc o) k os).alloc o').setCell ⟨X.heap.size, i, none⟩ v) k' os' := gr_setCell _ _ _ _ _ _ (lt_new_gr_alloc X o o' k os)

/- the second block, by the address that it had before the first one was written -/
theorem gn_cell4 (X : World) (o1 o2 : Obj) (c : Array Value) (t : TypeId) (k : Nat) (os : Array Obj) (i : Nat) : ((gr (X.alloc o2) k os).alloc (.cells c t)).cell? ⟨(gr (X.alloc o1) k os).heap.size, i, none⟩ = c[i]? := World.cell?_alloc_at _ _ _ _ (size_same X o1 o2 k os)
theorem gn_frozen4 (X : World) (o1 o2 : Obj) (c : Array Value) (t : TypeId) (k : Nat) (os : Array Obj) (i : Nat) : ((gr (X.alloc o2) k os).alloc (.cells c t)).frozen? ⟨(gr (X.alloc o1) k os).heap.size, i, none⟩ = false := World.frozen?_alloc_at _ _ _ _ (size_same X o1 o2 k os)
theorem gn_set4 (X : World) (o1 o2 : Obj) (c : Array Value) (t : TypeId) (k : Nat) (os : Array Obj) (i : Nat) (v : Value) : ((gr (X.alloc o2) k os).alloc (.cells c t)).setCell ⟨(gr (X.alloc o1) k os).heap.size, i, none⟩ v = (gr (X.alloc o2) k os).alloc (.cells (c.setIfInBounds i v) t) := World.setCell_alloc_at _ _ _ _ _ (size_same X o1 o2 k os)
theorem gn_cell5 (X : World) (o1 o2 : Obj) (c : Array Value) (t : TypeId) (k k' : Nat) (os os' : Array Obj) (i : Nat) : (gr ((gr (X.alloc o2) k os).alloc (.cells c t)) k' os').cell? ⟨(gr (X.alloc o1) k os).heap.size, i, none⟩ = c[i]? := by
  rw [gr_cell _ _ _ _ _ (by rw [size_same X o1 o2 k os]; exact lt_new _ _)]; exact gn_cell4 ..
theorem gn_frozen5 (X : World) (o1 o2 : Obj) (c : Array Value) (t : TypeId) (k k' : Nat) (os os' : Array Obj) (i : Nat) : (gr ((gr (X.alloc o2) k os).alloc (.cells c t)) k' os').frozen? ⟨(gr (X.alloc o1) k os).heap.size, i, none⟩ = false := by
  rw [gr_frozen _ _ _ _ _ (by rw [size_same X o1 o2 k os]; exact lt_new _ _)]; exact gn_frozen4 ..
theorem gn_set5 (X : World) (o1 o2 : Obj) (c : Array Value) (t : TypeId) (k k' : Nat) (os os' : Array Obj) (i : Nat) (v : Value) : (gr ((gr (X.alloc o2) k os).alloc (.cells c t)) k' os').setCell ⟨(gr (X.alloc o1) k os).heap.size, i, none⟩ v = gr ((gr (X.alloc o2) k os).alloc (.cells (c.setIfInBounds i v) t)) k' os' := by
  rw [gr_setCell _ _ _ _ _ _ (by rw [size_same X o1 o2 k os]; exact lt_new _ _), gn_set4]
attribute [go_sem] gr_drewn gn_cell gn_frozen gn_set gn_cell2 gn_frozen2 gn_set2 gn_cell3 gn_frozen3 gn_set3 gn_cell4 gn_frozen4 gn_set4 gn_cell5 gn_frozen5 gn_set5
end Go.Proofs.YtgadkpkpdpphbaaDoor
