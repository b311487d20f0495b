/- Worlds that have only grown: draws, and new blocks behind the old ones. -/
import Derived.Laws.NewBlocks
import Derived.Below
import Derived.Deep.Draws
import Derived.Deep.QuietTactic
namespace Go.Proofs.YtphebmbapllinaaDoor
open Go.RowKit
set_option linter.unusedVariables false
set_option linter.unusedSimpArgs false

/-- The world w, its count of draws at k, with the blocks os behind its heap. -/
def gr (w : World) (k : Nat) (os : Array Obj) : World := { w with heap := w.heap ++ os, drawn := k }
theorem gr_old (w : World) (k : Nat) (os : Array Obj) {n : Nat} (h : n < w.heap.size) : (gr w k os).heap[n]? = w.heap[n]? := by simp [gr, Array.getElem?_append, h]
theorem gr_size (w : World) (k : Nat) (os : Array Obj) : (gr w k os).heap.size = w.heap.size + os.size := by simp [gr]
@[go_sem] theorem gr_cell (w : World) (k : Nat) (os : Array Obj) (n i : Nat) (h : n < w.heap.size) : (gr w k os).cell? ⟨n, i, none⟩ = w.cell? ⟨n, i, none⟩ := by
  simp only [World.cell?, gr_old w k os h]
@[go_sem] theorem gr_frozen (w : World) (k : Nat) (os : Array Obj) (n i : Nat) (h : n < w.heap.size) : (gr w k os).frozen? ⟨n, i, none⟩ = w.frozen? ⟨n, i, none⟩ := by
  simp only [World.frozen?, gr_old w k os h]
theorem gr_modify (a b : Array Obj) (i : Nat) (f : Obj → Obj) (h : i < a.size) : (a ++ b).modify i f = a.modify i f ++ b := by
  apply Array.ext_getElem?
  intro k
  simp only [Array.getElem?_modify, Array.getElem?_append, Array.size_modify]
  by_cases hk : k < a.size
  · simp [hk]
  · have : i ≠ k := by omega
    simp [hk, this]
@[go_sem] theorem gr_setCell (w : World) (k : Nat) (os : Array Obj) (n i : Nat) (v : Value) (h : n < w.heap.size) : (gr w k os).setCell ⟨n, i, none⟩ v = gr (w.setCell ⟨n, i, none⟩ v) k os := by
  unfold World.setCell gr
  simp only [gr_modify _ _ _ _ h]
@[go_sem] theorem gr_lt (w : World) (k : Nat) (os : Array Obj) (n : Nat) (h : n < w.heap.size) : n < (gr w k os).heap.size := by rw [gr_size]; omega
@[go_sem] theorem gr_le (w : World) (k : Nat) (os : Array Obj) (n : Nat) (h : n ≤ w.heap.size) : n ≤ (gr w k os).heap.size := by rw [gr_size]; omega
@[go_sem] theorem gr_drew (w : World) (k : Nat) (os : Array Obj) : (gr w k os).drew = gr w (k + 1) os := rfl
@[go_sem] theorem gr_drewN (w : World) (k n : Nat) (os : Array Obj) : (gr w k os).drewN n = gr w (k + n) os := rfl
@[go_sem] theorem gr_gr (w : World) (k l : Nat) (os ps : Array Obj) : gr (gr w k os) l ps = gr w l (os ++ ps) := by
  unfold gr
  simp only [Array.append_assoc]
theorem gr_alloc (w : World) (k : Nat) (os : Array Obj) (o : Obj) : (gr w k os).alloc o = gr w k (os.push o) := by
  unfold gr World.alloc
  simp only [Array.push_eq_append, Array.append_assoc]

/- (simp discharges two deep alone: several steps in one) -/
@[go_sem] theorem gr_lt2 (w : World) (k l : Nat) (os ps : Array Obj) (o : Obj) (n : Nat) (h : n < w.heap.size) : n < (gr ((gr w k os).alloc o) l ps).heap.size := by
  rw [gr_size, gr_alloc, gr_size]; omega
@[go_sem] theorem gr_lt3 (w : World) (k l : Nat) (os ps : Array Obj) (o o' : Obj) (n : Nat) (h : n < w.heap.size) : n < (gr (((gr w k os).alloc o).alloc o') l ps).heap.size := by
  rw [gr_size, gr_alloc, gr_alloc, gr_size]; omega

@[go_sem] theorem gr_lt_a1 (w : World) (k : Nat) (os : Array Obj) (n : Nat) (h : n ≤ w.heap.size) : n < (gr w k os).heap.size + 1 := by rw [gr_size]; omega
@[go_sem] theorem gr_le_a1 (w : World) (k : Nat) (os : Array Obj) (n : Nat) (h : n ≤ w.heap.size) : n ≤ (gr w k os).heap.size + 1 := by rw [gr_size]; omega
@[go_sem] theorem gr_lt_a2 (w : World) (k : Nat) (os : Array Obj) (n : Nat) (h : n ≤ w.heap.size) : n < (gr w k os).heap.size + 1 + 1 := by rw [gr_size]; omega
@[go_sem] theorem gr_le_a2 (w : World) (k : Nat) (os : Array Obj) (n : Nat) (h : n ≤ w.heap.size) : n ≤ (gr w k os).heap.size + 1 + 1 := by rw [gr_size]; omega
@[go_sem] theorem gr_lt_a3 (w : World) (k : Nat) (os : Array Obj) (n : Nat) (h : n ≤ w.heap.size) : n < (gr w k os).heap.size + 1 + 1 + 1 := by rw [gr_size]; omega
@[go_sem] theorem gr_le_a3 (w : World) (k : Nat) (os : Array Obj) (n : Nat) (h : n ≤ w.heap.size) : n ≤ (gr w k os).heap.size + 1 + 1 + 1 := by rw [gr_size]; omega
@[go_sem] theorem gr_lt_a4 (w : World) (k : Nat) (os : Array Obj) (n : Nat) (h : n ≤ w.heap.size) : n < (gr w k os).heap.size + 1 + 1 + 1 + 1 := by rw [gr_size]; omega
@[go_sem] theorem gr_le_a4 (w : World) (k : Nat) (os : Array Obj) (n : Nat) (h : n ≤ w.heap.size) : n ≤ (gr w k os).heap.size + 1 + 1 + 1 + 1 := by rw [gr_size]; omega
/- (without a condition: simp's depth is spared) -/
@[go_sem] theorem up_lt2 (n : Nat) : n < n + 1 + 1 := by omega
@[go_sem] theorem up_le2 (n : Nat) : n ≤ n + 1 + 1 := by omega
@[go_sem] theorem up_lt3 (n : Nat) : n < n + 1 + 1 + 1 := by omega
@[go_sem] theorem up_le3 (n : Nat) : n ≤ n + 1 + 1 + 1 := by omega
@[go_sem] theorem up_lt4 (n : Nat) : n < n + 1 + 1 + 1 + 1 := by omega
@[go_sem] theorem up_le4 (n : Nat) : n ≤ n + 1 + 1 + 1 + 1 := by omega
@[go_sem] theorem up_lt5 (n : Nat) : n < n + 1 + 1 + 1 + 1 + 1 := by omega
@[go_sem] theorem up_le5 (n : Nat) : n ≤ n + 1 + 1 + 1 + 1 + 1 := by omega
@[go_sem] theorem up_lt6 (n : Nat) : n < n + 1 + 1 + 1 + 1 + 1 + 1 := by omega
@[go_sem] theorem up_le6 (n : Nat) : n ≤ n + 1 + 1 + 1 + 1 + 1 + 1 := by omega
@[go_sem] theorem up_lt7 (n : Nat) : n < n + 1 + 1 + 1 + 1 + 1 + 1 + 1 := by omega
@[go_sem] theorem up_le7 (n : Nat) : n ≤ n + 1 + 1 + 1 + 1 + 1 + 1 + 1 := by omega
@[go_sem] theorem up_lt8 (n : Nat) : n < n + 1 + 1 + 1 + 1 + 1 + 1 + 1 + 1 := by omega
@[go_sem] theorem up_le8 (n : Nat) : n ≤ n + 1 + 1 + 1 + 1 + 1 + 1 + 1 + 1 := by omega

/-- w' is w, grown. -/
def Gr (w w' : World) : Prop := ∃ k os, w' = gr w k os
theorem Gr.refl (w : World) : Gr w w := ⟨w.drawn, #[], by simp [gr]⟩
theorem Gr.alloc {w v : World} (h : Gr w v) (o : Obj) : Gr w (v.alloc o) := by
  obtain ⟨k, os, rfl⟩ := h
  exact ⟨k, os.push o, gr_alloc ..⟩
theorem Gr.gr {w v : World} (h : Gr w v) (l : Nat) (ps : Array Obj) : Gr w (gr v l ps) := by
  obtain ⟨k, os, rfl⟩ := h
  exact ⟨_, _, gr_gr ..⟩
theorem Gr.drew {w v : World} (h : Gr w v) : Gr w v.drew := by
  obtain ⟨k, os, rfl⟩ := h
  exact ⟨k + 1, os, rfl⟩
theorem Gr.drewN {w v : World} (h : Gr w v) (n : Nat) : Gr w (v.drewN n) := by
  obtain ⟨k, os, rfl⟩ := h
  exact ⟨k + n, os, gr_drewN ..⟩
theorem Gr.trans {u v w : World} (h : Gr u v) (h' : Gr v w) : Gr u w := by
  obtain ⟨k, os, rfl⟩ := h'
  exact h.gr k os
theorem Gr.below {w v : World} (h : Gr w v) : Below w.heap.size w v := by
  obtain ⟨k, os, rfl⟩ := h
  exact ⟨rfl, rfl, rfl, by rw [gr_size]; omega, fun n hn => gr_old w k os hn⟩

theorem Gr.of_below {w v : World} (h : Below w.heap.size w v) : Gr w v := by
  refine ⟨v.drawn, v.heap.extract w.heap.size v.heap.size, ?_⟩
  obtain ⟨heap', tape', drawn', os', output'⟩ := v
  have e1 : os' = w.os := h.os
  have e2 : tape' = w.tape := h.tape
  have e3 : output' = w.output := h.output
  have hs : w.heap.size ≤ heap'.size := h.size
  have hb : ∀ k, k < w.heap.size → heap'[k]? = w.heap[k]? := h.block
  subst e1 e2 e3
  have eh : heap' = w.heap ++ heap'.extract w.heap.size heap'.size := by
    apply Array.ext_getElem?
    intro k
    by_cases hk : k < w.heap.size
    · rw [Array.getElem?_append_left hk]; exact hb k hk
    · rw [Array.getElem?_append_right (by omega), Array.getElem?_extract]
      by_cases hk2 : k < heap'.size
      · rw [if_pos (by omega)]; congr 1; omega
      · rw [if_neg (by omega), Array.getElem?_eq_none (by omega)]
  simp only [gr]
  congr 1

/-- How a world has grown (a structure of its own: the walk takes pairs apart). -/
structure GrP where
  k : Nat
  os : Array Obj
  deriving Inhabited
/-- A region that draws its order, whose operations only read and whose callees only grow the world: walked once. -/
theorem region_gr {P : Program} {id : Nat} {Q : Exit → Act → World → Prop} {a : Act} {w : World} {l : List Oper} (hm : P.follows .mixedOrders = true) (hB : Region.lexB .any l.toArray = true)
    (h : wpQuiet P l.toArray (fun w' => ∃ p : GrP, w' = gr w p.k p.os) (fun a' => ∀ w', (∃ p : GrP, w' = gr w p.k p.os) → Q .normal a' w') l a) : (Code.region id l.toArray true).wp P Q a w :=
  wp_region_quiet (C := fun w' => ∃ p : GrP, w' = gr w p.k p.os) hm hB ⟨⟨w.drawn + 1, #[]⟩, by simp [gr]⟩ (by simpa using h)
/-- .. from a world that has grown already: the class stays that of the world that it grew from. -/
theorem region_gr_on {P : Program} {id : Nat} {Q : Exit → Act → World → Prop} {a : Act} {w : World} {k : Nat} {os : Array Obj} {l : List Oper} (hm : P.follows .mixedOrders = true) (hB : Region.lexB .any l.toArray = true)
    (h : wpQuiet P l.toArray (fun w' => ∃ p : GrP, w' = gr w p.k p.os) (fun a' => ∀ w', (∃ p : GrP, w' = gr w p.k p.os) → Q .normal a' w') l a) : (Code.region id l.toArray true).wp P Q a (gr w k os) :=
  wp_region_quiet (C := fun w' => ∃ p : GrP, w' = gr w p.k p.os) hm hB ⟨⟨k + 1, os⟩, rfl⟩ (by simpa using h)
theorem Calls.gr_of {P : Program} {f : FuncId} {args : Array Value} {w : World} {k : Nat} {os : Array Obj} {v : Value}
    (h : Calls P f args (gr w k os) fun e w' => e = .returned v ∧ Gr (gr w k os) w') : Calls P f args (gr w k os) fun e w'' => e = .returned v ∧ ∃ p : GrP, w'' = gr w p.k p.os :=
  h.mono fun _ _ ⟨he, l, ps, hw⟩ => ⟨he, ⟨l, os ++ ps⟩, by rw [hw, gr_gr]⟩
theorem Calls.gr_same {P : Program} {f : FuncId} {args : Array Value} {w : World} {k : Nat} {os : Array Obj} {v : Value}
    (h : Calls P f args (gr w k os) fun e w' => e = .returned v ∧ gr w k os = w') : Calls P f args (gr w k os) fun e w'' => e = .returned v ∧ ∃ p : GrP, w'' = gr w p.k p.os :=
  h.mono fun _ _ ⟨he, hw⟩ => ⟨he, ⟨k, os⟩, hw.symm⟩
end Go.Proofs.YtphebmbapllinaaDoor
