/- The model's source of draws: what it is in memory, and what one draw does to it. -/
import Derived.Test.YtefhhigcplemaaaDoor1A
import Derived.Test.YtefhhigcplemaaaDoorBk
import Derived.Below
import Derived.Laws.Rows
import Derived.WalkSmall
namespace Go.Proofs.YtefhhigcplemaaaDoor
open Go.RowKit
set_option linter.unusedVariables false
set_option linter.unusedSimpArgs false

/-- A slice of bytes that can be read, below block B. -/
def Bytes (w : World) (B : Nat) (A : Option Addr) (n : Nat) : Prop :=
  ∀ k : Nat, k < n → ∃ g o x : Nat, A = some ⟨g, o, none⟩ ∧ g < B ∧ x < 256 ∧ w.cell? ⟨g, o + k, none⟩ = some (.int .u8 x)

theorem Bytes.keep {w w' : World} {B : Nat} {A : Option Addr} {n : Nat} (h : Bytes w B A n) (hk : ∀ k, k < B → w'.heap[k]? = w.heap[k]?) : Bytes w' B A n := by
  intro k hkn
  obtain ⟨g, o, x, hA, hg, hx, hc⟩ := h k hkn
  exact ⟨g, o, x, hA, hg, hx, by rw [← hc]; exact World.cell?_of_block (hk g hg)⟩

theorem Bytes.later {w w' : World} {A : Option Addr} {n : Nat} (h : Bytes w w.heap.size A n) (hb : Below w.heap.size w w') : Bytes w' w'.heap.size A n := by
  have h' := h.keep (w' := w') hb.block
  intro k hk
  obtain ⟨g, o, x, hA, hg, hx, hc⟩ := h' k hk
  exact ⟨g, o, x, hA, by have := hb.size; omega, hx, hc⟩

/-- What a function that draws does to memory: block b is written, new blocks come, all else stays. -/
structure Dr (b : Nat) (w w' : World) : Prop where
  os : w'.os = w.os
  tape : w'.tape = w.tape
  output : w'.output = w.output
  size : w.heap.size ≤ w'.heap.size
  block : ∀ k, k < w.heap.size → k ≠ b → w'.heap[k]? = w.heap[k]?
theorem Dr.refl (b : Nat) (w : World) : Dr b w w := ⟨rfl, rfl, rfl, Nat.le_refl _, fun _ _ _ => rfl⟩
theorem Dr.trans {b : Nat} {u v w : World} (h : Dr b u v) (k : Dr b v w) : Dr b u w :=
  ⟨k.os.trans h.os, k.tape.trans h.tape, k.output.trans h.output, Nat.le_trans h.size k.size, fun i hi hb => (k.block i (Nat.lt_of_lt_of_le hi h.size) hb).trans (h.block i hi hb)⟩
theorem Dr.drewN {b : Nat} {u v : World} (h : Dr b u v) (n : Nat) : Dr b u (v.drewN n) := ⟨h.os, h.tape, h.output, h.size, h.block⟩
theorem Dr.drew {b : Nat} {u v : World} (h : Dr b u v) : Dr b u v.drew := ⟨h.os, h.tape, h.output, h.size, h.block⟩
theorem Dr.alloc {b : Nat} {u v : World} (h : Dr b u v) (o : Obj) : Dr b u (v.alloc o) :=
  ⟨h.os, h.tape, h.output, by have := h.size; simp; omega, fun k hk hb => (Below.heap_alloc v o k (Nat.lt_of_lt_of_le hk h.size)).trans (h.block k hk hb)⟩
theorem Dr.setCell {b : Nat} {u v : World} (h : Dr b u v) {a : Addr} (ha : a.block = b ∨ u.heap.size ≤ a.block) (x : Value) : Dr b u (v.setCell a x) :=
  ⟨h.os, h.tape, h.output, by have := h.size; simpa using this, fun k hk hb => (heap_setCell_other v a k x (by rcases ha with h | h <;> omega)).trans (h.block k hk hb)⟩
theorem Dr.below {b B : Nat} {u v : World} (h : Dr b u v) (hb : B ≤ b) (hB : B ≤ u.heap.size) : Below B u v :=
  ⟨h.os, h.tape, h.output, h.size, fun k hk => h.block k (by omega) (by omega)⟩
theorem Dr.cell {b : Nat} {u v : World} (h : Dr b u v) {a : Addr} {x : Value} (hc : u.cell? a = some x) (hb : a.block ≠ b) : v.cell? a = some x := by
  rw [← hc]; exact World.cell?_of_block (h.block _ (World.block_lt_of_cell? u a hc) hb)


theorem seed_bd (s : Nat) (h : s < 2147483647) : (s * 48271 + 29) % 2147483647 < 2147483647 := Nat.mod_lt _ (by decide)

end Go.Proofs.YtefhhigcplemaaaDoor
