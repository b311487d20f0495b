/- Slices of integers: what they read as; made, copied, compared. -/
import Derived.Test.YtggflladheemoaaGr
import Derived.Laws.Rows
import Derived.Laws.MakeOwn
import Derived.OwnWalk
import Derived.WalkKit
import Derived.ProofKit
import Derived.BigQuiet
import Derived.Deep.QuietTactic
import Derived.Lib.Hide
import Derived.ChangeSlices
import Derived.OpenShut
import Derived.Carry
import Derived.Test.YtggflladheemoaaRows
namespace Go.Proofs.Ytggflladheemoaa
open Go.RowKit Go.ChangeShapes Go.WideShapes Go.ChangeAt
set_option linter.unusedVariables false
set_option linter.unusedSimpArgs false

abbrev vi (z : Int) : Value := .int .i64 z
/-- A slice at A reads as these cells, below block B. -/
def Reads (w : World) (B : Nat) (A : Option Addr) (vs : List Value) : Prop :=
  ∀ k (h : k < vs.length), ∃ g o : Nat, A = some ⟨g, o, none⟩ ∧ g < B ∧ w.cell? ⟨g, o + k, none⟩ = some vs[k]
theorem Reads.keep {w w' : World} {B B' : Nat} {A : Option Addr} {vs : List Value} (h : Reads w B A vs) (hb : B ≤ B') (hk : ∀ k, k < B → w'.heap[k]? = w.heap[k]?) : Reads w' B' A vs := by
  intro k hk'
  obtain ⟨g, o, e, hg, hc⟩ := h k hk'
  exact ⟨g, o, e, by omega, by rw [← hc]; exact World.cell?_of_block (hk g hg)⟩
theorem Reads.below {w w' : World} {A : Option Addr} {vs : List Value} (h : Reads w w.heap.size A vs) (hb : Below w.heap.size w w') : Reads w' w'.heap.size A vs := h.keep hb.size hb.block
theorem Reads.gr {w w' : World} {A : Option Addr} {vs : List Value} (h : Reads w w.heap.size A vs) (hg : Gr w w') : Reads w' w'.heap.size A vs := h.below hg.below
theorem Reads.nil (w : World) (B : Nat) (A : Option Addr) : Reads w B A [] := fun k hk => absurd hk (by simp)

/-- Block b is just these cells, and can be written. -/
def Row (w : World) (b : Nat) (t : TypeId) (vs : List Value) : Prop := w.heap[b]? = some (.cells vs.toArray t (0, 0))
theorem Row.lt {w : World} {b : Nat} {t : TypeId} {vs : List Value} (h : Row w b t vs) : b < w.heap.size := by
  rcases Nat.lt_or_ge b w.heap.size with h1 | h1
  · exact h1
  · unfold Row at h; rw [Array.getElem?_eq_none h1] at h; cases h
theorem Row.cell {w : World} {b : Nat} {t : TypeId} {vs : List Value} (h : Row w b t vs) (k : Nat) : w.cell? ⟨b, k, none⟩ = vs[k]? := by
  rw [cell_of_row w b k _ _ _ h]; simp
theorem Row.free {w : World} {b : Nat} {t : TypeId} {vs : List Value} (h : Row w b t vs) (k : Nat) : w.frozen? ⟨b, k, none⟩ = false := by
  unfold Row at h; simp [World.frozen?, h]
theorem Row.reads {w : World} {b : Nat} {t : TypeId} {vs : List Value} (h : Row w b t vs) : Reads w w.heap.size (some ⟨b, 0, none⟩) vs :=
  fun k hk => ⟨b, 0, rfl, h.lt, by rw [Nat.zero_add, h.cell, List.getElem?_eq_getElem hk]⟩
theorem Row.new (w : World) (t : TypeId) (vs : List Value) : Row (w.alloc (.cells vs.toArray t)) w.heap.size t vs := heap_alloc_new w _
theorem Row.below {w w' : World} {B b : Nat} {t : TypeId} {vs : List Value} (h : Row w b t vs) (hb : Below B w w') (hB : b < B) : Row w' b t vs := (hb.block b hB).trans h
theorem Row.gr {w w' : World} {b : Nat} {t : TypeId} {vs : List Value} (h : Row w b t vs) (hg : Gr w w') : Row w' b t vs := h.below hg.below h.lt
theorem Row.set {w : World} {b : Nat} {t : TypeId} {vs : List Value} (h : Row w b t vs) (k : Nat) (x : Value) : Row (w.setCell ⟨b, k, none⟩ x) b t (vs.set k x) := by
  unfold Row at h ⊢
  simp [World.setCell, Array.getElem?_modify, h]

/-- k elements are filled in, the rest is still what it was made of. -/
def fillV (vs : List Value) (z : Value) (k : Nat) : List Value := vs.take k ++ List.replicate (vs.length - k) z
theorem fillV_zero (vs : List Value) (z : Value) : fillV vs z 0 = List.replicate vs.length z := by simp [fillV]
theorem fillV_all (vs : List Value) (z : Value) : fillV vs z vs.length = vs := by simp [fillV]
theorem fillV_len (vs : List Value) (z : Value) (k : Nat) (h : k ≤ vs.length) : (fillV vs z k).length = vs.length := by simp [fillV]; omega
theorem fillV_at (vs : List Value) (z : Value) (k : Nat) (h : k < vs.length) : (fillV vs z k)[k]? = some z := by
  unfold fillV
  rw [List.getElem?_append_right (by simp; omega), List.getElem?_replicate, if_pos (by rw [List.length_take]; omega)]
theorem fillV_set (vs : List Value) (z : Value) (k : Nat) (h : k < vs.length) : (fillV vs z k).set k vs[k] = fillV vs z (k + 1) := by
  unfold fillV
  have e : vs.length - k = (vs.length - (k + 1)) + 1 := by omega
  rw [e, List.replicate_succ, List.set_append_right _ _ (by simp; omega)]
  simp only [List.length_take, show k - min k vs.length = 0 by omega, List.set_cons_zero]
  rw [List.take_succ_eq_append_getElem h, List.append_assoc]
  rfl

theorem Reads.at_ {w : World} {B : Nat} {A : Option Addr} {vs : List Value} (h : Reads w B A vs) {k : Nat} {x : Value} (hx : vs[k]? = some x) : ∃ g o : Nat, A = some ⟨g, o, none⟩ ∧ g < B ∧ w.cell? ⟨g, o + k, none⟩ = some x := by
  obtain ⟨hk, e⟩ := List.getElem?_eq_some_iff.1 hx
  obtain ⟨g, o, a, b, c⟩ := h k hk
  exact ⟨g, o, a, b, by rw [c, e]⟩
theorem fillV_put (vs : List Value) (z x : Value) (k : Nat) (hx : vs[k]? = some x) : (fillV vs z k).set k x = fillV vs z (k + 1) := by
  obtain ⟨hk, e⟩ := List.getElem?_eq_some_iff.1 hx
  rw [← e]; exact fillV_set vs z k hk
theorem some_at {α : Type} {l : List α} {k : Nat} (h : k < l.length) : ∃ x, l[k]? = some x := ⟨_, List.getElem?_eq_getElem h⟩
theorem map_at {α β : Type} {f : α → β} {l : List α} {k : Nat} {x : α} (h : l[k]? = some x) : (l.map f)[k]? = some (f x) := by rw [List.getElem?_map, h]; rfl

theorem made_rep (z : Value) (hz : z.cells = #[z]) (n : Nat) : madeCells z.cells n = (List.replicate n z).toArray := by
  rw [hz]
  apply Array.ext_getElem?
  intro i
  unfold madeCells
  by_cases h : i < n <;> simp [h, Nat.mod_one]
/-- A made slice, at every world. -/
theorem run_mk {P : Program} {t e : TypeId} {z : Value} {b : Nat} (ht : P.underlying t = some (.slice e)) (hi : (P.info? e).map (fun i => (i.zero, i.size, i.bytes)) = some (some z, 1, b)) (hz : z.cells = #[z]) (hb : b ≤ 64) (n : Nat) (hn : n ≤ 16777216) (w : World) :
    (Instr.makeSlice t (.int .i64 (n : Int)) (.int .i64 (n : Int))).run P w = .ok (.slice (some ⟨w.heap.size, 0, none⟩) n n) (w.alloc (.cells (List.replicate n z).toArray e)) := by
  obtain ⟨i0, hi, hz0, hz1, hz2⟩ := info_parts hi
  have hbb : (i0.bytes : Int) * (n : Int) ≤ 281474976710656 := by
    have h1 : i0.bytes * n ≤ 64 * 16777216 := Nat.mul_le_mul (by omega) hn
    have h2 : ((i0.bytes * n : Nat) : Int) ≤ 281474976710656 := by omega
    rwa [Int.natCast_mul] at h2
  have hr := run_make (P := P) w t e i0 z ht hi hz0 .i64 .i64 n n (by omega) (Int.le_refl _) hbb (by omega)
  simp only [Int.toNat_natCast, hz1, Nat.mul_one, made_rep z hz] at hr
  exact hr

section
variable {P : Program} {H : Type} {enc : TypeId × Value → H} {W : World}
/-- A slice of integers, opened. -/
theorem open_islice {t e : TypeId} {v : Value} {d : DataW H} {ps : List MemPlace} (ht : P.underlying t = some (.slice e)) (he : P.underlying e = some (.int .i64)) (hc : P.cellsOf e = 1) {r : Reach} {b0 : Nat}
    (hval : Value.okWide P W r b0 t v) (h : DataW.Trod enc P W 0 (fun _ => true) true t v d ps) :
    ∃ (A : Option Addr) (n c : Nat) (zs : List Int), v = .slice A n c ∧ zs.length = n ∧ Reads W W.heap.size A (zs.map vi) ∧ ∀ z ∈ zs, (Lit.int .i64 z).wf = true := by
  obtain ⟨A, n, c, rfl⟩ := okWide_slice ht hval
  obtain ⟨fuel, hf⟩ := h
  rcases open_ints ht he hc hf with ⟨hv, -⟩ | ⟨a, len, cap, zs, hv, hbase, hlen, hcap, hz, -, hcell, hwf⟩
  · simp [Value.cells] at hv
    obtain ⟨rfl, rfl, rfl⟩ := hv
    exact ⟨none, 0, 0, [], rfl, rfl, Reads.nil _ _ _, by simp⟩
  · simp [Value.cells] at hv
    obtain ⟨rfl, rfl, rfl⟩ := hv
    simp at hz
    refine ⟨some a, n, c, zs.take n, rfl, by rw [List.length_take]; omega, ?_, fun z hz' => hwf z (List.mem_of_mem_take hz')⟩
    intro k hk
    rw [List.length_map, List.length_take] at hk
    have hkz : k < zs.length := by omega
    have h1 := hcell k hkz
    have hs : a.spot = none := by
      have h0 := hcell 0 (by omega)
      cases hsp : a.spot with
      | none => rfl
      | some s =>
        have : (a.add 0) = a := by unfold Addr.add; simp
        rw [this] at h0
        unfold World.cell? at h0
        rw [hsp] at h0
        split at h0 <;> simp at h0
    obtain ⟨g, o, sp⟩ := a
    simp at hs
    subst hs
    have hadd : (⟨g, o, none⟩ : Addr).add k = ⟨g, o + k, none⟩ := add_plain ..
    rw [hadd] at h1
    refine ⟨g, o, rfl, World.block_lt_of_cell? W _ h1, ?_⟩
    rw [h1]
    simp [List.getD, hkz]
end
end Go.Proofs.Ytggflladheemoaa
