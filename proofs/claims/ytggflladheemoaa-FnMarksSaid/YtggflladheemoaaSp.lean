/- Slices of structs of three integers: what they read as; an argument opened. -/
import Derived.Test.YtggflladheemoaaSl
import Derived.Deep.Slices
import Derived.Deep.Strs
namespace Go.Proofs.Ytggflladheemoaa
open Go.RowKit Go.ChangeShapes Go.WideShapes Go.ChangeAt
set_option linter.unusedVariables false
set_option linter.unusedSimpArgs false

abbrev P3 := Int × Int × Int
def cells3 (zs : List P3) : List Value := zs.flatMap fun p => [vi p.1, vi p.2.1, vi p.2.2]
theorem cells3_len : ∀ zs : List P3, (cells3 zs).length = zs.length * 3
  | [] => rfl
  | p :: r => by
    have := cells3_len r
    unfold cells3 at *
    rw [List.flatMap_cons, List.length_append, this]
    simp; omega
theorem cells3_at : ∀ (zs : List P3) (i : Nat) (p : P3), zs[i]? = some p → (cells3 zs)[i * 3]? = some (vi p.1) ∧ (cells3 zs)[i * 3 + 1]? = some (vi p.2.1) ∧ (cells3 zs)[i * 3 + 2]? = some (vi p.2.2)
  | [], i, p, h => by simp at h
  | q :: r, 0, p, h => by
    simp at h
    subst h
    unfold cells3
    rw [List.flatMap_cons]
    exact ⟨rfl, rfl, rfl⟩
  | q :: r, i + 1, p, h => by
    have ih := cells3_at r i p (by simpa using h)
    unfold cells3 at *
    rw [List.flatMap_cons, List.getElem?_append_right (by simp; omega), List.getElem?_append_right (by simp; omega), List.getElem?_append_right (by simp; omega)]
    simp only [List.length_cons, List.length_nil]
    rw [show (i + 1) * 3 - (0 + 1 + 1 + 1) = i * 3 by omega, show (i + 1) * 3 + 1 - (0 + 1 + 1 + 1) = i * 3 + 1 by omega, show (i + 1) * 3 + 2 - (0 + 1 + 1 + 1) = i * 3 + 2 by omega]
    exact ih
/-- The three cells of an element. -/
theorem Reads.at3 {w : World} {B : Nat} {A : Option Addr} {zs : List P3} (h : Reads w B A (cells3 zs)) {i : Nat} {p : P3} (hp : zs[i]? = some p) :
    ∃ g o : Nat, A = some ⟨g, o, none⟩ ∧ g < B ∧ w.cell? ⟨g, o + i * 3, none⟩ = some (vi p.1) ∧ w.cell? ⟨g, o + i * 3 + 1, none⟩ = some (vi p.2.1) ∧ w.cell? ⟨g, o + i * 3 + 2, none⟩ = some (vi p.2.2) := by
  obtain ⟨c0, c1, c2⟩ := cells3_at zs i p hp
  obtain ⟨g, o, e0, h0, x0⟩ := h.at_ c0
  obtain ⟨g1, o1, e1, -, x1⟩ := h.at_ c1
  obtain ⟨g2, o2, e2, -, x2⟩ := h.at_ c2
  rw [e0] at e1 e2
  injection e1 with e1
  injection e2 with e2
  injection e1 with a1 b1
  injection e2 with a2 b2
  subst a1 b1 a2 b2
  exact ⟨g, o, e0, h0, x0, by rw [Nat.add_assoc]; exact x1, by rw [Nat.add_assoc]; exact x2⟩
theorem cell_spot0 {w : World} {a : Addr} {x : Value} (h : w.cell? (a.add 0) = some x) : ∃ g o, a = ⟨g, o, none⟩ := by
  obtain ⟨g, o, sp⟩ := a
  cases sp with
  | none => exact ⟨g, o, rfl⟩
  | some s =>
    exfalso
    have e : (⟨g, o, some s⟩ : Addr).add 0 = ⟨g, o, some s⟩ := by unfold Addr.add; simp
    rw [e] at h
    unfold World.cell? at h
    split at h <;> simp at h

section
variable {P : Program} {H : Type} {enc : TypeId × Value → H} {W : World}
/-- A slice of structs of three integers, opened. -/
theorem open_p3 {t e : TypeId} {f0 f1 f2 : Field} {v : Value} {d : DataW H} {ps : List MemPlace} (ht : P.underlying t = some (.slice e)) (he : P.underlying e = some (.struct #[f0, f1, f2])) (ce : P.cellsOf e = 3)
    (o0 : f0.offset = 0) (o1 : f1.offset = 1) (o2 : f2.offset = 2) (k0 : P.underlying f0.type = some (.int .i64)) (k1 : P.underlying f1.type = some (.int .i64)) (k2 : P.underlying f2.type = some (.int .i64))
    (c0 : P.cellsOf f0.type = 1) (c1 : P.cellsOf f1.type = 1) (c2 : P.cellsOf f2.type = 1) {r : Reach} {b0 : Nat}
    (hval : Value.okWide P W r b0 t v) (h : DataW.Trod enc P W 0 (fun _ => true) true t v d ps) :
    ∃ (A : Option Addr) (n c : Nat) (zs : List P3), v = .slice A n c ∧ zs.length = n ∧ Reads W W.heap.size A (cells3 zs) ∧ (∀ z ∈ zs, (Lit.int .i64 z.1).wf = true ∧ (Lit.int .i64 z.2.1).wf = true ∧ (Lit.int .i64 z.2.2).wf = true) ∧ n ≤ maxLen := by
  obtain ⟨A, n, c, rfl⟩ := okWide_slice ht hval
  obtain ⟨fuel, hf⟩ := h
  rcases Deep.open_slice ht hf with ⟨hv, -⟩ | ⟨a, len, cap, m, nn, D, Pl, hv, -, hl, hm, hmm, -, hx⟩
  · simp [Value.cells] at hv
    obtain ⟨rfl, rfl, rfl⟩ := hv
    exact ⟨none, 0, 0, [], rfl, rfl, Reads.nil _ _ _, by simp, by simp⟩
  · simp [Value.cells] at hv
    obtain ⟨rfl, rfl, rfl⟩ := hv
    simp at hmm
    subst hmm
    rcases Nat.eq_zero_or_pos n with hn0 | hn0
    · subst hn0
      exact ⟨some a, 0, _, [], rfl, rfl, Reads.nil _ _ _, by simp, by simp⟩
    obtain ⟨g, o, rfl⟩ : ∃ g o, a = ⟨g, o, none⟩ := by
      obtain ⟨cs', h1, -⟩ := hx 0 (by omega)
      rw [ce] at h1
      obtain ⟨_, hlen, hcell⟩ := World.cells?_some h1
      have q0 := hcell 0 (by omega)
      rw [Deep.add_add] at q0
      simp only [Nat.zero_mul, Nat.add_zero] at q0
      match cs', hlen with
      | [v0, v1, v2], _ => exact cell_spot0 (x := v0) (by simpa using q0)
    have each : ∀ i, i < n → ∃ p : P3, (W.cell? ⟨g, o + i * 3, none⟩ = some (vi p.1) ∧ W.cell? ⟨g, o + i * 3 + 1, none⟩ = some (vi p.2.1) ∧ W.cell? ⟨g, o + i * 3 + 2, none⟩ = some (vi p.2.2)) ∧
        ((Lit.int .i64 p.1).wf = true ∧ (Lit.int .i64 p.2.1).wf = true ∧ (Lit.int .i64 p.2.2).wf = true) := by
      intro i hi
      obtain ⟨cs', h1, h2⟩ := hx i (by omega)
      rw [ce] at h1
      obtain ⟨_, hlen, hcell⟩ := World.cells?_some h1
      obtain ⟨y0, y1, y2, k, -, -, t0, t1, t2⟩ := Deep.trod_struct3 he h2
      match cs', hlen with
      | [v0, v1, v2], _ =>
        rw [o0, c0] at t0
        rw [o1, c1] at t1
        rw [o2, c2] at t2
        simp at t0 t1 t2
        obtain ⟨z0, e0, -, w0⟩ := DataW.trod_int k0 t0
        obtain ⟨z1, e1, -, w1⟩ := DataW.trod_int k1 t1
        obtain ⟨z2, e2, -, w2⟩ := DataW.trod_int k2 t2
        simp at e0 e1 e2
        subst e0 e1 e2
        have q0 := hcell 0 (by omega)
        have q1 := hcell 1 (by omega)
        have q2 := hcell 2 (by omega)
        rw [Deep.add_add, add_plain] at q0 q1 q2
        exact ⟨(z0, z1, z2), ⟨by simpa using q0, by rw [Nat.add_assoc]; simpa using q1, by rw [Nat.add_assoc]; simpa using q2⟩, w0, w1, w2⟩
    obtain ⟨q, hq⟩ := Deep.choose_lt each
    have hget : ∀ i, i < n → ((List.range n).map q)[i]? = some (q i) := fun i hi => by simp [List.getElem?_map, List.getElem?_range hi]
    refine ⟨some ⟨g, o, none⟩, n, _, (List.range n).map q, rfl, by simp, ?_, fun z hz => ?_, by omega⟩
    · intro k hk
      rw [cells3_len, List.length_map, List.length_range] at hk
      have hi : k / 3 < n := by omega
      obtain ⟨⟨x0, x1, x2⟩, -⟩ := hq (k / 3) hi
      obtain ⟨y0, y1, y2⟩ := cells3_at _ _ _ (hget (k / 3) hi)
      rcases (show k = k / 3 * 3 ∨ k = k / 3 * 3 + 1 ∨ k = k / 3 * 3 + 2 by omega) with hk3 | hk3 | hk3
      all_goals
        refine ⟨g, o, rfl, World.block_lt_of_cell? W _ x0, ?_⟩
        have hkl : k < (cells3 ((List.range n).map q)).length := by rw [cells3_len, List.length_map, List.length_range]; omega
      · rw [← hk3, List.getElem?_eq_getElem hkl] at y0
        injection y0 with y0
        rw [← hk3] at x0
        rw [x0, ← y0]
      · rw [← hk3, List.getElem?_eq_getElem hkl] at y1
        injection y1 with y1
        rw [Nat.add_assoc, ← hk3] at x1
        rw [x1, ← y1]
      · rw [← hk3, List.getElem?_eq_getElem hkl] at y2
        injection y2 with y2
        rw [Nat.add_assoc, ← hk3] at x2
        rw [x2, ← y2]
    · obtain ⟨i, hi, rfl⟩ := List.mem_map.1 hz
      exact (hq i (List.mem_range.1 hi)).2
end
/-- k elements are filled in, the rest is nought. -/
def fill3 (zs : List P3) (k : Nat) : List Value := cells3 (zs.take k) ++ List.replicate ((zs.length - k) * 3) (vi 0)
theorem fill3_zero (zs : List P3) : fill3 zs 0 = List.replicate (zs.length * 3) (vi 0) := by simp [fill3, cells3]
theorem fill3_all (zs : List P3) : fill3 zs zs.length = cells3 zs := by simp [fill3]
theorem cells3_take_len (zs : List P3) (k : Nat) (h : k ≤ zs.length) : (cells3 (zs.take k)).length = k * 3 := by rw [cells3_len, List.length_take]; congr 1; omega
theorem fill3_split (zs : List P3) (k : Nat) (h : k < zs.length) : fill3 zs k = cells3 (zs.take k) ++ (vi 0 :: vi 0 :: vi 0 :: List.replicate ((zs.length - (k + 1)) * 3) (vi 0)) := by
  unfold fill3
  rw [show (zs.length - k) * 3 = (zs.length - (k + 1)) * 3 + 1 + 1 + 1 by omega, List.replicate_succ, List.replicate_succ, List.replicate_succ]
theorem fill3_at (zs : List P3) (k : Nat) (h : k < zs.length) : (fill3 zs k)[k * 3]? = some (vi 0) ∧ (fill3 zs k)[k * 3 + 1]? = some (vi 0) ∧ (fill3 zs k)[k * 3 + 2]? = some (vi 0) := by
  have hl := cells3_take_len zs k (by omega)
  rw [fill3_split zs k h, List.getElem?_append_right (by omega), List.getElem?_append_right (by omega), List.getElem?_append_right (by omega), hl,
    show k * 3 - k * 3 = 0 by omega, show k * 3 + 1 - k * 3 = 1 by omega, show k * 3 + 2 - k * 3 = 2 by omega]
  exact ⟨rfl, rfl, rfl⟩
theorem fill3_put (zs : List P3) (k : Nat) (p : P3) (hp : zs[k]? = some p) : (((fill3 zs k).set (k * 3) (vi p.1)).set (k * 3 + 1) (vi p.2.1)).set (k * 3 + 2) (vi p.2.2) = fill3 zs (k + 1) := by
  obtain ⟨hk, e⟩ := List.getElem?_eq_some_iff.1 hp
  have hl := cells3_take_len zs k (by omega)
  rw [fill3_split zs k hk, List.set_append_right _ _ (by omega), List.set_append_right _ _ (by omega), List.set_append_right _ _ (by omega), hl,
    show k * 3 - k * 3 = 0 by omega, show k * 3 + 1 - k * 3 = 1 by omega, show k * 3 + 2 - k * 3 = 2 by omega]
  simp only [List.set_cons_zero, List.set_cons_succ]
  unfold fill3
  rw [List.take_succ_eq_append_getElem hk, e]
  unfold cells3
  rw [List.flatMap_append, List.append_assoc]
  rfl
theorem made_rep3 (x : Value) (m : Nat) : madeCells #[x, x, x] m = (List.replicate m x).toArray := by
  apply Array.ext_getElem?
  intro i
  unfold madeCells
  by_cases h : i < m
  · have h3 : i % 3 = 0 ∨ i % 3 = 1 ∨ i % 3 = 2 := by omega
    rcases h3 with h3 | h3 | h3 <;> simp [h, h3]
  · simp [h]
/-- A made slice of structs of three integers, at every world. -/
theorem run_mk3 {P : Program} {t e : TypeId} {b : Nat} (ht : P.underlying t = some (.slice e)) (hi : (P.info? e).map (fun i => (i.zero, i.size, i.bytes)) = some (some (.agg #[vi 0, vi 0, vi 0]), 3, b)) (hb : b ≤ 64) (n : Nat) (hn : n ≤ 16777216) (w : World) :
    (Instr.makeSlice t (.int .i64 (n : Int)) (.int .i64 (n : Int))).run P w = .ok (.slice (some ⟨w.heap.size, 0, none⟩) n n) (w.alloc (.cells (List.replicate (n * 3) (vi 0)).toArray e)) := by
  obtain ⟨i0, hi, hz0, hz1, hz2⟩ := info_parts hi
  have hbb : (i0.bytes : Int) * (n : Int) ≤ 281474976710656 := by
    have h1 : i0.bytes * n ≤ 64 * 16777216 := Nat.mul_le_mul (by omega) hn
    have h2 : ((i0.bytes * n : Nat) : Int) ≤ 281474976710656 := by omega
    rwa [Int.natCast_mul] at h2
  have hr := run_make (P := P) w t e i0 _ ht hi hz0 .i64 .i64 n n (by omega) (Int.le_refl _) hbb (by omega)
  simp only [Int.toNat_natCast, hz1, Value.cells, made_rep3] at hr
  exact hr
end Go.Proofs.Ytggflladheemoaa
