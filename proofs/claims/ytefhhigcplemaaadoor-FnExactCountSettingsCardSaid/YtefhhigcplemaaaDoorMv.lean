/- Moves in memory: their cells, comparisons. -/
import Derived.Test.YtefhhigcplemaaaDoorSA
import Derived.Test.YtefhhigcplemaaaDoorM36
namespace Go.Proofs.YtefhhigcplemaaaDoor
open Go.RowKit Go.ChangeShapes Go.WideShapes Go.ChangeAt
set_option linter.unusedVariables false
set_option linter.unusedSimpArgs false

/-- The cells of a move, of moves. -/
def mcl (m : Mv) : List Value := [vi m.1, vi m.2.1, vi m.2.2.1, vi m.2.2.2]
def mcells (ms : List Mv) : List Value := ms.flatMap mcl
theorem mcells_len (ms : List Mv) : (mcells ms).length = ms.length * 4 := by
  unfold mcells
  induction ms with
  | nil => rfl
  | cons m r ih => rw [List.flatMap_cons, List.length_append, ih, List.length_cons, Nat.add_mul]; show 4 + _ = _; omega
theorem mcells_append (xs ys : List Mv) : mcells (xs ++ ys) = mcells xs ++ mcells ys := by unfold mcells; rw [List.flatMap_append]
theorem mcells_take (ms : List Mv) (k : Nat) (hk : k ≤ ms.length) : (mcells ms).take (k * 4) = mcells (ms.take k) := by
  have e : mcells ms = mcells (ms.take k) ++ mcells (ms.drop k) := by rw [← mcells_append, List.take_append_drop]
  have hl : (mcells (ms.take k)).length = k * 4 := by rw [mcells_len, List.length_take, Nat.min_eq_left hk]
  rw [e, ← hl, List.take_left]
theorem mcells_drop (ms : List Mv) (k : Nat) (hk : k ≤ ms.length) : (mcells ms).drop (k * 4) = mcells (ms.drop k) := by
  have e : mcells ms = mcells (ms.take k) ++ mcells (ms.drop k) := by rw [← mcells_append, List.take_append_drop]
  have hl : (mcells (ms.take k)).length = k * 4 := by rw [mcells_len, List.length_take, Nat.min_eq_left hk]
  rw [e, ← hl, List.drop_left]
theorem mcells_at (ms : List Mv) (k : Nat) (m : Mv) (hm : ms[k]? = some m) : (mcells ms)[k * 4]? = some (vi m.1) ∧ (mcells ms)[k * 4 + 1]? = some (vi m.2.1) ∧ (mcells ms)[k * 4 + 2]? = some (vi m.2.2.1) ∧ (mcells ms)[k * 4 + 3]? = some (vi m.2.2.2) := by
  obtain ⟨hk, e⟩ := List.getElem?_eq_some_iff.1 hm
  have h1 : ∀ j, j < 4 → (mcells ms)[k * 4 + j]? = (mcl m)[j]? := fun j hj => by
    rw [← List.getElem?_drop, mcells_drop ms k (by omega), List.drop_eq_getElem_cons hk, e]
    unfold mcells
    rw [List.flatMap_cons, List.getElem?_append_left (by show j < 4; exact hj)]
  refine ⟨?_, ?_, ?_, ?_⟩
  · have := h1 0 (by omega); rw [Nat.add_zero] at this; rw [this]; rfl
  · rw [h1 1 (by omega)]; rfl
  · rw [h1 2 (by omega)]; rfl
  · rw [h1 3 (by omega)]; rfl
theorem Reads.at4 {w : World} {B : Nat} {A : Option Addr} {ms : List Mv} (h : Reads w B A (mcells ms)) {i : Nat} {m : Mv} (hm : ms[i]? = some m) :
    ∃ g o : Nat, A = some ⟨g, o, none⟩ ∧ g < B ∧ w.cell? ⟨g, o + i * 4, none⟩ = some (vi m.1) ∧ w.cell? ⟨g, o + i * 4 + 1, none⟩ = some (vi m.2.1) ∧ w.cell? ⟨g, o + i * 4 + 2, none⟩ = some (vi m.2.2.1) ∧ w.cell? ⟨g, o + i * 4 + 3, none⟩ = some (vi m.2.2.2) := by
  obtain ⟨c0, c1, c2, c3⟩ := mcells_at ms i m hm
  obtain ⟨g, o, e0, h0, x0⟩ := h.at_ c0
  obtain ⟨g1, o1, e1, -, x1⟩ := h.at_ c1
  obtain ⟨g2, o2, e2, -, x2⟩ := h.at_ c2
  obtain ⟨g3, o3, e3, -, x3⟩ := h.at_ c3
  rw [e0] at e1 e2 e3
  injection e1 with e1
  injection e2 with e2
  injection e3 with e3
  injection e1 with a1 b1
  injection e2 with a2 b2
  injection e3 with a3 b3
  subst a1 b1 a2 b2 a3 b3
  exact ⟨g, o, e0, h0, x0, by rw [Nat.add_assoc]; exact x1, by rw [Nat.add_assoc]; exact x2, by rw [Nat.add_assoc]; exact x3⟩
theorem mv_at {ms : List Mv} {k : Nat} {m : Mv} (h : ms[k]? = some m) : mcells (ms.take (k + 1)) = mcells (ms.take k) ++ mcl m := by
  obtain ⟨h1, e⟩ := List.getElem?_eq_some_iff.1 h
  rw [List.take_succ_eq_append_getElem h1, e, mcells_append]
  unfold mcells
  simp

theorem guard_mv (op : BinOp) (x y : Operand) (xs ys : Array Value) (w : World) : (eqGuard op 47 x y (.agg xs) (.agg ys)).run Tryd.prog w = .ok () w := run_eqGuard_agg w op _ x y xs ys (by kernel_rfl)
theorem eqin_fig (a b c d : Int) (w : World) : (Op.equalIn 9998 45 (.agg #[.int .i64 a, .int .i64 b]) (.agg #[.int .i64 c, .int .i64 d])).run Tryd.prog w = .ok (a == c && b == d) w := by
  rw [run_equalIn_agg (d := 9997) w _ _ _ (by kernel_rfl) (by kernel_rfl)]
  simp [Op.eqFields, Program.fieldsOf, Tryd.underlying45, Tryd.underlying2, go_sem]
  by_cases h1 : a = c <;> by_cases h2 : b = d <;> simp [h1, h2]
theorem eql_mv (a b c d a' b' c' d' : Int) (w : World) : (binOp .eql 47 (.agg #[.int .i64 (a), .int .i64 (b), .int .i64 (c), .int .i64 (d)]) (.agg #[.int .i64 (a'), .int .i64 (b'), .int .i64 (c'), .int .i64 (d')])).run Tryd.prog w = .ok (.bool (a == a' && (b == b' && (c == c' && d == d')))) w := by
  rw [run_eql_struct, run_equalIn_agg (d := 9999) w _ _ _ (by kernel_rfl) (by kernel_rfl)]
  simp [Op.eqFields, Program.fieldsOf, Tryd.underlying47, Tryd.underlying2, eqin_fig, go_sem]
  by_cases h1 : a = a' <;> by_cases h2 : b = b' <;> by_cases h3 : c = c' <;> by_cases h4 : d = d' <;> simp [h1, h2, h3, h4]
theorem neq_mv (a b c d a' b' c' d' : Int) (w : World) : (binOp .neq 47 (.agg #[.int .i64 (a), .int .i64 (b), .int .i64 (c), .int .i64 (d)]) (.agg #[.int .i64 (a'), .int .i64 (b'), .int .i64 (c'), .int .i64 (d')])).run Tryd.prog w = .ok (.bool (!(a == a' && (b == b' && (c == c' && d == d'))))) w := by
  rw [run_neq_struct, run_equalIn_agg (d := 9999) w _ _ _ (by kernel_rfl) (by kernel_rfl)]
  simp [Op.eqFields, Program.fieldsOf, Tryd.underlying47, Tryd.underlying2, eqin_fig, go_sem]
  by_cases h1 : a = a' <;> by_cases h2 : b = b' <;> by_cases h3 : c = c' <;> by_cases h4 : d = d' <;> simp [h1, h2, h3, h4]
end Go.Proofs.YtefhhigcplemaaaDoor
