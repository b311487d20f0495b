/- Plain mathematics, merged. -/
import Derived.Test.YtefhhigcplemaaaGreatDoorSA
import Derived.Test.YtefhhigcplemaaaGreatDoorMG
import Derived.Test.YtefhhigcplemaaaGreatDoorC10d
import Derived.Test.YtefhhigcplemaaaGreatDoor2A
import Derived.Test.YtefhhigcplemaaaGreatDoorLw
import Derived.Deep.WholeRow
import Derived.Laws.Rows
/- Moves in memory: their cells, comparisons. -/
namespace Go.Proofs.YtefhhigcplemaaaGreatDoor
open Go.RowKit Go.ChangeShapes Go.WideShapes Go.ChangeAt
set_option linter.unusedVariables false
set_option linter.unusedSimpArgs false

/-- The cells of a move, of moves. -/
def mcl (m : Mv) : List Value := [vi m.1, vi m.2.1, vi m.2.2.1, vi m.2.2.2]
def mcells (ms : List Mv) : List Value := ms.flatMap mcl
theorem mcells_len (ms : List Mv) : (mcells ms).length = ms.length * 4 := by
  unfold mcells
  induction ms with
  | nil => rfl
  | cons m r ih => rw [List.flatMap_cons, List.length_append, ih, List.length_cons, Nat.add_mul]; show 4 + _ = _; omega
theorem mcells_append (xs ys : List Mv) : mcells (xs ++ ys) = mcells xs ++ mcells ys := by unfold mcells; rw [List.flatMap_append]
theorem mcells_take (ms : List Mv) (k : Nat) (hk : k ≤ ms.length) : (mcells ms).take (k * 4) = mcells (ms.take k) := by
  have e : mcells ms = mcells (ms.take k) ++ mcells (ms.drop k) := by rw [← mcells_append, List.take_append_drop]
  have hl : (mcells (ms.take k)).length = k * 4 := by rw [mcells_len, List.length_take, Nat.min_eq_left hk]
  rw [e, ← hl, List.take_left]
theorem mcells_drop (ms : List Mv) (k : Nat) (hk : k ≤ ms.length) : (mcells ms).drop (k * 4) = mcells (ms.drop k) := by
  have e : mcells ms = mcells (ms.take k) ++ mcells (ms.drop k) := by rw [← mcells_append, List.take_append_drop]
  have hl : (mcells (ms.take k)).length = k * 4 := by rw [mcells_len, List.length_take, Nat.min_eq_left hk]
  rw [e, ← hl, List.drop_left]
theorem mcells_at (ms : List Mv) (k : Nat) (m : Mv) (hm : ms[k]? = some m) : (mcells ms)[k * 4]? = some (vi m.1) ∧ (mcells ms)[k * 4 + 1]? = some (vi m.2.1) ∧ (mcells ms)[k * 4 + 2]? = some (vi m.2.2.1) ∧ (mcells ms)[k * 4 + 3]? = some (vi m.2.2.2) := by
  obtain ⟨hk, e⟩ := List.getElem?_eq_some_iff.1 hm
  have h1 : ∀ j, j < 4 → (mcells ms)[k * 4 + j]? = (mcl m)[j]? := fun j hj => by
    rw [← List.getElem?_drop, mcells_drop ms k (by omega), List.drop_eq_getElem_cons hk, e]
    unfold mcells
    rw [List.flatMap_cons, List.getElem?_append_left (by show j < 4; exact hj)]
  refine ⟨?_, ?_, ?_, ?_⟩
  · have := h1 0 (by omega); rw [Nat.add_zero] at this; rw [this]; rfl
  · rw [h1 1 (by omega)]; rfl
  · rw [h1 2 (by omega)]; rfl
  · rw [h1 3 (by omega)]; rfl
theorem Reads.at4 {w : World} {B : Nat} {A : Option Addr} {ms : List Mv} (h : Reads w B A (mcells ms)) {i : Nat} {m : Mv} (hm : ms[i]? = some m) :
    ∃ g o : Nat, A = some ⟨g, o, none⟩ ∧ g < B ∧ w.cell? ⟨g, o + i * 4, none⟩ = some (vi m.1) ∧ w.cell? ⟨g, o + i * 4 + 1, none⟩ = some (vi m.2.1) ∧ w.cell? ⟨g, o + i * 4 + 2, none⟩ = some (vi m.2.2.1) ∧ w.cell? ⟨g, o + i * 4 + 3, none⟩ = some (vi m.2.2.2) := by
  obtain ⟨c0, c1, c2, c3⟩ := mcells_at ms i m hm
  obtain ⟨g, o, e0, h0, x0⟩ := h.at_ c0
  obtain ⟨g1, o1, e1, -, x1⟩ := h.at_ c1
  obtain ⟨g2, o2, e2, -, x2⟩ := h.at_ c2
  obtain ⟨g3, o3, e3, -, x3⟩ := h.at_ c3
  rw [e0] at e1 e2 e3
  injection e1 with e1
  injection e2 with e2
  injection e3 with e3
  injection e1 with a1 b1
  injection e2 with a2 b2
  injection e3 with a3 b3
  subst a1 b1 a2 b2 a3 b3
  exact ⟨g, o, e0, h0, x0, by rw [Nat.add_assoc]; exact x1, by rw [Nat.add_assoc]; exact x2, by rw [Nat.add_assoc]; exact x3⟩
theorem mv_at {ms : List Mv} {k : Nat} {m : Mv} (h : ms[k]? = some m) : mcells (ms.take (k + 1)) = mcells (ms.take k) ++ mcl m := by
  obtain ⟨h1, e⟩ := List.getElem?_eq_some_iff.1 h
  rw [List.take_succ_eq_append_getElem h1, e, mcells_append]
  unfold mcells
  simp

theorem guard_mv (op : BinOp) (x y : Operand) (xs ys : Array Value) (w : World) : (eqGuard op 39 x y (.agg xs) (.agg ys)).run Tryz.prog w = .ok () w := run_eqGuard_agg w op _ x y xs ys (by kernel_rfl)
theorem eqin_fig (a b c d : Int) (w : World) : (Op.equalIn 9998 37 (.agg #[.int .i64 a, .int .i64 b]) (.agg #[.int .i64 c, .int .i64 d])).run Tryz.prog w = .ok (a == c && b == d) w := by
  rw [run_equalIn_agg (d := 9997) w _ _ _ (by kernel_rfl) (by kernel_rfl)]
  simp [Op.eqFields, Program.fieldsOf, Tryz.underlying37, Tryz.underlying2, go_sem]
  by_cases h1 : a = c <;> by_cases h2 : b = d <;> simp [h1, h2]
theorem eql_mv (a b c d a' b' c' d' : Int) (w : World) : (binOp .eql 39 (.agg #[.int .i64 (a), .int .i64 (b), .int .i64 (c), .int .i64 (d)]) (.agg #[.int .i64 (a'), .int .i64 (b'), .int .i64 (c'), .int .i64 (d')])).run Tryz.prog w = .ok (.bool (a == a' && (b == b' && (c == c' && d == d')))) w := by
  rw [run_eql_struct, run_equalIn_agg (d := 9999) w _ _ _ (by kernel_rfl) (by kernel_rfl)]
  simp [Op.eqFields, Program.fieldsOf, Tryz.underlying39, Tryz.underlying2, eqin_fig, go_sem]
  by_cases h1 : a = a' <;> by_cases h2 : b = b' <;> by_cases h3 : c = c' <;> by_cases h4 : d = d' <;> simp [h1, h2, h3, h4]
theorem neq_mv (a b c d a' b' c' d' : Int) (w : World) : (binOp .neq 39 (.agg #[.int .i64 (a), .int .i64 (b), .int .i64 (c), .int .i64 (d)]) (.agg #[.int .i64 (a'), .int .i64 (b'), .int .i64 (c'), .int .i64 (d')])).run Tryz.prog w = .ok (.bool (!(a == a' && (b == b' && (c == c' && d == d'))))) w := by
  rw [run_neq_struct, run_equalIn_agg (d := 9999) w _ _ _ (by kernel_rfl) (by kernel_rfl)]
  simp [Op.eqFields, Program.fieldsOf, Tryz.underlying39, Tryz.underlying2, eqin_fig, go_sem]
  by_cases h1 : a = a' <;> by_cases h2 : b = b' <;> by_cases h3 : c = c' <;> by_cases h4 : d = d' <;> simp [h1, h2, h3, h4]
end Go.Proofs.YtefhhigcplemaaaGreatDoor

/- Contracts of chapter 12: valid moves, codes of moves, the table of kinds. -/
namespace Go.Proofs.YtefhhigcplemaaaGreatDoor
open Go.RowKit
set_option linter.unusedVariables false
set_option linter.unusedSimpArgs false

section
attribute [local go_sem high] guard_fig eql_fig
set_option maxHeartbeats 2000000 in
theorem isMove_spec (k s d t : Int) (w : World) :
    Calls Tryz.prog 113 #[.agg #[.int .i64 (k), .int .i64 (s), .int .i64 (d), .int .i64 (t)]] w fun e w' => e = .returned (.bool (mvB (k, s, d, t))) ∧ Gr w w' := by
  have HS := Lib.hid (fun W => logScale_spec s W)
  have HF := Lib.hid (fun W => isFigure_spec d t W)
  rcases mv_kinds k with ⟨h1, h2⟩ | ⟨h1, h2⟩ | ⟨h1, h2, h3⟩
  · rw [mvB_fig h1]
    have hk := (mvF_iff k).1 h1
    clear h1 h2
    generalize lsc s = x at *
    generalize fg d t = y at *
    rcases (show k = 0 ∨ k = 1 ∨ k = 2 by omega) with rfl | rfl | rfl
    all_goals clear hk
    all_goals cases x
    all_goals
      go_enter Tryz.func113, Tryz.ntmps113
      go_wp2_with (first | (go_at_call 158; (with_reducible refine (HS.out _).mono ?_); rintro e w' ⟨rfl, rfl⟩) | (go_at_call 87; (with_reducible refine (HF.out _).mono ?_); rintro e w' ⟨rfl, kk, os, rfl⟩))
      go_ret
      exact ⟨rfl, (by repeat (first | with_reducible exact Gr.refl _ | with_reducible refine Gr.alloc ?_ _ | with_reducible refine Gr.gr ?_ _ _ | with_reducible refine Gr.drew ?_ | with_reducible refine Gr.drewN ?_ _))⟩
  · rw [mvB_pl h1 h2]
    have hk := (mvP_iff k).1 h2
    clear h1 h2
    generalize hx : (s == 0) = x at *
    rcases (show k = 3 ∨ k = 4 ∨ k = 5 ∨ k = 6 by omega) with rfl | rfl | rfl | rfl
    all_goals clear hk
    all_goals cases x
    all_goals
      go_enter Tryz.func113, Tryz.ntmps113
      go_wp2
      go_ret
      exact ⟨rfl, (by repeat (first | with_reducible exact Gr.refl _ | with_reducible refine Gr.alloc ?_ _ | with_reducible refine Gr.gr ?_ _ _ | with_reducible refine Gr.drew ?_ | with_reducible refine Gr.drewN ?_ _))⟩
  · rw [mvB_no h1 h2]
    have k0 : (k == 0) = false := by simp; omega
    have k1 : (k == 1) = false := by simp; omega
    have k2 : (k == 2) = false := by simp; omega
    have k3 : (k == 3) = false := by simp; omega
    have k4 : (k == 4) = false := by simp; omega
    have k5 : (k == 5) = false := by simp; omega
    have k6 : (k == 6) = false := by simp; omega
    clear h1 h2 h3
    go_enter Tryz.func113, Tryz.ntmps113
    go_wp2
    go_ret
    exact ⟨rfl, (by repeat (first | with_reducible exact Gr.refl _ | with_reducible refine Gr.alloc ?_ _ | with_reducible refine Gr.gr ?_ _ _ | with_reducible refine Gr.drew ?_ | with_reducible refine Gr.drewN ?_ _))⟩
end

theorem mcode_spec (M : Option Addr) (p cp : Nat) (ms : List Mv) (w : World) (hml : ms.length = p) (hp : p ≤ 16777216) (hM : Reads w w.heap.size M (mcells ms)) :
    Calls Tryz.prog 63 #[.slice M p cp] w fun e w' => e = .returned (.int .i64 (mvC ms)) ∧ Gr w w' := by
  have HL := Lib.hid hml
  have HM := Lib.hid hM
  have HI := Lib.hid (fun k s d t W => isMove_spec k s d t W)
  clear hml hM
  go_enter Tryz.func63, Tryz.ntmps63
  go_wp2
  go_loopw [3] (fun i wr => ∃ k : Nat, k ≤ p ∧ i = .int .i64 k ∧ Hid ((ms.take k).all mvB = true) ∧ Gr w wr) (fun i _ => p - (intOf i).toNat)
  case atStart => exact ⟨0, by omega, rfl, Lib.hid (by simp), Gr.refl _⟩
  case round =>
    obtain ⟨k, hk, rfl, HO, hG⟩ := hrel
    by_cases hlt : k < p
    · obtain ⟨m, hm⟩ := some_at (l := ms) (k := k) (by rw [HL.out]; exact hlt)
      obtain ⟨g, o, rfl, hg, x0, x1, x2, x3⟩ := (HM.out.gr hG).at4 hm
      have H := Lib.hid hm
      obtain ⟨mk, s, d, t⟩ := m
      simp only at x0 x1 x2 x3
      clear hm
      have HIk := Lib.hid (fun W => HI.out mk s d t W)
      rcases mvB_tf (mk, s, d, t) with hb | hb
      · have HR := Lib.hid (all_snoc H.out HO.out hb)
        rw [hb] at HIk
        clear hb
        go_wp2_with (go_at_call 113; (with_reducible refine (HIk.out _).mono ?_); rintro e w2 ⟨rfl, hg2⟩)
        go_roundw
        case rel => exact ⟨k + 1, by omega, by go_num, HR, hG.trans hg2⟩
        case measure => simp [intOf]; omega
      · have HR := Lib.hid (mvC_bad H.out hb)
        rw [hb] at HIk
        clear hb
        go_wp2_with (go_at_call 113; (with_reducible refine (HIk.out _).mono ?_); rintro e w2 ⟨rfl, hg2⟩)
        go_ret
        exact ⟨ret_int HR.out.symm, hG.trans hg2⟩
    · obtain rfl : k = p := by omega
      have HA := Lib.hid (show ms.all mvB = true by have := HO.out; rwa [List.take_of_length_le (by rw [HL.out]; omega)] at this)
      by_cases hl : 30 < k
      · have HR := Lib.hid (mvC_long HA.out (by rw [HL.out]; exact hl))
        go_wp2
        go_ret
        exact ⟨ret_int HR.out.symm, hG⟩
      · have HR := Lib.hid (mvC_ok HA.out (by rw [HL.out]; omega))
        go_wp2
        go_ret
        exact ⟨ret_int HR.out.symm, hG⟩
theorem areMoves_spec (M : Option Addr) (p cp : Nat) (ms : List Mv) (w : World) (hml : ms.length = p) (hp : p ≤ 16777216) (hM : Reads w w.heap.size M (mcells ms)) :
    Calls Tryz.prog 17 #[.slice M p cp] w fun e w' => e = .returned (.bool (decide (mvC ms = 0))) ∧ Gr w w' := by
  have HC := Lib.hid (mcode_spec M p cp ms w hml hp hM)
  have hd : (mvC ms == 0) = decide (mvC ms = 0) := rfl
  generalize mvC ms = z at *
  clear hml hM
  go_enter Tryz.func17, Tryz.ntmps17
  go_wp2_with (go_at_call 63; (with_reducible refine (HC.out).mono ?_); rintro e w' ⟨rfl, hg⟩)
  go_ret
  exact ⟨by first | rfl | rw [hd], hg⟩

/-- The table of the kinds: its cells, its storing and its loading as one step. -/
def mkA : Array Value := #[.string ⟨#[80]⟩, .bool true, .func (.func 131) #[] #[], .string ⟨#[83]⟩, .bool true, .func (.func 132) #[] #[], .string ⟨#[84]⟩, .bool true, .func (.func 133) #[] #[], .string ⟨#[76]⟩, .bool false, .func (.func 135) #[] #[], .string ⟨#[82]⟩, .bool false, .func (.func 137) #[] #[], .string ⟨#[108]⟩, .bool false, .func (.func 138) #[] #[], .string ⟨#[114]⟩, .bool false, .func (.func 139) #[] #[]]
def mkV : Value := .agg mkA
theorem mkA_size : mkA.size = 21 := rfl
def stK (a : Addr) (l : List Value) : Sem Unit := storeCells a l 0
theorem storeCellsK (a : Addr) (x0 x1 x2 x3 x4 x5 x6 x7 x8 x9 x10 x11 x12 x13 x14 x15 x16 x17 x18 x19 x20 : Value) : storeCells a [x0, x1, x2, x3, x4, x5, x6, x7, x8, x9, x10, x11, x12, x13, x14, x15, x16, x17, x18, x19, x20] 0 = stK a [x0, x1, x2, x3, x4, x5, x6, x7, x8, x9, x10, x11, x12, x13, x14, x15, x16, x17, x18, x19, x20] := rfl
theorem run_stK (w : World) : (stK ⟨w.heap.size, 0, none⟩ [.string ⟨#[80]⟩, .bool true, .func (.func 131) #[] #[], .string ⟨#[83]⟩, .bool true, .func (.func 132) #[] #[], .string ⟨#[84]⟩, .bool true, .func (.func 133) #[] #[], .string ⟨#[76]⟩, .bool false, .func (.func 135) #[] #[], .string ⟨#[82]⟩, .bool false, .func (.func 137) #[] #[], .string ⟨#[108]⟩, .bool false, .func (.func 138) #[] #[], .string ⟨#[114]⟩, .bool false, .func (.func 139) #[] #[]]).run Tryz.prog (w.alloc (.cells #[.string ⟨#[]⟩, .bool false, .nilFunc, .string ⟨#[]⟩, .bool false, .nilFunc, .string ⟨#[]⟩, .bool false, .nilFunc, .string ⟨#[]⟩, .bool false, .nilFunc, .string ⟨#[]⟩, .bool false, .nilFunc, .string ⟨#[]⟩, .bool false, .nilFunc, .string ⟨#[]⟩, .bool false, .nilFunc] 108)) = .ok () (w.alloc (.cells mkA 108)) :=
  run_storeCells_new w 108 #[.string ⟨#[]⟩, .bool false, .nilFunc, .string ⟨#[]⟩, .bool false, .nilFunc, .string ⟨#[]⟩, .bool false, .nilFunc, .string ⟨#[]⟩, .bool false, .nilFunc, .string ⟨#[]⟩, .bool false, .nilFunc, .string ⟨#[]⟩, .bool false, .nilFunc, .string ⟨#[]⟩, .bool false, .nilFunc] mkA (by kernel_rfl) rfl (by kernel_rfl)
theorem run_stA (w : World) : (storeCells ⟨w.heap.size, 0, none⟩ mkA.toList 0).run Tryz.prog (w.alloc (.cells #[.string ⟨#[]⟩, .bool false, .nilFunc, .string ⟨#[]⟩, .bool false, .nilFunc, .string ⟨#[]⟩, .bool false, .nilFunc, .string ⟨#[]⟩, .bool false, .nilFunc, .string ⟨#[]⟩, .bool false, .nilFunc, .string ⟨#[]⟩, .bool false, .nilFunc, .string ⟨#[]⟩, .bool false, .nilFunc] 108)) = .ok () (w.alloc (.cells mkA 108)) :=
  run_storeCells_new w 108 #[.string ⟨#[]⟩, .bool false, .nilFunc, .string ⟨#[]⟩, .bool false, .nilFunc, .string ⟨#[]⟩, .bool false, .nilFunc, .string ⟨#[]⟩, .bool false, .nilFunc, .string ⟨#[]⟩, .bool false, .nilFunc, .string ⟨#[]⟩, .bool false, .nilFunc, .string ⟨#[]⟩, .bool false, .nilFunc] mkA (by kernel_rfl) rfl (by kernel_rfl)
section
attribute [local go_sem high] storeCellsK run_stK
set_option maxHeartbeats 4000000 in
set_option maxRecDepth 100000 in
theorem moveKinds_impl (w : World) : Calls Tryz.prog 77 #[] w fun e w' => e = .returned mkV ∧ Gr w w' := by
  go_enter Tryz.func77, Tryz.ntmps77
  go_wp2
  ((try simp only [Exit.inBlock, Exit.then]); refine bodyPost_ret (v := .agg mkA) (results_cell_row Tryz.results77 _ _ w.heap.size 108 mkA (0, 0) (.array 7 107) rfl (heap_alloc_last _ _) (by kernel_rfl) rfl (by kernel_rfl)) rfl ?_)
  exact ⟨rfl, (by repeat (first | with_reducible exact Gr.refl _ | with_reducible refine Gr.alloc ?_ _ | with_reducible refine Gr.gr ?_ _ _ | with_reducible refine Gr.drew ?_ | with_reducible refine Gr.drewN ?_ _))⟩
end
end Go.Proofs.YtefhhigcplemaaaGreatDoor

/- Contracts of chapter 12: the program's valid moves, codes and counts of moves. -/
namespace Go.Proofs.YtefhhigcplemaaaGreatDoor
open Go.RowKit
set_option linter.unusedVariables false
set_option linter.unusedSimpArgs false

theorem Blk.four {w : World} {g : Nat} {t : TypeId} {a b c d : Value} (h : Blk w g t #[a, b, c, d]) : w.cell? ⟨g, 0, none⟩ = some a ∧ w.cell? ⟨g, 1, none⟩ = some b ∧ w.cell? ⟨g, 2, none⟩ = some c ∧ w.cell? ⟨g, 3, none⟩ = some d ∧ (∀ i, w.frozen? ⟨g, i, none⟩ = false) := by
  have c0 := cell_of_row w g 0 _ _ _ h
  have c1 := cell_of_row w g 1 _ _ _ h
  have c2 := cell_of_row w g 2 _ _ _ h
  have c3 := cell_of_row w g 3 _ _ _ h
  simp at c0 c1 c2 c3
  exact ⟨c0, c1, c2, c3, fun i => free_row h i⟩
section
attribute [local go_sem high] guard_mv eql_mv
set_option maxHeartbeats 4000000 in
set_option maxRecDepth 100000 in
theorem isMove_impl (k s d t : Int) (w : World) :
    Calls Tryz.prog 118 #[.agg #[.int .i64 (k), .int .i64 (s), .int .i64 (d), .int .i64 (t)]] w fun e w' => e = .returned (.bool (mvB (k, s, d, t))) ∧ Gr w w' := by
  have HS := Lib.hid (fun W => logScale_impl s W)
  have HF := Lib.hid (fun W => isFigure_impl d t W)
  have HMK := Lib.hid (fun W => moveKinds_impl W)
  have P := Blk.new w 39 #[.int .i64 k, .int .i64 s, .int .i64 d, .int .i64 t]
  have hG : Gr w (w.alloc (.cells #[.int .i64 k, .int .i64 s, .int .i64 d, .int .i64 t] 39)) := (by repeat (first | with_reducible exact Gr.refl _ | with_reducible refine Gr.alloc ?_ _ | with_reducible refine Gr.gr ?_ _ _ | with_reducible refine Gr.drew ?_ | with_reducible refine Gr.drewN ?_ _))
  rcases mv_kinds k with ⟨h1, h2⟩ | ⟨h1, h2⟩ | ⟨h1, h2, h3⟩
  · rw [mvB_fig h1]
    have hk := (mvF_iff k).1 h1
    clear h1 h2
    generalize lsc s = x at *
    generalize fg d t = y at *
    rcases (show k = 0 ∨ k = 1 ∨ k = 2 by omega) with rfl | rfl | rfl
    all_goals clear hk
    all_goals
      go_enter Tryz.func118, Tryz.ntmps118
      go_wp2_with fail
      generalize w.alloc (.cells #[.int .i64 _, .int .i64 s, .int .i64 d, .int .i64 t] 39) = v at *
      have HP := Lib.hid P
      obtain ⟨p0, p1, p2, p3, -⟩ := P.four
      clear P
      go_wp2_with fail
      clear p0 p1 p2 p3
      refine region_grows [(0, .is mkV)] (by kernel_rfl) (by kernel_rfl) ?_
      (refine lz_many _ rfl (fun K hK => ?_); refine ⟨rfl, fun wz hz ha => ?_, fun vz wz hz hf => ?_⟩; (focus (go_simp; exact lg_call hz (HMK.out _))); (obtain rfl := hf; clear hz wz; go_simp; refine hK _ _ ?_; clear hK K))
      (refine lz_one rfl (fun K hK => ?_); refine ⟨rfl, ?_⟩; apply Exists.intro; refine ⟨fun wz hz => ?_, ?_⟩; (focus (skip; go_simp; (first | done | exact ⟨rfl, rfl⟩ | trivial))); (go_simp; refine hK _ _ ?_; clear hK K))
      (refine lz_one rfl (fun K hK => ?_); refine ⟨rfl, ?_⟩; apply Exists.intro; refine ⟨fun wz hz => ?_, ?_⟩; (focus (obtain ⟨p0, p1, p2, p3, -⟩ := (HP.out.gr hz).four; go_simp; (first | done | exact ⟨rfl, rfl⟩ | trivial))); (go_simp; refine hK _ _ ?_; clear hK K))
      (refine lz_one rfl (fun K hK => ?_); refine ⟨rfl, ?_⟩; apply Exists.intro; refine ⟨fun wz hz => ?_, ?_⟩; (focus (unfold mkV; go_simp; (first | done | exact ⟨rfl, rfl⟩ | trivial))); (go_simp; refine hK _ _ ?_; clear hK K))
      (refine lz_one rfl (fun K hK => ?_); refine ⟨rfl, ?_⟩; apply Exists.intro; refine ⟨fun wz hz => ?_, ?_⟩; (focus (skip; go_simp; (first | done | exact ⟨rfl, rfl⟩ | trivial))); (go_simp; refine hK _ _ ?_; clear hK K))
      (refine lz_one rfl (fun K hK => ?_); refine ⟨rfl, ?_⟩; apply Exists.intro; refine ⟨fun wz hz => ?_, ?_⟩; (focus (skip; go_simp; (first | done | exact ⟨rfl, rfl⟩ | trivial))); (go_simp; refine hK _ _ ?_; clear hK K))
      refine lz_nil ?_
      intro w3 hz hgg
      clear hgg
      obtain ⟨p0, p1, p2, p3, -⟩ := (HP.out.gr hz).four
      cases x
      all_goals
        go_wp2_with (first | (go_at_call 153; (with_reducible refine (HS.out _).mono ?_); rintro e w' ⟨rfl, rfl⟩) | (go_at_call 82; (with_reducible refine (HF.out _).mono ?_); rintro e w' ⟨rfl, kk, os, rfl⟩))
        go_ret
        exact ⟨rfl, (hG.trans hz).trans (by repeat (first | with_reducible exact Gr.refl _ | with_reducible refine Gr.alloc ?_ _ | with_reducible refine Gr.gr ?_ _ _ | with_reducible refine Gr.drew ?_ | with_reducible refine Gr.drewN ?_ _))⟩
  · rw [mvB_pl h1 h2]
    have hk := (mvP_iff k).1 h2
    clear h1 h2
    generalize hx : (s == 0) = x at *
    generalize hy : (d == 0) = y at *
    generalize hz0 : (t == 0) = z at *
    rcases (show k = 3 ∨ k = 4 ∨ k = 5 ∨ k = 6 by omega) with rfl | rfl | rfl | rfl
    all_goals clear hk
    all_goals
      go_enter Tryz.func118, Tryz.ntmps118
      go_wp2_with fail
      generalize w.alloc (.cells #[.int .i64 _, .int .i64 s, .int .i64 d, .int .i64 t] 39) = v at *
      have HP := Lib.hid P
      obtain ⟨p0, p1, p2, p3, -⟩ := P.four
      clear P
      go_wp2_with fail
      clear p0 p1 p2 p3
      refine region_grows [(0, .is mkV)] (by kernel_rfl) (by kernel_rfl) ?_
      (refine lz_many _ rfl (fun K hK => ?_); refine ⟨rfl, fun wz hz ha => ?_, fun vz wz hz hf => ?_⟩; (focus (go_simp; exact lg_call hz (HMK.out _))); (obtain rfl := hf; clear hz wz; go_simp; refine hK _ _ ?_; clear hK K))
      (refine lz_one rfl (fun K hK => ?_); refine ⟨rfl, ?_⟩; apply Exists.intro; refine ⟨fun wz hz => ?_, ?_⟩; (focus (skip; go_simp; (first | done | exact ⟨rfl, rfl⟩ | trivial))); (go_simp; refine hK _ _ ?_; clear hK K))
      (refine lz_one rfl (fun K hK => ?_); refine ⟨rfl, ?_⟩; apply Exists.intro; refine ⟨fun wz hz => ?_, ?_⟩; (focus (obtain ⟨p0, p1, p2, p3, -⟩ := (HP.out.gr hz).four; go_simp; (first | done | exact ⟨rfl, rfl⟩ | trivial))); (go_simp; refine hK _ _ ?_; clear hK K))
      (refine lz_one rfl (fun K hK => ?_); refine ⟨rfl, ?_⟩; apply Exists.intro; refine ⟨fun wz hz => ?_, ?_⟩; (focus (unfold mkV; go_simp; (first | done | exact ⟨rfl, rfl⟩ | trivial))); (go_simp; refine hK _ _ ?_; clear hK K))
      (refine lz_one rfl (fun K hK => ?_); refine ⟨rfl, ?_⟩; apply Exists.intro; refine ⟨fun wz hz => ?_, ?_⟩; (focus (skip; go_simp; (first | done | exact ⟨rfl, rfl⟩ | trivial))); (go_simp; refine hK _ _ ?_; clear hK K))
      (refine lz_one rfl (fun K hK => ?_); refine ⟨rfl, ?_⟩; apply Exists.intro; refine ⟨fun wz hz => ?_, ?_⟩; (focus (skip; go_simp; (first | done | exact ⟨rfl, rfl⟩ | trivial))); (go_simp; refine hK _ _ ?_; clear hK K))
      refine lz_nil ?_
      intro w3 hz hgg
      clear hgg
      obtain ⟨p0, p1, p2, p3, -⟩ := (HP.out.gr hz).four
      go_wp2
      go_ret
      exact ⟨by simp [hx, hy, hz0], hG.trans hz⟩
  · rw [mvB_no h1 h2]
    clear h1 h2 P hG
    rcases h3 with h3 | h3
    · go_enter Tryz.func118, Tryz.ntmps118
      go_wp2
      go_ret
      exact ⟨rfl, (by repeat (first | with_reducible exact Gr.refl _ | with_reducible refine Gr.alloc ?_ _ | with_reducible refine Gr.gr ?_ _ _ | with_reducible refine Gr.drew ?_ | with_reducible refine Gr.drewN ?_ _))⟩
    · have h0 : ¬ (k < 0) := by omega
      go_enter Tryz.func118, Tryz.ntmps118
      go_wp2
      go_ret
      exact ⟨rfl, (by repeat (first | with_reducible exact Gr.refl _ | with_reducible refine Gr.alloc ?_ _ | with_reducible refine Gr.gr ?_ _ _ | with_reducible refine Gr.drew ?_ | with_reducible refine Gr.drewN ?_ _))⟩
end

theorem mcode_impl (M : Option Addr) (p cp : Nat) (ms : List Mv) (w : World) (hml : ms.length = p) (hp : p ≤ 16777216) (hM : Reads w w.heap.size M (mcells ms)) :
    Calls Tryz.prog 62 #[.slice M p cp] w fun e w' => e = .returned (.int .i64 (mvC ms)) ∧ Gr w w' := by
  have HL := Lib.hid hml
  have HM := Lib.hid hM
  have HI := Lib.hid (fun k s d t W => isMove_impl k s d t W)
  clear hml hM
  go_enter Tryz.func62, Tryz.ntmps62
  go_wp2
  go_loopw [7] (fun i wr => ∃ k : Nat, k ≤ p ∧ i = .int .i64 k ∧ Hid ((ms.take k).all mvB = true) ∧ Gr w wr) (fun i _ => p - (intOf i).toNat)
  case atStart => exact ⟨0, by omega, rfl, Lib.hid (by simp), Gr.refl _⟩
  case round =>
    obtain ⟨k, hk, rfl, HO, hG⟩ := hrel
    by_cases hlt : k < p
    · obtain ⟨m, hm⟩ := some_at (l := ms) (k := k) (by rw [HL.out]; exact hlt)
      obtain ⟨g, o, rfl, hg, x0, x1, x2, x3⟩ := (HM.out.gr hG).at4 hm
      have H := Lib.hid hm
      obtain ⟨mk, s, d, t⟩ := m
      simp only at x0 x1 x2 x3
      clear hm
      have HIk := Lib.hid (fun W => HI.out mk s d t W)
      rcases mvB_tf (mk, s, d, t) with hb | hb
      · have HR := Lib.hid (all_snoc H.out HO.out hb)
        rw [hb] at HIk
        clear hb
        go_wp2_with (go_at_call 118; (with_reducible refine (HIk.out _).mono ?_); rintro e w2 ⟨rfl, kk, os, rfl⟩)
        go_roundw
        case rel => exact ⟨k + 1, by omega, by go_num, HR, hG.trans (by repeat (first | with_reducible exact Gr.refl _ | with_reducible refine Gr.alloc ?_ _ | with_reducible refine Gr.gr ?_ _ _ | with_reducible refine Gr.drew ?_ | with_reducible refine Gr.drewN ?_ _))⟩
        case measure => simp [intOf]; omega
      · have HR := Lib.hid (mvC_bad H.out hb)
        rw [hb] at HIk
        clear hb
        go_wp2_with (go_at_call 118; (with_reducible refine (HIk.out _).mono ?_); rintro e w2 ⟨rfl, kk, os, rfl⟩)
        go_ret
        exact ⟨ret_int HR.out.symm, hG.trans (by repeat (first | with_reducible exact Gr.refl _ | with_reducible refine Gr.alloc ?_ _ | with_reducible refine Gr.gr ?_ _ _ | with_reducible refine Gr.drew ?_ | with_reducible refine Gr.drewN ?_ _))⟩
    · obtain rfl : k = p := by omega
      have HA := Lib.hid (show ms.all mvB = true by have := HO.out; rwa [List.take_of_length_le (by rw [HL.out]; omega)] at this)
      by_cases hl : 30 < k
      · have HR := Lib.hid (mvC_long HA.out (by rw [HL.out]; exact hl))
        go_wp2
        go_ret
        exact ⟨ret_int HR.out.symm, hG⟩
      · have HR := Lib.hid (mvC_ok HA.out (by rw [HL.out]; omega))
        go_wp2
        go_ret
        exact ⟨ret_int HR.out.symm, hG⟩
theorem areMoves_impl (M : Option Addr) (p cp : Nat) (ms : List Mv) (w : World) (hml : ms.length = p) (hp : p ≤ 16777216) (hM : Reads w w.heap.size M (mcells ms)) :
    Calls Tryz.prog 16 #[.slice M p cp] w fun e w' => e = .returned (.bool (decide (mvC ms = 0))) ∧ Gr w w' := by
  have HC := Lib.hid (mcode_impl M p cp ms w hml hp hM)
  have hd : (mvC ms == 0) = decide (mvC ms = 0) := rfl
  generalize mvC ms = z at *
  clear hml hM
  go_enter Tryz.func16, Tryz.ntmps16
  go_wp2_with (go_at_call 62; (with_reducible refine (HC.out).mono ?_); rintro e w' ⟨rfl, hg⟩)
  go_ret
  exact ⟨by first | rfl | rw [hd], hg⟩
end Go.Proofs.YtefhhigcplemaaaGreatDoor
