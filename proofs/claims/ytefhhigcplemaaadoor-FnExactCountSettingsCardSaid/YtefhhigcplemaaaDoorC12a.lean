/- Contracts of chapter 12: valid moves, codes of moves, the table of kinds. -/
import Derived.Test.YtefhhigcplemaaaDoorMv
import Derived.Test.YtefhhigcplemaaaDoorC10d
import Derived.Test.YtefhhigcplemaaaDoor2A
import Derived.Test.YtefhhigcplemaaaDoorLw
import Derived.Deep.WholeRow
import Derived.Laws.Rows
namespace Go.Proofs.YtefhhigcplemaaaDoor
open Go.RowKit
set_option linter.unusedVariables false
set_option linter.unusedSimpArgs false

section
attribute [local go_sem high] guard_fig eql_fig
set_option maxHeartbeats 2000000 in
theorem isMove_spec (k s d t : Int) (w : World) :
    Calls Tryd.prog 64 #[.agg #[.int .i64 (k), .int .i64 (s), .int .i64 (d), .int .i64 (t)]] w fun e w' => e = .returned (.bool (mvB (k, s, d, t))) ∧ Gr w w' := by
  have HS := Lib.hid (fun W => logScale_spec s W)
  have HF := Lib.hid (fun W => isFigure_spec d t W)
  rcases mv_kinds k with ⟨h1, h2⟩ | ⟨h1, h2⟩ | ⟨h1, h2, h3⟩
  · rw [mvB_fig h1]
    have hk := (mvF_iff k).1 h1
    clear h1 h2
    generalize lsc s = x at *
    generalize fg d t = y at *
    rcases (show k = 0 ∨ k = 1 ∨ k = 2 by omega) with rfl | rfl | rfl
    all_goals clear hk
    all_goals cases x
    all_goals
      go_enter Tryd.func64, Tryd.ntmps64
      go_wp2_with (first | (go_at_call 103; (with_reducible refine (HS.out _).mono ?_); rintro e w' ⟨rfl, rfl⟩) | (go_at_call 104; (with_reducible refine (HF.out _).mono ?_); rintro e w' ⟨rfl, kk, os, rfl⟩))
      go_ret
      exact ⟨rfl, (by repeat (first | with_reducible exact Gr.refl _ | with_reducible refine Gr.alloc ?_ _ | with_reducible refine Gr.gr ?_ _ _ | with_reducible refine Gr.drew ?_ | with_reducible refine Gr.drewN ?_ _))⟩
  · rw [mvB_pl h1 h2]
    have hk := (mvP_iff k).1 h2
    clear h1 h2
    generalize hx : (s == 0) = x at *
    rcases (show k = 3 ∨ k = 4 ∨ k = 5 ∨ k = 6 by omega) with rfl | rfl | rfl | rfl
    all_goals clear hk
    all_goals cases x
    all_goals
      go_enter Tryd.func64, Tryd.ntmps64
      go_wp2
      go_ret
      exact ⟨rfl, (by repeat (first | with_reducible exact Gr.refl _ | with_reducible refine Gr.alloc ?_ _ | with_reducible refine Gr.gr ?_ _ _ | with_reducible refine Gr.drew ?_ | with_reducible refine Gr.drewN ?_ _))⟩
  · rw [mvB_no h1 h2]
    have k0 : (k == 0) = false := by simp; omega
    have k1 : (k == 1) = false := by simp; omega
    have k2 : (k == 2) = false := by simp; omega
    have k3 : (k == 3) = false := by simp; omega
    have k4 : (k == 4) = false := by simp; omega
    have k5 : (k == 5) = false := by simp; omega
    have k6 : (k == 6) = false := by simp; omega
    clear h1 h2 h3
    go_enter Tryd.func64, Tryd.ntmps64
    go_wp2
    go_ret
    exact ⟨rfl, (by repeat (first | with_reducible exact Gr.refl _ | with_reducible refine Gr.alloc ?_ _ | with_reducible refine Gr.gr ?_ _ _ | with_reducible refine Gr.drew ?_ | with_reducible refine Gr.drewN ?_ _))⟩
end

theorem mcode_spec (M : Option Addr) (p cp : Nat) (ms : List Mv) (w : World) (hml : ms.length = p) (hp : p ≤ 16777216) (hM : Reads w w.heap.size M (mcells ms)) :
    Calls Tryd.prog 38 #[.slice M p cp] w fun e w' => e = .returned (.int .i64 (mvC ms)) ∧ Gr w w' := by
  have HL := Lib.hid hml
  have HM := Lib.hid hM
  have HI := Lib.hid (fun k s d t W => isMove_spec k s d t W)
  clear hml hM
  go_enter Tryd.func38, Tryd.ntmps38
  go_wp2
  go_loopw [3] (fun i wr => ∃ k : Nat, k ≤ p ∧ i = .int .i64 k ∧ Hid ((ms.take k).all mvB = true) ∧ Gr w wr) (fun i _ => p - (intOf i).toNat)
  case atStart => exact ⟨0, by omega, rfl, Lib.hid (by simp), Gr.refl _⟩
  case round =>
    obtain ⟨k, hk, rfl, HO, hG⟩ := hrel
    by_cases hlt : k < p
    · obtain ⟨m, hm⟩ := some_at (l := ms) (k := k) (by rw [HL.out]; exact hlt)
      obtain ⟨g, o, rfl, hg, x0, x1, x2, x3⟩ := (HM.out.gr hG).at4 hm
      have H := Lib.hid hm
      obtain ⟨mk, s, d, t⟩ := m
      simp only at x0 x1 x2 x3
      clear hm
      have HIk := Lib.hid (fun W => HI.out mk s d t W)
      rcases mvB_tf (mk, s, d, t) with hb | hb
      · have HR := Lib.hid (all_snoc H.out HO.out hb)
        rw [hb] at HIk
        clear hb
        go_wp2_with (go_at_call 64; (with_reducible refine (HIk.out _).mono ?_); rintro e w2 ⟨rfl, hg2⟩)
        go_roundw
        case rel => exact ⟨k + 1, by omega, by go_num, HR, hG.trans hg2⟩
        case measure => simp [intOf]; omega
      · have HR := Lib.hid (mvC_bad H.out hb)
        rw [hb] at HIk
        clear hb
        go_wp2_with (go_at_call 64; (with_reducible refine (HIk.out _).mono ?_); rintro e w2 ⟨rfl, hg2⟩)
        go_ret
        exact ⟨ret_int HR.out.symm, hG.trans hg2⟩
    · obtain rfl : k = p := by omega
      have HA := Lib.hid (show ms.all mvB = true by have := HO.out; rwa [List.take_of_length_le (by rw [HL.out]; omega)] at this)
      by_cases hl : 30 < k
      · have HR := Lib.hid (mvC_long HA.out (by rw [HL.out]; exact hl))
        go_wp2
        go_ret
        exact ⟨ret_int HR.out.symm, hG⟩
      · have HR := Lib.hid (mvC_ok HA.out (by rw [HL.out]; omega))
        go_wp2
        go_ret
        exact ⟨ret_int HR.out.symm, hG⟩
theorem areMoves_spec (M : Option Addr) (p cp : Nat) (ms : List Mv) (w : World) (hml : ms.length = p) (hp : p ≤ 16777216) (hM : Reads w w.heap.size M (mcells ms)) :
    Calls Tryd.prog 12 #[.slice M p cp] w fun e w' => e = .returned (.bool (decide (mvC ms = 0))) ∧ Gr w w' := by
  have HC := Lib.hid (mcode_spec M p cp ms w hml hp hM)
  have hd : (mvC ms == 0) = decide (mvC ms = 0) := rfl
  generalize mvC ms = z at *
  clear hml hM
  go_enter Tryd.func12, Tryd.ntmps12
  go_wp2_with (go_at_call 38; (with_reducible refine (HC.out).mono ?_); rintro e w' ⟨rfl, hg⟩)
  go_ret
  exact ⟨by first | rfl | rw [hd], hg⟩

/-- The table of the kinds: its cells, its storing and its loading as one step. -/
def mkA : Array Value := #[.string ⟨#[80]⟩, .bool true, .func (.func 74) #[] #[], .string ⟨#[83]⟩, .bool true, .func (.func 77) #[] #[], .string ⟨#[84]⟩, .bool true, .func (.func 79) #[] #[], .string ⟨#[76]⟩, .bool false, .func (.func 81) #[] #[], .string ⟨#[82]⟩, .bool false, .func (.func 83) #[] #[], .string ⟨#[108]⟩, .bool false, .func (.func 84) #[] #[], .string ⟨#[114]⟩, .bool false, .func (.func 85) #[] #[]]
def mkV : Value := .agg mkA
theorem mkA_size : mkA.size = 21 := rfl
def stK (a : Addr) (l : List Value) : Sem Unit := storeCells a l 0
theorem storeCellsK (a : Addr) (x0 x1 x2 x3 x4 x5 x6 x7 x8 x9 x10 x11 x12 x13 x14 x15 x16 x17 x18 x19 x20 : Value) : storeCells a [x0, x1, x2, x3, x4, x5, x6, x7, x8, x9, x10, x11, x12, x13, x14, x15, x16, x17, x18, x19, x20] 0 = stK a [x0, x1, x2, x3, x4, x5, x6, x7, x8, x9, x10, x11, x12, x13, x14, x15, x16, x17, x18, x19, x20] := rfl
theorem run_stK (w : World) : (stK ⟨w.heap.size, 0, none⟩ [.string ⟨#[80]⟩, .bool true, .func (.func 74) #[] #[], .string ⟨#[83]⟩, .bool true, .func (.func 77) #[] #[], .string ⟨#[84]⟩, .bool true, .func (.func 79) #[] #[], .string ⟨#[76]⟩, .bool false, .func (.func 81) #[] #[], .string ⟨#[82]⟩, .bool false, .func (.func 83) #[] #[], .string ⟨#[108]⟩, .bool false, .func (.func 84) #[] #[], .string ⟨#[114]⟩, .bool false, .func (.func 85) #[] #[]]).run Tryd.prog (w.alloc (.cells #[.string ⟨#[]⟩, .bool false, .nilFunc, .string ⟨#[]⟩, .bool false, .nilFunc, .string ⟨#[]⟩, .bool false, .nilFunc, .string ⟨#[]⟩, .bool false, .nilFunc, .string ⟨#[]⟩, .bool false, .nilFunc, .string ⟨#[]⟩, .bool false, .nilFunc, .string ⟨#[]⟩, .bool false, .nilFunc] 82)) = .ok () (w.alloc (.cells mkA 82)) :=
  run_storeCells_new w 82 #[.string ⟨#[]⟩, .bool false, .nilFunc, .string ⟨#[]⟩, .bool false, .nilFunc, .string ⟨#[]⟩, .bool false, .nilFunc, .string ⟨#[]⟩, .bool false, .nilFunc, .string ⟨#[]⟩, .bool false, .nilFunc, .string ⟨#[]⟩, .bool false, .nilFunc, .string ⟨#[]⟩, .bool false, .nilFunc] mkA (by kernel_rfl) rfl (by kernel_rfl)
theorem run_stA (w : World) : (storeCells ⟨w.heap.size, 0, none⟩ mkA.toList 0).run Tryd.prog (w.alloc (.cells #[.string ⟨#[]⟩, .bool false, .nilFunc, .string ⟨#[]⟩, .bool false, .nilFunc, .string ⟨#[]⟩, .bool false, .nilFunc, .string ⟨#[]⟩, .bool false, .nilFunc, .string ⟨#[]⟩, .bool false, .nilFunc, .string ⟨#[]⟩, .bool false, .nilFunc, .string ⟨#[]⟩, .bool false, .nilFunc] 82)) = .ok () (w.alloc (.cells mkA 82)) :=
  run_storeCells_new w 82 #[.string ⟨#[]⟩, .bool false, .nilFunc, .string ⟨#[]⟩, .bool false, .nilFunc, .string ⟨#[]⟩, .bool false, .nilFunc, .string ⟨#[]⟩, .bool false, .nilFunc, .string ⟨#[]⟩, .bool false, .nilFunc, .string ⟨#[]⟩, .bool false, .nilFunc, .string ⟨#[]⟩, .bool false, .nilFunc] mkA (by kernel_rfl) rfl (by kernel_rfl)
section
attribute [local go_sem high] storeCellsK run_stK
set_option maxHeartbeats 4000000 in
set_option maxRecDepth 100000 in
theorem moveKinds_impl (w : World) : Calls Tryd.prog 50 #[] w fun e w' => e = .returned mkV ∧ Gr w w' := by
  go_enter Tryd.func50, Tryd.ntmps50
  go_wp2
  ((try simp only [Exit.inBlock, Exit.then]); refine bodyPost_ret (v := .agg mkA) (results_cell_row Tryd.results50 _ _ w.heap.size 82 mkA (0, 0) (.array 7 81) rfl (heap_alloc_last _ _) (by kernel_rfl) rfl (by kernel_rfl)) rfl ?_)
  exact ⟨rfl, (by repeat (first | with_reducible exact Gr.refl _ | with_reducible refine Gr.alloc ?_ _ | with_reducible refine Gr.gr ?_ _ _ | with_reducible refine Gr.drew ?_ | with_reducible refine Gr.drewN ?_ _))⟩
end
end Go.Proofs.YtefhhigcplemaaaDoor
