/- Contracts of chapter 12: the program's CountSettings. -/
import Derived.Test.YtefhhigcplemaaaDoorC12b
namespace Go.Proofs.YtefhhigcplemaaaDoor
open Go.RowKit
set_option linter.unusedVariables false
set_option linter.unusedSimpArgs false

/-- What the table holds: who looks for a figure. -/
theorem kinds_flags {w : World} {g : Nat} (h : Blk w g 82 mkA) : w.cell? ⟨g, 1, none⟩ = some (.bool true) ∧ w.cell? ⟨g, 4, none⟩ = some (.bool true) ∧ w.cell? ⟨g, 7, none⟩ = some (.bool true) ∧ w.cell? ⟨g, 10, none⟩ = some (.bool false) ∧ w.cell? ⟨g, 13, none⟩ = some (.bool false) ∧ w.cell? ⟨g, 16, none⟩ = some (.bool false) ∧ w.cell? ⟨g, 19, none⟩ = some (.bool false) := by
  refine ⟨?_, ?_, ?_, ?_, ?_, ?_, ?_⟩ <;> (rw [cell_of_row w g _ _ _ _ h]; rfl)
section
attribute [local go_sem high] storeCellsK run_stK run_stA mkA_size
set_option maxRecDepth 100000 in
set_option maxHeartbeats 4000000 in
theorem count_impl (M : Option Addr) (p cp : Nat) (ms : List Mv) (w : World) (hml : ms.length = p) (hp : p ≤ 16777216) (hM : Reads w w.heap.size M (mcells ms)) :
    Calls Tryd.prog 31 #[.slice M p cp] w fun e w' => e = .returned (.tuple #[.int .i64 (csR ms).1, .int .i64 (csR ms).2]) ∧ Gr w w' := by
  have HC := Lib.hid (mcode_impl M p cp ms w hml hp hM)
  by_cases h : mvC ms = 0
  rotate_left
  · have HR := Lib.hid (csR_code h)
    have hb : (mvC ms == 0) = false := by simpa using h
    generalize csR ms = R at *
    generalize mvC ms = z at *
    clear h hml hM
    go_enter Tryd.func31, Tryd.ntmps31
    go_wp2_with (go_at_call 39; (with_reducible refine (HC.out).mono ?_); rintro e w' ⟨rfl, hg⟩)
    go_ret2
    rw [HR.out]
    exact ⟨rfl, hg⟩
  have HR := Lib.hid (csR_ok h)
  have HV := Lib.hid (mvC_zero h).1
  have HL := Lib.hid hml
  have RM := Lib.hid hM
  have HK := Lib.hid (fun k => mvCt_bd ms k)
  have HMK := Lib.hid (fun W => moveKinds_impl W)
  rw [h] at HC
  unfold mkV at HMK
  clear h hml hM
  go_enter Tryd.func31, Tryd.ntmps31
  go_wp2_with (first | (go_at_call 39; (with_reducible refine (HC.out).mono ?_); rintro e w1 ⟨rfl, hg1⟩) | (go_at_call 50; (with_reducible refine (HMK.out w1).mono ?_); rintro e w2 ⟨rfl, hg2⟩))
  have hG2 := Lib.hid (hg1.trans hg2)
  go_loopw [6, 17] (fun x i wr => ∃ k : Nat, k ≤ p ∧ x = .int .i64 (mvCt (ms.take k)) ∧ i = .int .i64 k ∧ Blk wr w2.heap.size 82 mkA ∧ Gr w wr) (fun _ i _ => p - (intOf i).toNat)
  case atStart => exact ⟨0, by omega, rfl, rfl, Blk.new w2 _ _, hG2.out.alloc _⟩
  case round =>
    clear hg1 hg2
    obtain ⟨k, hk, rfl, rfl, hB, hG⟩ := hrel
    by_cases hlt : k < p
    · obtain ⟨mv, hmv⟩ := some_at (l := ms) (k := k) (by rw [HL.out]; exact hlt)
      obtain ⟨g, o, rfl, hg, x0, x1, x2, x3⟩ := (RM.out.gr hG).at4 hmv
      have hval := all_at HV.out hmv
      have HN := Lib.hid (mvCt_snoc hmv)
      have hb := HK.out k
      obtain ⟨mk, s, u, t⟩ := mv
      simp only at x0 x1 x2 x3
      generalize mvCt (ms.take k) = z at *
      obtain ⟨f0, f1, f2, f3, f4, f5, f6⟩ := kinds_flags hB
      have bl := hB.lt
      have HB := Lib.hid hB
      clear hB
      rcases mvB_cases hval with ⟨hk2, -, -⟩ | ⟨hk2, -⟩
      · have HN2 := Lib.hid (show mvCt (ms.take (k + 1)) = z + 1 by rw [HN.out, if_pos ((mvF_iff mk).2 (by omega))])
        clear hmv HN hval
        rcases hk2 with rfl | rfl | rfl
        all_goals
          go_wp2
          go_roundw
          case rel => exact ⟨k + 1, by omega, by rw [HN2.out], by go_num, HB.out.alloc _, hG.alloc _⟩
          case measure => simp [intOf]; omega
      · have HN2 := Lib.hid (show mvCt (ms.take (k + 1)) = z by rw [HN.out, if_neg (by intro h; have := (mvF_iff mk).1 h; omega), Int.add_zero])
        clear hmv HN hval
        rcases hk2 with rfl | rfl | rfl | rfl
        all_goals
          go_wp2
          go_roundw
          case rel => exact ⟨k + 1, by omega, by rw [HN2.out], by go_num, HB.out.alloc _, hG.alloc _⟩
          case measure => simp [intOf]; omega
    · obtain rfl : k = p := by omega
      have HE := Lib.hid (show ms.take k = ms from List.take_of_length_le (by rw [HL.out]; omega))
      rw [HE.out]
      generalize mvCt ms = z at *
      go_wp2
      go_ret2
      rw [HR.out]
      exact ⟨rfl, hG⟩
end
end Go.Proofs.YtefhhigcplemaaaDoor
