/- Contracts of chapter 7: graduations in the laws (copied, compared) and the model's validity. -/
import Derived.Test.YtdbeedfapkfibaaDoorC07a0
import Derived.Test.YtdbeedfapkfibaaDoorMC
namespace Go.Proofs.YtdbeedfapkfibaaDoor
open Go.RowKit
set_option linter.unusedVariables false
set_option linter.unusedSimpArgs false

theorem mkParts (n : Nat) (hn : n ≤ 16777216) (w : World) :
    (Instr.makeSlice 24 (.int .i64 (n : Int)) (.int .i64 (n : Int))).run Tryd.prog w = .ok (.slice (some ⟨w.heap.size, 0, none⟩) n n) (w.alloc (.cells (List.replicate (n * 3) (vi 0)).toArray 61)) :=
  run_mk3 (b := 24) Tryd.underlying24 (by kernel_rfl) (by omega) n hn w
theorem eqPart_same (a b c : Int) (w : World) :
    Calls Tryd.prog 70 #[.agg #[.int .i64 a, .int .i64 b, .int .i64 c], .agg #[.int .i64 a, .int .i64 b, .int .i64 c]] w fun e w' => e = .returned (.bool true) ∧ Gr w w' := by
  go_enter Tryd.func70, Tryd.ntmps70
  go_wp2
  go_ret
  exact ⟨rfl, (by repeat (first | with_reducible exact Gr.refl _ | with_reducible refine Gr.alloc ?_ _ | with_reducible refine Gr.gr ?_ _ _ | with_reducible refine Gr.drew ?_ | with_reducible refine Gr.drewN ?_ _))⟩

set_option maxHeartbeats 1000000 in
/-- Two lists with the same parts are equal. -/
theorem eqParts_same (A B : Option Addr) (n c d : Nat) (zs : List P3) (w : World) (hn : zs.length = n) (hN : n ≤ 16777216) (hA : Reads w w.heap.size A (cells3 zs)) (hB : Reads w w.heap.size B (cells3 zs)) :
    Calls Tryd.prog 27 #[.slice A n c, .slice B n d] w fun e w' => e = .returned (.bool true) ∧ Gr w w' := by
  have HL := Lib.hid hn
  have HA := Lib.hid hA
  have HB := Lib.hid hB
  clear hn hA hB
  go_enter Tryd.func27, Tryd.ntmps27
  go_wp2
  go_loopw [5] (fun i wr => ∃ k : Nat, k ≤ n ∧ i = .int .i64 k ∧ Gr w wr) (fun i _ => n - (intOf i).toNat)
  case atStart => exact ⟨0, by omega, rfl, Gr.refl _⟩
  case round =>
    obtain ⟨k, hk, rfl, hG⟩ := hrel
    by_cases hlt : k < n
    · obtain ⟨z, hz⟩ := some_at (l := zs) (k := k) (by rw [HL.out]; exact hlt)
      obtain ⟨g, o, rfl, hg, x0, x1, x2⟩ := (HA.out.gr hG).at3 hz
      obtain ⟨g2, o2, rfl, hg2, y0, y1, y2⟩ := (HB.out.gr hG).at3 hz
      have HG := Lib.hid hG
      clear hz hG
      obtain ⟨za, zb, zc⟩ := z
      simp only at x0 x1 x2 y0 y1 y2
      go_wp2
      ((first | refine region_gr_on (by kernel_rfl) (by kernel_rfl) ?_ | refine region_gr (by kernel_rfl) (by kernel_rfl) ?_); (repeat (quiet_step (exact Calls.gr_of (eqPart_same _ _ _ _)))); refine wpQuiet_nil ?_; intro _ hw'; obtain ⟨⟨kq, oq⟩, hw''⟩ := hw'; subst hw'')
      go_wp2
      go_roundw
      case rel => exact ⟨k + 1, by omega, by go_num, HG.out.trans (by repeat (first | with_reducible exact Gr.refl _ | with_reducible refine Gr.alloc ?_ _ | with_reducible refine Gr.gr ?_ _ _ | with_reducible refine Gr.drew ?_ | with_reducible refine Gr.drewN ?_ _))⟩
      case measure => simp [intOf]; omega
    · go_wp2
      go_ret
      exact ⟨rfl, hG⟩

set_option maxHeartbeats 4000000 in
/-- The model's validity. -/
theorem gd_spec (A : Option Addr) (n c : Nat) (zs : List P3) (w : World) (hn : zs.length = n) (hN : n ≤ 16777216) (hA : Reads w w.heap.size A (cells3 zs)) :
    Calls Tryd.prog 41 #[.slice A n c] w fun e w' => e = .returned (.bool (gd zs)) ∧ Gr w w' := by
  have HL := Lib.hid hn
  have HA := Lib.hid hA
  have HI := Lib.hid (fun W => in_any (n : Int) 1 12 W)
  clear hA
  by_cases hc : 1 ≤ n ∧ n ≤ 12
  · have HGd := Lib.hid (show gd zs = decide (gdE 1000 zs = some 10000) by unfold gd; rw [hn, decide_eq_true hc]; simp)
    rw [decide_eq_true (show (1 : Int) ≤ n ∧ (n : Int) ≤ 12 by omega)] at HI
    clear hn
    go_enter Tryd.func41, Tryd.ntmps41
    go_wp2_with (go_at_call 65; refine (HI.out _).mono ?_; rintro e w' ⟨rfl, rfl⟩)
    go_loopw [3, 4] (fun a i wr => ∃ (k : Nat) (b : Int), k ≤ n ∧ i = .int .i64 k ∧ a = .int .i64 b ∧ 1000 ≤ b ∧ b ≤ 10000 ∧ Hid (gdE 1000 (zs.take k) = some b) ∧ Gr w wr) (fun _ i _ => n - (intOf i).toNat)
    case atStart => exact ⟨0, 1000, by omega, rfl, rfl, by omega, by omega, Lib.hid (by simp [gdE]), Gr.refl _⟩
    case round =>
      obtain ⟨k, b, hk, rfl, rfl, b1, b2, hE, hG⟩ := hrel
      by_cases hlt : k < n
      · obtain ⟨z, hz⟩ := some_at (l := zs) (k := k) (by rw [HL.out]; exact hlt)
        obtain ⟨g, o, rfl, hg, x0, x1, x2⟩ := (HA.out.gr hG).at3 hz
        have HT := Lib.hid (gdE_take hz hE.out)
        have HP := Lib.hid (ptOk_iff b z)
        obtain ⟨za, zb, zc⟩ := z
        simp only at x0 x1 x2 HT HP
        have HJ := Lib.hid (fun W => in_any zb (b + 1) 10000 W)
        clear hz
        have hno : ptOk b (za, zb, zc) = false → gd zs = false := fun ho => by rw [HGd.out, HT.out.2 ho]; rfl
        have HNO := Lib.hid hno
        clear hno
        by_cases q1 : za = b
        rotate_left
        · have HQ := Lib.hid (HNO.out (by cases hp : ptOk b (za, zb, zc); rfl; exact absurd (HP.out.1 hp).1 q1))
          go_wp2
          go_ret
          exact ⟨ret_bool HQ.out.symm, hG.trans (by repeat (first | with_reducible exact Gr.refl _ | with_reducible refine Gr.alloc ?_ _ | with_reducible refine Gr.gr ?_ _ _ | with_reducible refine Gr.drew ?_ | with_reducible refine Gr.drewN ?_ _))⟩
        subst q1
        by_cases q2 : za + 1 ≤ zb ∧ zb ≤ 10000
        rotate_left
        · have HQ := Lib.hid (HNO.out (by cases hp : ptOk za (za, zb, zc); rfl; exact absurd ⟨(HP.out.1 hp).2.1, (HP.out.1 hp).2.2.1⟩ q2))
          rw [decide_eq_false q2] at HJ
          go_wp2_with (go_at_call 65; refine (HJ.out _).mono ?_; rintro e w' ⟨rfl, rfl⟩)
          go_ret
          exact ⟨ret_bool HQ.out.symm, hG.trans (by repeat (first | with_reducible exact Gr.refl _ | with_reducible refine Gr.alloc ?_ _ | with_reducible refine Gr.gr ?_ _ _ | with_reducible refine Gr.drew ?_ | with_reducible refine Gr.drewN ?_ _))⟩
        rw [decide_eq_true q2] at HJ
        obtain ⟨q2a, q2b⟩ := q2
        by_cases q3 : 1 ≤ zc
        rotate_left
        · have HQ := Lib.hid (HNO.out (by cases hp : ptOk za (za, zb, zc); rfl; exact absurd (HP.out.1 hp).2.2.2.1 q3))
          go_wp2_with (go_at_call 65; refine (HJ.out _).mono ?_; rintro e w' ⟨rfl, rfl⟩)
          go_ret
          exact ⟨ret_bool HQ.out.symm, hG.trans (by repeat (first | with_reducible exact Gr.refl _ | with_reducible refine Gr.alloc ?_ _ | with_reducible refine Gr.gr ?_ _ _ | with_reducible refine Gr.drew ?_ | with_reducible refine Gr.drewN ?_ _))⟩
        by_cases q4 : (zb - za).tmod zc = 0
        rotate_left
        · have HQ := Lib.hid (HNO.out (by cases hp : ptOk za (za, zb, zc); rfl; exact absurd (HP.out.1 hp).2.2.2.2 q4))
          have q5 : ((zb - za) % zc != 0) = true := by rw [Int.tmod_eq_emod_of_nonneg (by omega)] at q4; simpa using q4
          go_wp2_with (go_at_call 65; refine (HJ.out _).mono ?_; rintro e w' ⟨rfl, rfl⟩)
          go_ret
          exact ⟨ret_bool HQ.out.symm, hG.trans (by repeat (first | with_reducible exact Gr.refl _ | with_reducible refine Gr.alloc ?_ _ | with_reducible refine Gr.gr ?_ _ _ | with_reducible refine Gr.drew ?_ | with_reducible refine Gr.drewN ?_ _))⟩
        · have HQ := Lib.hid (HT.out.1 (HP.out.2 ⟨rfl, q2a, q2b, q3, q4⟩))
          have q5 : ((zb - za) % zc != 0) = false := by rw [Int.tmod_eq_emod_of_nonneg (by omega)] at q4; simpa using q4
          go_wp2_with (go_at_call 65; refine (HJ.out _).mono ?_; rintro e w' ⟨rfl, rfl⟩)
          go_roundw
          case rel => exact ⟨k + 1, zb, by omega, by go_num, rfl, by omega, by omega, HQ, hG.trans (by repeat (first | with_reducible exact Gr.refl _ | with_reducible refine Gr.alloc ?_ _ | with_reducible refine Gr.gr ?_ _ _ | with_reducible refine Gr.drew ?_ | with_reducible refine Gr.drewN ?_ _))⟩
          case measure => simp [intOf]; omega
      · obtain rfl : k = n := by omega
        have HF := Lib.hid (show zs.take k = zs from List.take_of_length_le (by rw [HL.out]; omega))
        have HQ := Lib.hid (show gd zs = decide (b = 10000) by rw [HGd.out, ← HF.out, hE.out]; simp)
        go_wp2
        go_ret
        exact ⟨ret_bool (by rw [HQ.out]; by_cases h : b = 10000 <;> simp [h]), hG⟩
  · have HQ := Lib.hid (show gd zs = false by unfold gd; rw [hn, decide_eq_false hc]; rfl)
    rw [decide_eq_false (show ¬ ((1 : Int) ≤ n ∧ (n : Int) ≤ 12) by omega)] at HI
    clear hn
    go_enter Tryd.func41, Tryd.ntmps41
    go_wp2_with (go_at_call 65; refine (HI.out _).mono ?_; rintro e w' ⟨rfl, rfl⟩)
    go_ret
    exact ⟨ret_bool HQ.out.symm, (by repeat (first | with_reducible exact Gr.refl _ | with_reducible refine Gr.alloc ?_ _ | with_reducible refine Gr.gr ?_ _ _ | with_reducible refine Gr.drew ?_ | with_reducible refine Gr.drewN ?_ _))⟩
end Go.Proofs.YtdbeedfapkfibaaDoor
