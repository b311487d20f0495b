/- Contracts of chapter 7: the program's validity, its count of marks, its marks. -/
import Derived.Test.YtjpkhbcomcailaaDoorC07d
import Derived.Test.YtjpkhbcomcailaaDoorM24
import Derived.Test.YtjpkhbcomcailaaDoorD1
namespace Go.Proofs.YtjpkhbcomcailaaDoor
open Go.RowKit
set_option linter.unusedVariables false
set_option linter.unusedSimpArgs false

theorem areDigits_any (d : Int) (w : World) :
    Calls Tryd.prog 119 #[.int .i64 d] w fun e w' => e = .returned (.bool (decide (1000 ≤ d ∧ d ≤ 9999))) ∧ w = w' := by
  by_cases h1 : 1000 ≤ d <;> by_cases h2 : d ≤ 9999
  all_goals
    go_enter Tryd.func119, Tryd.ntmps119
    go_wp2
    go_ret
    exact ⟨ret_bool (by simp [h1, h2]), rfl⟩
theorem distance_any (a b : Int) (w : World) (a1 : -4000000000000000000 ≤ a) (a2 : a ≤ 4000000000000000000) (b1 : -4000000000000000000 ≤ b) (b2 : b ≤ 4000000000000000000) :
    Calls Tryd.prog 68 #[.int .i64 a, .int .i64 b] w fun e w' => e = .returned (.int .i64 ((a - b).natAbs : Int)) ∧ w = w' := by
  have HM := Lib.hid (fun W => max_any (a - b) (b - a) W)
  have HE := Lib.hid (show (if a - b < b - a then b - a else a - b) = ((a - b).natAbs : Int) by split <;> omega)
  rw [HE.out] at HM
  go_enter Tryd.func68, Tryd.ntmps68
  go_wp2_with (go_at_call 84; refine (HM.out _).mono ?_; rintro e w' ⟨rfl, rfl⟩)
  go_ret
  exact ⟨rfl, rfl⟩

theorem isDivided_any (a b c : Int) (w : World) (h0 : 0 ≤ a) (h1 : a < b) (h2 : b ≤ 9223372036854775807) :
    Calls Tryd.prog 45 #[.agg #[.int .i64 a, .int .i64 b, .int .i64 c]] w fun e w' => e = .returned (.bool (dvd7 (a, b, c))) ∧ Gr w w' := by
  have HD := Lib.hid (show dvd7 (a, b, c) = decide (1 ≤ c ∧ (b - a).tmod c = 0) from rfl)
  have hw1 : IntKind.i64.wrap (b - a) = b - a := IntWalk.i64_in _ (by omega)
  by_cases q1 : 1 ≤ c
  rotate_left
  · have g1 : decide (1 ≤ c) = false := decide_eq_false q1
    have HQ := Lib.hid (show dvd7 (a, b, c) = false by rw [HD.out]; exact decide_eq_false (fun q => q1 q.1))
    go_enter Tryd.func45, Tryd.ntmps45
    go_wp2
    ((try simp only [Exit.inBlock, Exit.then]); refine bodyPost_ret (v := .bool false) (by simp [results, Tryd.results45, go_sem]) rfl ?_)
    exact ⟨ret_bool HQ.out.symm, (by repeat (first | with_reducible exact Gr.refl _ | with_reducible refine Gr.alloc ?_ _ | with_reducible refine Gr.gr ?_ _ _ | with_reducible refine Gr.drew ?_ | with_reducible refine Gr.drewN ?_ _))⟩
  have g1 : decide (1 ≤ c) = true := decide_eq_true q1
  have hz0 : (c == 0) = false := by simp; omega
  have hb := Int.emod_lt_of_pos (b - a) (show 0 < c by omega)
  have hb0 := Int.emod_nonneg (b - a) (show c ≠ 0 by omega)
  have he : (b - a).tmod c = (b - a) % c := Int.tmod_eq_emod_of_nonneg (by omega)
  by_cases q3 : (b - a) % c = 0
  · have HQ := Lib.hid (show dvd7 (a, b, c) = true by rw [HD.out]; exact decide_eq_true ⟨q1, by rw [he]; exact q3⟩)
    go_enter Tryd.func45, Tryd.ntmps45
    go_wp2
    ((try simp only [Exit.inBlock, Exit.then]); refine bodyPost_ret (v := .bool true) (by simp [results, Tryd.results45, go_sem]) rfl ?_)
    exact ⟨ret_bool HQ.out.symm, (by repeat (first | with_reducible exact Gr.refl _ | with_reducible refine Gr.alloc ?_ _ | with_reducible refine Gr.gr ?_ _ _ | with_reducible refine Gr.drew ?_ | with_reducible refine Gr.drewN ?_ _))⟩
  · have HQ := Lib.hid (show dvd7 (a, b, c) = false by rw [HD.out]; exact decide_eq_false (fun q => q3 (by rw [← he]; exact q.2)))
    have q5 : ((b - a) % c == 0) = false := by simpa using q3
    go_enter Tryd.func45, Tryd.ntmps45
    go_wp2
    ((try simp only [Exit.inBlock, Exit.then]); refine bodyPost_ret (v := .bool false) (by simp [results, Tryd.results45, go_sem]) rfl ?_)
    exact ⟨ret_bool HQ.out.symm, (by repeat (first | with_reducible exact Gr.refl _ | with_reducible refine Gr.alloc ?_ _ | with_reducible refine Gr.gr ?_ _ _ | with_reducible refine Gr.drew ?_ | with_reducible refine Gr.drewN ?_ _))⟩
theorem i64_bd {z : Int} (hw : (Lit.int .i64 z).wf = true) : -9223372036854775808 ≤ z ∧ z ≤ 9223372036854775807 := by
  simp only [Lit.wf, Bool.and_eq_true, decide_eq_true_eq] at hw
  have h1 : (-9223372036854775808 : Int) ≤ z := hw.1
  have h2 : z ≤ (9223372036854775807 : Int) := hw.2
  omega
/-- Every number of every part is an int64. -/
abbrev Wf3 (zs : List P3) : Prop := ∀ z ∈ zs, (Lit.int .i64 z.1).wf = true ∧ (Lit.int .i64 z.2.1).wf = true ∧ (Lit.int .i64 z.2.2).wf = true

set_option maxHeartbeats 4000000 in
/-- The program's validity. -/
theorem gd_impl (A : Option Addr) (n c : Nat) (zs : List P3) (w : World) (hn : zs.length = n) (hN : n ≤ 16777216) (hA : Reads w w.heap.size A (cells3 zs)) (hW : Wf3 zs) :
    Calls Tryd.prog 21 #[.slice A n c] w fun e w' => e = .returned (.bool (gd zs)) ∧ Gr w w' := by
  have HL := Lib.hid hn
  have HA := Lib.hid hA
  have HWF := Lib.hid hW
  clear hA hW
  by_cases hc : n ≤ 12
  · have HGd := Lib.hid (show gd zs = decide (gdJ 1000 zs = some 10000) by rw [gd_J, hn, decide_eq_true hc, Bool.true_and])
    clear hn
    go_enter Tryd.func21, Tryd.ntmps21
    go_wp2
    go_loopw [3, 11] (fun a i wr => ∃ (k : Nat) (b : Int), k ≤ n ∧ i = .int .i64 k ∧ a = .int .i64 b ∧ 1000 ≤ b ∧ b ≤ 9223372036854775807 ∧ Hid (gdJ 1000 (zs.take k) = some b) ∧ Gr w wr) (fun _ i _ => n - (intOf i).toNat)
    case atStart => exact ⟨0, 1000, by omega, rfl, rfl, by omega, by omega, Lib.hid (by simp [gdJ]), Gr.refl _⟩
    case round =>
      obtain ⟨k, b, hk, rfl, rfl, b1, b2, hE, hG⟩ := hrel
      by_cases hlt : k < n
      · obtain ⟨z, hz⟩ := some_at (l := zs) (k := k) (by rw [HL.out]; exact hlt)
        obtain ⟨g, o, rfl, hg, x0, x1, x2⟩ := (HA.out.gr hG).at3 hz
        obtain ⟨-, q0⟩ := i64_bd (HWF.out z (List.mem_of_getElem? hz)).2.1
        have HT := Lib.hid (gdJ_take hz hE.out)
        have HP := Lib.hid (ptJ_iff b z)
        obtain ⟨za, zb, zc⟩ := z
        simp only at x0 x1 x2 HT HP q0
        clear hz
        have hno : ptJ b (za, zb, zc) = false → gd zs = false := fun ho => by rw [HGd.out, HT.out.2 ho]; rfl
        have HNO := Lib.hid hno
        clear hno
        by_cases q1 : za = b
        rotate_left
        · have HQ := Lib.hid (HNO.out (by cases hp : ptJ b (za, zb, zc); rfl; exact absurd (HP.out.1 hp).1 q1))
          go_wp2
          go_ret
          exact ⟨ret_bool HQ.out.symm, hG.trans (by repeat (first | with_reducible exact Gr.refl _ | with_reducible refine Gr.alloc ?_ _ | with_reducible refine Gr.gr ?_ _ _ | with_reducible refine Gr.drew ?_ | with_reducible refine Gr.drewN ?_ _))⟩
        subst q1
        by_cases q2 : za < zb
        rotate_left
        · have HQ := Lib.hid (HNO.out (by cases hp : ptJ za (za, zb, zc); rfl; exact absurd (HP.out.1 hp).2.1 q2))
          go_wp2
          go_ret
          exact ⟨ret_bool HQ.out.symm, hG.trans (by repeat (first | with_reducible exact Gr.refl _ | with_reducible refine Gr.alloc ?_ _ | with_reducible refine Gr.gr ?_ _ _ | with_reducible refine Gr.drew ?_ | with_reducible refine Gr.drewN ?_ _))⟩
        have HDV := Lib.hid (fun W => isDivided_any za zb zc W (by omega) q2 q0)
        rcases Bool.eq_false_or_eq_true (dvd7 (za, zb, zc)) with q3 | q3
        · have HQ := Lib.hid (HT.out.1 (HP.out.2 ⟨rfl, q2, q3⟩))
          rw [q3] at HDV
          clear q3
          go_wp2_with (go_at_call 45; refine (HDV.out _).mono ?_; rintro e w' ⟨rfl, kk, os, rfl⟩)
          go_roundw
          case rel => exact ⟨k + 1, zb, by omega, by go_num, rfl, by omega, by omega, HQ, hG.trans (by repeat (first | with_reducible exact Gr.refl _ | with_reducible refine Gr.alloc ?_ _ | with_reducible refine Gr.gr ?_ _ _ | with_reducible refine Gr.drew ?_ | with_reducible refine Gr.drewN ?_ _))⟩
          case measure => simp [intOf]; omega
        · have HQ := Lib.hid (HNO.out (by cases hp : ptJ za (za, zb, zc); rfl; have := (HP.out.1 hp).2.2; rw [q3] at this; cases this))
          rw [q3] at HDV
          clear q3
          go_wp2_with (go_at_call 45; refine (HDV.out _).mono ?_; rintro e w' ⟨rfl, kk, os, rfl⟩)
          go_ret
          exact ⟨ret_bool HQ.out.symm, hG.trans (by repeat (first | with_reducible exact Gr.refl _ | with_reducible refine Gr.alloc ?_ _ | with_reducible refine Gr.gr ?_ _ _ | with_reducible refine Gr.drew ?_ | with_reducible refine Gr.drewN ?_ _))⟩
      · obtain rfl : k = n := by omega
        have HF := Lib.hid (show zs.take k = zs from List.take_of_length_le (by rw [HL.out]; omega))
        have HQ := Lib.hid (show gd zs = decide (b = 10000) by rw [HGd.out, ← HF.out, hE.out]; simp)
        go_wp2
        go_ret
        exact ⟨ret_bool (by rw [HQ.out]; by_cases h : b = 10000 <;> simp [h]), hG⟩
  · have HQ := Lib.hid (show gd zs = false by rw [gd_J, hn, decide_eq_false hc]; rfl)
    clear hn
    go_enter Tryd.func21, Tryd.ntmps21
    go_wp2
    go_ret
    exact ⟨ret_bool HQ.out.symm, (by repeat (first | with_reducible exact Gr.refl _ | with_reducible refine Gr.alloc ?_ _ | with_reducible refine Gr.gr ?_ _ _ | with_reducible refine Gr.drew ?_ | with_reducible refine Gr.drewN ?_ _))⟩

/-- How many parts a law takes. -/
theorem szParts_no (A : Option Addr) (n c : Nat) (w : World) (h : ¬ n ≤ 1048576) (h2 : n ≤ 9223372036854775807) :
    Calls Tryd.prog 28 #[.slice A n c, .int .i64 1048576] w fun e w' => e = .returned (.int .i64 (-1)) ∧ w = w' := by
  go_enter Tryd.func28, Tryd.ntmps28
  go_wp2
  go_ret
  exact ⟨rfl, rfl⟩
theorem szParts_ok (A : Option Addr) (n c : Nat) (w : World) (h : n ≤ 1048576) :
    Calls Tryd.prog 28 #[.slice A n c, .int .i64 1048576] w fun e w' => e = .returned (.int .i64 (1048576 - (n : Int))) ∧ w = w' := by
  go_enter Tryd.func28, Tryd.ntmps28
  go_wp2
  go_ret
  exact ⟨rfl, rfl⟩
/-- A law writes over the parts of a list: their block alone changes. -/
theorem markParts_any (g n c : Nat) (vs : List Value) (w : World) (hn : vs.length = n * 3) (hN : n ≤ 16777216) (hR : Row w g 39 vs) :
    Calls Tryd.prog 31 #[.slice (some ⟨g, 0, none⟩) n c, .int .i64 1] w fun e w' => e = .returned (.int .i64 (1 + 3 * (n : Int))) ∧ Dr g w w' := by
  go_enter Tryd.func31, Tryd.ntmps31
  go_wp2
  go_loopw [1, 5] (fun x i wr => ∃ (k : Nat) (us : List Value), k ≤ n ∧ x = .int .i64 (1 + 3 * (k : Int)) ∧ i = .int .i64 k ∧ us.length = n * 3 ∧ Row wr g 39 us ∧ Dr g w wr) (fun _ i _ => n - (intOf i).toNat)
  case atStart => exact ⟨0, vs, by omega, by simp, rfl, hn, hR, Dr.refl _ _⟩
  case round =>
    obtain ⟨k, us, hk, rfl, rfl, hl, hrow, hd⟩ := hrel
    by_cases hlt : k < n
    · have c0 := hrow.cell (k * 3)
      have c1 := hrow.cell (k * 3 + 1)
      have c2 := hrow.cell (k * 3 + 2)
      rw [List.getElem?_eq_getElem (by omega)] at c0 c1 c2
      have f0 := hrow.free (k * 3)
      have f1 := hrow.free (k * 3 + 1)
      have f2 := hrow.free (k * 3 + 2)
      generalize us[k * 3] = u0 at *
      generalize us[k * 3 + 1] = u1 at *
      generalize us[k * 3 + 2] = u2 at *
      have hb : (k : Int) < 16777216 := by omega
      clear hn hR
      go_wp2
      go_roundw
      case rel => exact ⟨k + 1, ((us.set (k * 3) _).set (k * 3 + 1) _).set (k * 3 + 2) _, by omega, by congr 1, by go_num, by simp [hl], ((hrow.set _ _).set _ _).set _ _, ((hd.setCell (.inl rfl) _).setCell (.inl rfl) _).setCell (.inl rfl) _⟩
      case measure => simp [intOf]; omega
    · obtain rfl : k = n := by omega
      go_wp2
      go_ret
      exact ⟨rfl, hd⟩
end Go.Proofs.YtjpkhbcomcailaaDoor
