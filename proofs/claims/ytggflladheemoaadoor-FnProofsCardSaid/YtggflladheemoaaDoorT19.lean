/- Labels of ticks: their texts and ends, in the program and in the model; whether two collide. -/
import Derived.Test.YtggflladheemoaaDoorT3
import Derived.Test.YtggflladheemoaaDoorM31
import Derived.Test.YtggflladheemoaaDoorSA
import Derived.Test.YtggflladheemoaaDoorC08a
namespace Go.Proofs.YtggflladheemoaaDoor
open Go.RowKit
set_option linter.unusedVariables false
set_option linter.unusedSimpArgs false

/-- A tick as a value. -/
abbrev tkV (z : P3) : Value := .agg #[.int .i64 z.1, .int .i64 z.2.1, .int .i64 z.2.2]
def lblB (m : Int) : ByteArray := ⟨(Lib.decDigits (strN m.toNat)).toArray⟩
theorem lblB_size (m : Int) : (lblB m).size = lbN m := by
  unfold lblB lbN
  show (List.toArray _).size = _
  rw [List.size_toArray]
theorem lblB_trim (m : Int) (h : 1000 ≤ m) : (⟨(Lib.trimRightB (itoaB m).data.toList 48).toArray⟩ : ByteArray) = lblB m := by
  unfold itoaB lblB Lib.itoa
  rw [if_neg (by omega)]
  show (⟨(Lib.trimRightB (Lib.decDigits m.toNat) 48).toArray⟩ : ByteArray) = _
  rw [trim_dec _ (by omega)]
theorem label_impl (a b c : Int) (w : World) (ht : Tab w) (h0 : 1000 ≤ a) (h1 : a ≤ 9999) :
    Calls Tryd.prog 135 #[.agg #[.int .i64 a, .int .i64 b, .int .i64 c]] w fun e w' => e = .returned (.string (lblB a)) ∧ Gr w w' := by
  have HT := Lib.hid ht
  have HL := Lib.hid (lblB_trim a h0)
  have HZ := Lib.hid (itoa_len a (by omega) (by omega))
  clear ht
  go_enter Tryd.func135, Tryd.ntmps135
  go_wp2_with (first
    | (go_at_call 145; refine (formatInt_g a _ (by omega) (by omega) (HT.out.gr (by repeat (first | with_reducible exact Gr.refl _ | with_reducible refine Gr.alloc ?_ _ | with_reducible refine Gr.gr ?_ _ _ | with_reducible refine Gr.drew ?_ | with_reducible refine Gr.drewN ?_ _)))).mono ?_; rintro e w' ⟨rfl, k, os, rfl⟩)
    | (go_at_call 171; refine (Tryd.strings_TrimRight_one (itoaB a) 48 (by decide) _ (by have := HZ.out.2; omega)).mono ?_; rintro e w' ⟨rfl, rfl⟩))
  go_ret
  exact ⟨ret_str HL.out, (by repeat (first | with_reducible exact Gr.refl _ | with_reducible refine Gr.alloc ?_ _ | with_reducible refine Gr.gr ?_ _ _ | with_reducible refine Gr.drew ?_ | with_reducible refine Gr.drewN ?_ _))⟩
theorem lbText_spec (a b c : Int) (w : World) (h0 : 1000 ≤ a) (h1 : a ≤ 9999) :
    Calls Tryd.prog 136 #[.agg #[.int .i64 a, .int .i64 b, .int .i64 c]] w fun e w' => e = .returned (.string (lblB a)) ∧ Gr w w' := by
  have HE := Lib.hid (show ∀ n : Nat, 0 < n → strN n = strN a.toNat → n % 10 ≠ 0 → itoaB (n : Int) = lblB a from fun n h1 h2 h3 => by
    unfold itoaB lblB Lib.itoa
    rw [if_neg (by omega), ← h2, strN_not h3]
    rfl)
  obtain ⟨a, rfl⟩ := Int.eq_ofNat_of_zero_le (show 0 ≤ a by omega)
  go_enter Tryd.func136, Tryd.ntmps136
  go_wp2
  go_loopw [3] (fun x wr => ∃ n : Nat, 0 < n ∧ n ≤ 9999 ∧ x = .int .i64 n ∧ Hid (strN n = strN (a : Int).toNat) ∧ Gr w wr) (fun x _ => (intOf x).toNat)
  case atStart => exact ⟨a, by omega, by omega, rfl, Lib.hid (by simp), (by repeat (first | with_reducible exact Gr.refl _ | with_reducible refine Gr.alloc ?_ _ | with_reducible refine Gr.gr ?_ _ _ | with_reducible refine Gr.drew ?_ | with_reducible refine Gr.drewN ?_ _))⟩
  case round =>
    obtain ⟨n, hn0, hn1, rfl, hS, hG⟩ := hrel
    by_cases h0 : n % 10 = 0
    · have HS2 := Lib.hid ((strN_zero hn0 h0).symm.trans hS.out)
      have h10 : (n : Int) % 10 = 0 := by omega
      go_wp2
      go_roundw
      case rel => exact ⟨n / 10, by omega, by omega, by go_num, HS2, hG⟩
      case measure => simp [intOf]; omega
    · have HE2 := Lib.hid (HE.out n hn0 hS.out h0)
      have h10 : ((n : Int) % 10 == 0) = false := by simp; omega
      have h11 : ¬ (n : Int) % 10 = 0 := by omega
      go_wp2_with (go_at_call 172; refine (dec_g _ _ (by omega) (by omega)).mono ?_; rintro e w' ⟨rfl, hg⟩)
      go_ret
      exact ⟨ret_str HE2.out, hG.trans hg⟩
theorem ends_impl (z : P3) (w : World) (ht : Tab w) (hz : lbIs z) :
    Calls Tryd.prog 160 #[tkV z] w fun e w' => e = .returned (.tuple #[.int .i64 (lfT z), .int .i64 (rtT z)]) ∧ Gr w w' := by
  obtain ⟨a, b, c⟩ := z
  obtain ⟨⟨a0, a1⟩, ⟨b0, b1⟩, c0, c1⟩ := hz
  simp only at a0 a1 b0 b1 c0 c1
  have HT := Lib.hid ht
  have HL := Lib.hid (fun w (h : Tab w) => label_impl a b c w h a0 a1)
  have hs := lblB_size a
  have hm := lbN_bd a a0 a1
  have HLF := Lib.hid (show lfT (a, b, c) = b - 60 * (lbN a : Int) from rfl)
  have HRT := Lib.hid (show rtT (a, b, c) = b + 60 * (lbN a : Int) from rfl)
  generalize lblB a = s at *
  generalize lbN a = m at *
  have hq : (120 * (m : Int)) / 2 = 60 * m := by omega
  clear ht
  go_enter Tryd.func160, Tryd.ntmps160
  go_wp2_with (go_at_call 135; refine (HL.out _ (HT.out.gr (by repeat (first | with_reducible exact Gr.refl _ | with_reducible refine Gr.alloc ?_ _ | with_reducible refine Gr.gr ?_ _ _ | with_reducible refine Gr.drew ?_ | with_reducible refine Gr.drewN ?_ _)))).mono ?_; rintro e w' ⟨rfl, k, os, rfl⟩)
  go_ret2
  exact ⟨ret_two (by have := HLF.out; omega) (by have := HRT.out; omega), (by repeat (first | with_reducible exact Gr.refl _ | with_reducible refine Gr.alloc ?_ _ | with_reducible refine Gr.gr ?_ _ _ | with_reducible refine Gr.drew ?_ | with_reducible refine Gr.drewN ?_ _))⟩
theorem ends_spec (z : P3) (w : World) (hz : lbIs z) :
    Calls Tryd.prog 166 #[tkV z] w fun e w' => e = .returned (.tuple #[.int .i64 (lfT z), .int .i64 (rtT z)]) ∧ Gr w w' := by
  obtain ⟨a, b, c⟩ := z
  obtain ⟨⟨a0, a1⟩, ⟨b0, b1⟩, c0, c1⟩ := hz
  simp only at a0 a1 b0 b1 c0 c1
  have HL := Lib.hid (fun w => lbText_spec a b c w a0 a1)
  have hs := lblB_size a
  have hm := lbN_bd a a0 a1
  have HLF := Lib.hid (show lfT (a, b, c) = b - 60 * (lbN a : Int) from rfl)
  have HRT := Lib.hid (show rtT (a, b, c) = b + 60 * (lbN a : Int) from rfl)
  generalize lblB a = s at *
  generalize lbN a = m at *
  have hq : (120 * (m : Int)).tdiv 2 = 60 * m := by rw [Int.tdiv_eq_ediv_of_nonneg (by omega)]; omega
  have hw1 : IntKind.i64.wrap (60 * (m : Int)) = 60 * m := IntWalk.i64_in _ (by omega)
  have hw2 : IntKind.i64.wrap (b - 60 * (m : Int)) = b - 60 * m := IntWalk.i64_in _ (by omega)
  have hw3 : IntKind.i64.wrap (b - 60 * (m : Int) + 120 * m) = b + 60 * m := by rw [IntWalk.i64_in _ (by omega)]; omega
  go_enter Tryd.func166, Tryd.ntmps166
  go_wp2_with (go_at_call 136; refine (HL.out _).mono ?_; rintro e w' ⟨rfl, k, os, rfl⟩)
  ((first | refine region_gr_on (by kernel_rfl) (by kernel_rfl) ?_ | refine region_gr (by kernel_rfl) (by kernel_rfl) ?_); (repeat (quiet_step (fail))); refine wpQuiet_nil ?_; intro _ hw'; obtain ⟨⟨kq, oq⟩, hw''⟩ := hw'; subst hw'')
  go_wp2
  go_ret2
  exact ⟨ret_two (by have := HLF.out; omega) (by have := HRT.out; omega), (by repeat (first | with_reducible exact Gr.refl _ | with_reducible refine Gr.alloc ?_ _ | with_reducible refine Gr.gr ?_ _ _ | with_reducible refine Gr.drew ?_ | with_reducible refine Gr.drewN ?_ _))⟩
end Go.Proofs.YtggflladheemoaaDoor
