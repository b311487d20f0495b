/- Plain mathematics, merged. -/
import Derived.Test.YtphebmbapllinaaDoorT1
import Derived.Test.YtphebmbapllinaaDoorShelf
import Derived.Lib.AppendIntMem
import Derived.Lib.LaidTab
import Derived.Test.YtphebmbapllinaaDoor2A
import Derived.Test.YtphebmbapllinaaDoorME
import Derived.Stop.LaidErr
import Derived.Test.YtphebmbapllinaaDoor1A
import Derived.Lib.Join
import Derived.Maps.AppendAt
import Derived.RangeFuncBox
/- Numbers of digits, in the program and in the model. -/
namespace Go.Proofs.YtphebmbapllinaaDoor
open Go.RowKit
set_option linter.unusedVariables false
set_option linter.unusedSimpArgs false

/-- The library's table of powers of ten is as its text lays it. -/
def Tab (w : World) : Prop := Lib.TabIs Tryd.prog w "internal/strconv.uint64pow10" .u64 Lib.pow10Tab

theorem Tab.later {w w' : World} (h : Tab w) (hb : Below w.heap.size w w') : Tab w' := (Lib.tabBelow_of_tabIs h) w' hb

theorem formatInt_any (n : Int) (w : World) (h0 : -4000000000000000000 ≤ n) (h1 : n ≤ 4000000000000000000) (ht : Tab w) :
    Calls Tryd.prog 51 #[.int .i64 n, .int .i64 10] w (Str (Lib.itoa n) w) := by
  go_enter Tryd.func51, Tryd.ntmps51
  go_wp2_with fail
  refine (Tryd.internal_strconv_FormatInt_10 n (by omega) (by omega) w ht).mono ?_
  rintro e w1 ⟨rfl, k, os, rfl⟩
  go_wp2_with fail
  go_ret
  exact ⟨rfl, Lib.below_grow _ w (Nat.le_refl _) k os⟩

/-- Two integers are returned, the old memory is as it was. -/
def TwoInts (p : Int × Int) (w : World) (e : Ending) (w' : World) : Prop := e = .returned (.tuple #[.int .i64 p.1, .int .i64 p.2]) ∧ Below w.heap.size w w'
def cntR (n : Int) : Int × Int := if 0 ≤ n ∧ n ≤ 1000000000000 then ((Lib.decDigits n.toNat).length, 0) else (0, 2)
theorem cntR_ok (n : Int) (h : 0 ≤ n) (h' : n ≤ 1000000000000) : cntR n = (((Lib.decDigits n.toNat).length : Int), 0) := if_pos ⟨h, h'⟩
theorem cntR_no (n : Int) (h : n < 0 ∨ 1000000000000 < n) : cntR n = (0, 2) := if_neg (by omega)

end Go.Proofs.YtphebmbapllinaaDoor

/- Texts of figures, in the program and in the model. -/
namespace Go.Proofs.YtphebmbapllinaaDoor
open Go.RowKit
set_option linter.unusedVariables false
set_option linter.unusedSimpArgs false

/-- A string is returned, the world has grown. -/
def StrG (s : ByteArray) (w : World) (e : Ending) (w' : World) : Prop := e = .returned (.string s) ∧ Gr w w'
def itoaB (n : Int) : ByteArray := ⟨(Lib.itoa n).toArray⟩

theorem Tab.gr {w v : World} (h : Tab w) (hg : Gr w v) : Tab v := h.later hg.below

theorem formatInt_g (n : Int) (w : World) (h0 : -4000000000000000000 ≤ n) (h1 : n ≤ 4000000000000000000) (ht : Tab w) :
    Calls Tryd.prog 51 #[.int .i64 n, .int .i64 10] w fun e w' => e = .returned (.string (itoaB n)) ∧ Gr w w' :=
  (formatInt_any n w h0 h1 ht).mono fun _ _ ⟨he, hb⟩ => ⟨he, Gr.of_below hb⟩

theorem dec_g (n : Int) (w : World) (h0 : 0 ≤ n) (h1 : n ≤ 4000000000000000000) :
    Calls Tryd.prog 53 #[.int .i64 n] w fun e w' => e = .returned (.string (itoaB n)) ∧ Gr w w' := by
  obtain ⟨k, rfl⟩ := Int.eq_ofNat_of_zero_le h0
  refine (dec_any k (by omega) w).mono fun _ _ ⟨he, hb⟩ => ⟨?_, Gr.of_below hb⟩
  rw [he, itoaB, Lib.itoa, if_neg (by omega)]
  simp

theorem itoaB_neg (n : Int) (h : n < 0) : itoaB n = ⟨#[45]⟩ ++ itoaB (-n) := by
  unfold itoaB Lib.itoa
  rw [if_pos h, if_neg (by omega), show (-n).toNat = n.natAbs by omega]
  exact (ByteArray.mk_append_mk [45] _).symm

theorem itoa_len (n : Int) (h0 : -1000000000000 ≤ n) (h1 : n ≤ 1000000000000) : 1 ≤ (itoaB n).size ∧ (itoaB n).size ≤ 20 := by
  have hd : ∀ m : Nat, m ≤ 1000000000000 → 1 ≤ (Lib.decDigits m).length ∧ (Lib.decDigits m).length ≤ 13 := fun m hm => by
    have h1 := decDigits_len 13 m (by omega) (by omega)
    have h2 : (Lib.decDigits m).length ≠ 0 := by rw [Lib.decDigits_length]; unfold Lib.nDigits; split <;> omega
    omega
  unfold itoaB Lib.itoa
  show 1 ≤ (List.toArray _).size ∧ (List.toArray _).size ≤ 20
  rw [List.size_toArray]
  split
  · have := hd n.natAbs (by omega)
    simp; omega
  · have := hd n.toNat (by omega)
    omega
theorem itoa_four (n : Int) (h0 : 1000 ≤ n) (h1 : n ≤ 9999) : (itoaB n).size = 4 := by
  unfold itoaB Lib.itoa
  show (List.toArray _).size = 4
  rw [List.size_toArray, if_neg (by omega), Lib.decDigits_length, Lib.nDigits_unique 3 n.toNat (by omega) (by omega)]

theorem number_g (n : Int) (w : World) (h0 : -1000000000000 ≤ n) (h1 : n ≤ 1000000000000) :
    Calls Tryd.prog 54 #[.int .i64 n] w fun e w' => e = .returned (.string (itoaB n)) ∧ Gr w w' := by
  by_cases h : n < 0
  · have HB := Lib.hid (itoaB_neg n h)
    have hl := itoa_len (-n) (by omega) (by omega)
    go_enter Tryd.func54, Tryd.ntmps54
    go_wp2_with (go_at_call 53; refine (dec_g _ _ (by omega) (by omega)).mono ?_; rintro e w' ⟨rfl, k, os, rfl⟩)
    go_ret
    exact ⟨ret_str HB.out.symm, (by repeat (first | with_reducible exact Gr.refl _ | with_reducible refine Gr.alloc ?_ _ | with_reducible refine Gr.gr ?_ _ _ | with_reducible refine Gr.drew ?_ | with_reducible refine Gr.drewN ?_ _))⟩
  · go_enter Tryd.func54, Tryd.ntmps54
    go_wp2_with (go_at_call 53; refine (dec_g _ _ (by omega) (by omega)).mono ?_; rintro e w' ⟨rfl, k, os, rfl⟩)
    go_ret
    exact ⟨rfl, (by repeat (first | with_reducible exact Gr.refl _ | with_reducible refine Gr.alloc ?_ _ | with_reducible refine Gr.gr ?_ _ _ | with_reducible refine Gr.drew ?_ | with_reducible refine Gr.drewN ?_ _))⟩

/-- The text of a figure. -/
def figB (d t : Int) : ByteArray := (itoaB d).extract 0 1 ++ ⟨#[46]⟩ ++ (itoaB d).extract 1 4 ++ ⟨#[101]⟩ ++ itoaB t

theorem text_spec (d t : Int) (w : World) (h : fg d t = true) :
    Calls Tryd.prog 40 #[.agg #[.int .i64 d, .int .i64 t]] w fun e w' => e = .returned (.string (figB d t)) ∧ Gr w w' := by
  obtain ⟨⟨a1, a2⟩, t1, t2⟩ := (fg_iff d t).1 h
  have h4 := itoa_four d a1 a2
  have hl := itoa_len t (by omega) (by omega)
  have HF := Lib.hid (show figB d t = (itoaB d).extract 0 1 ++ ⟨#[46]⟩ ++ (itoaB d).extract 1 4 ++ ⟨#[101]⟩ ++ itoaB t from rfl)
  have hD : ∀ w, Calls Tryd.prog 53 #[.int .i64 d] w fun e w' => e = .returned (.string (itoaB d)) ∧ Gr w w' := fun w => dec_g d w (by omega) (by omega)
  have hN : ∀ w, Calls Tryd.prog 54 #[.int .i64 t] w fun e w' => e = .returned (.string (itoaB t)) ∧ Gr w w' := fun w => number_g t w (by omega) (by omega)
  generalize itoaB d = x at *
  generalize itoaB t = y at *
  obtain ⟨hl1, hl2⟩ := hl
  have hl6 : ¬ (9223372036854775807 < 6 + y.size) := by omega
  go_enter Tryd.func40, Tryd.ntmps40
  go_wp2_with (go_at_call 53; refine (hD _).mono ?_; rintro e w' ⟨rfl, k, os, rfl⟩)
  ((first | refine region_gr_on (by kernel_rfl) (by kernel_rfl) ?_ | refine region_gr (by kernel_rfl) (by kernel_rfl) ?_); (repeat (quiet_step (exact Calls.gr_of (hN _)))); refine wpQuiet_nil ?_; intro _ hw'; obtain ⟨⟨kq, oq⟩, hw''⟩ := hw'; subst hw'')
  go_wp2
  go_ret
  exact ⟨ret_str (by rw [HF.out]), (by repeat (first | with_reducible exact Gr.refl _ | with_reducible refine Gr.alloc ?_ _ | with_reducible refine Gr.gr ?_ _ _ | with_reducible refine Gr.drew ?_ | with_reducible refine Gr.drewN ?_ _))⟩

/-- A figure's text, or nothing. -/
def ftS (d t : Int) : ByteArray := if fg d t = true then figB d t else ⟨#[]⟩
def ftC (d t : Int) : Int := if fg d t = true then 0 else 1
theorem ft_ok (d t : Int) (h : fg d t = true) : ftS d t = figB d t ∧ ftC d t = 0 := ⟨if_pos h, if_pos h⟩
theorem ft_no (d t : Int) (h : fg d t = false) : ftS d t = ⟨#[]⟩ ∧ ftC d t = 1 := ⟨if_neg (by rw [h]; simp), if_neg (by rw [h]; simp)⟩
theorem ret_sc {a b : ByteArray} {c d : Int} (h : a = b) (h' : c = d) : Ending.returned (.tuple #[.string a, .int .i64 c]) = .returned (.tuple #[.string b, .int .i64 d]) := by rw [h, h']

theorem figureText_impl (d t : Int) (w : World) (ht : Tab w) :
    Calls Tryd.prog 36 #[.agg #[.int .i64 d, .int .i64 t]] w fun e w' => e = .returned (.tuple #[.string (ftS d t), .int .i64 (ftC d t)]) ∧ Gr w w' := by
  have e1 : fg d t = true ∨ fg d t = false := by cases fg d t <;> simp
  rcases e1 with e1 | e1
  · have H := Lib.hid (ft_ok d t e1)
    have E := Lib.hid e1
    obtain ⟨⟨a1, a2⟩, t1, t2⟩ := (fg_iff d t).1 e1
    clear e1
    have h4 := itoa_four d a1 a2
    obtain ⟨hl1, hl2⟩ := itoa_len t (by omega) (by omega)
    have HF := Lib.hid (show figB d t = (itoaB d).extract 0 1 ++ ⟨#[46]⟩ ++ (itoaB d).extract 1 4 ++ ⟨#[101]⟩ ++ itoaB t from rfl)
    have hD : ∀ w', Gr w w' → Calls Tryd.prog 51 #[.int .i64 d, .int .i64 10] w' fun e w'' => e = .returned (.string (itoaB d)) ∧ Gr w' w'' := fun w' hg => formatInt_g d w' (by omega) (by omega) (ht.gr hg)
    have hN : ∀ w', Gr w w' → Calls Tryd.prog 51 #[.int .i64 t, .int .i64 10] w' fun e w'' => e = .returned (.string (itoaB t)) ∧ Gr w' w'' := fun w' hg => formatInt_g t w' (by omega) (by omega) (ht.gr hg)
    clear ht
    generalize itoaB d = x at *
    generalize itoaB t = y at *
    have hl6 : ¬ (9223372036854775807 < 6 + y.size) := by omega
    go_enter Tryd.func36, Tryd.ntmps36
    go_wp2_with (first
      | (go_at_call 35; refine (isFigure_impl _ _ _).mono ?_; rw [E.out]; rintro e w' ⟨rfl, k, os, rfl⟩)
      | (go_at_call 51; refine (hD _ (by repeat (first | with_reducible exact Gr.refl _ | with_reducible refine Gr.alloc ?_ _ | with_reducible refine Gr.gr ?_ _ _ | with_reducible refine Gr.drew ?_ | with_reducible refine Gr.drewN ?_ _))).mono ?_; rintro e w' ⟨rfl, k, os, rfl⟩))
    ((first | refine region_gr_on (by kernel_rfl) (by kernel_rfl) ?_ | refine region_gr (by kernel_rfl) (by kernel_rfl) ?_); (repeat (quiet_step (exact Calls.gr_of (hN _ (by repeat (first | with_reducible exact Gr.refl _ | with_reducible refine Gr.alloc ?_ _ | with_reducible refine Gr.gr ?_ _ _ | with_reducible refine Gr.drew ?_ | with_reducible refine Gr.drewN ?_ _)))))); refine wpQuiet_nil ?_; intro _ hw'; obtain ⟨⟨kq, oq⟩, hw''⟩ := hw'; subst hw'')
    go_wp2
    go_ret2
    exact ⟨ret_sc (by rw [H.out.1, HF.out]) (by rw [H.out.2]), (by repeat (first | with_reducible exact Gr.refl _ | with_reducible refine Gr.alloc ?_ _ | with_reducible refine Gr.gr ?_ _ _ | with_reducible refine Gr.drew ?_ | with_reducible refine Gr.drewN ?_ _))⟩
  · have H := Lib.hid (ft_no d t e1)
    have E := Lib.hid e1
    clear e1
    go_enter Tryd.func36, Tryd.ntmps36
    go_wp2_with (go_at_call 35; refine (isFigure_impl _ _ _).mono ?_; rw [E.out]; rintro e w' ⟨rfl, k, os, rfl⟩)
    go_ret2
    exact ⟨ret_sc (by rw [H.out.1]) (by rw [H.out.2]), (by repeat (first | with_reducible exact Gr.refl _ | with_reducible refine Gr.alloc ?_ _ | with_reducible refine Gr.gr ?_ _ _ | with_reducible refine Gr.drew ?_ | with_reducible refine Gr.drewN ?_ _))⟩
end Go.Proofs.YtphebmbapllinaaDoor

/- Reading numerals and figures, in the program and in the model. -/
namespace Go.Proofs.YtphebmbapllinaaDoor
open Go.RowKit
set_option linter.unusedVariables false
set_option linter.unusedSimpArgs false

/-- A number and a bool, as a result. -/
theorem ret_ib {a b : Int} {c d : Bool} (h : a = b) (h' : c = d) : Ending.returned (.tuple #[.int .i64 a, .bool c]) = .returned (.tuple #[.int .i64 b, .bool d]) := by rw [h, h']
/-- The number that the first k bytes spell. -/
def pre (s : ByteArray) (k : Nat) : Nat := fval 0 (s.data.toList.take k)
theorem take_snoc (s : ByteArray) (k : Nat) (h : k < s.size) : s.data.toList.take (k + 1) = s.data.toList.take k ++ [s[k]] := by
  rw [List.take_succ_eq_append_getElem (by simpa using h)]; rfl
theorem len_data (s : ByteArray) : s.data.toList.length = s.size := Array.length_toList
theorem pre_zero (s : ByteArray) : pre s 0 = 0 := rfl
theorem pre_succ (s : ByteArray) (k : Nat) (h : k < s.size) : pre s (k + 1) = 10 * pre s k + (s[k].toNat - 48) := by
  unfold pre; rw [take_snoc s k h, fval_app]; rfl
def dgs (s : ByteArray) (k : Nat) : Prop := ∀ c ∈ s.data.toList.take k, dgt c
theorem dgs_zero (s : ByteArray) : dgs s 0 := by intro c hc; simp at hc
theorem dgs_succ (s : ByteArray) (k : Nat) (h : k < s.size) (hd : dgs s k) (h1 : 48 ≤ s[k].toNat) (h2 : s[k].toNat ≤ 57) : dgs s (k + 1) := by
  intro c hc
  rw [take_snoc s k h] at hc
  rcases List.mem_append.1 hc with hc | hc
  · exact hd c hc
  · simp only [List.mem_singleton] at hc; subst hc; exact ⟨h1, h2⟩
theorem pre_lt (s : ByteArray) (k : Nat) (hk : k ≤ 13) (hd : dgs s k) : pre s k < 10000000000000 := by
  have h := fval_lt _ 0 hd
  have h4 : 10 ^ (s.data.toList.take k).length ≤ 10 ^ 13 := Nat.pow_le_pow_right (by omega) (by have := List.length_take_le k s.data.toList; omega)
  have e : (10 : Nat) ^ 13 = 10000000000000 := by decide
  rw [e] at h4
  unfold pre
  generalize 10 ^ (s.data.toList.take k).length = q at *
  omega
theorem pre_all (s : ByteArray) : pre s s.size = fval 0 s.data.toList := by
  unfold pre; rw [List.take_of_length_le (by rw [len_data]; exact Nat.le_refl _)]
theorem dgs_all (s : ByteArray) (h : dgs s s.size) : alld s.data.toList = true := by
  rw [alld_iff]; intro c hc; exact h c (by rw [List.take_of_length_le (by rw [len_data]; exact Nat.le_refl _)]; exact hc)
theorem dgs_bad (s : ByteArray) (k : Nat) (h : k < s.size) (h1 : s[k].toNat < 48 ∨ 57 < s[k].toNat) : alld s.data.toList = false := by
  rw [Bool.eq_false_iff]
  intro hc
  have := (alld_iff _).1 hc s[k] (by show s.data[k] ∈ s.data.toList; exact Array.mem_toList_iff.2 (Array.getElem_mem _))
  unfold dgt at this
  omega
theorem eq_itoaB (s : ByteArray) (n : Nat) : (itoaB n = s) ↔ Lib.decDigits n = s.data.toList := by
  unfold itoaB Lib.itoa
  rw [if_neg (by omega), Int.toNat_natCast]
  constructor
  · intro h; rw [← h]
  · intro h; rw [h]

theorem str_eq (s : ByteArray) (v : Nat) : ((itoaB v).toList == s.toList) = decide (Lib.decDigits v = s.data.toList) := by
  rw [ByteArray.toList_eq, ByteArray.toList_eq]
  unfold itoaB Lib.itoa
  rw [if_neg (by omega), Int.toNat_natCast, Bool.eq_iff_iff]
  simp

set_option maxHeartbeats 1000000 in
theorem value_spec (s : ByteArray) (w : World) (hs : s.size ≤ maxLen) :
    Calls Tryd.prog 45 #[.string s] w fun e w' => e = .returned (.tuple #[.int .i64 (rdv s.data.toList).1, .bool (rdv s.data.toList).2]) ∧ Gr w w' := by
  unfold maxLen at hs
  have hl := len_data s
  by_cases h1 : s.size < 1
  · have H := Lib.hid (rdv_far s.data.toList (by omega))
    clear hl
    go_enter Tryd.func45, Tryd.ntmps45
    go_wp2
    go_ret2
    exact ⟨ret_ib (by rw [H.out]) (by rw [H.out]), (by repeat (first | with_reducible exact Gr.refl _ | with_reducible refine Gr.alloc ?_ _ | with_reducible refine Gr.gr ?_ _ _ | with_reducible refine Gr.drew ?_ | with_reducible refine Gr.drewN ?_ _))⟩
  by_cases h2 : 13 < s.size
  · have H := Lib.hid (rdv_far s.data.toList (by omega))
    clear hl
    go_enter Tryd.func45, Tryd.ntmps45
    go_wp2
    go_ret2
    exact ⟨ret_ib (by rw [H.out]) (by rw [H.out]), (by repeat (first | with_reducible exact Gr.refl _ | with_reducible refine Gr.alloc ?_ _ | with_reducible refine Gr.gr ?_ _ _ | with_reducible refine Gr.drew ?_ | with_reducible refine Gr.drewN ?_ _))⟩
  have HL := Lib.hid hl
  clear hl
  go_enter Tryd.func45, Tryd.ntmps45
  go_wp2
  go_loop [4, 5] (fun n i => ∃ k : Nat, k ≤ s.size ∧ i = .int .i64 k ∧ dgs s k ∧ n = .int .i64 (pre s k)) (fun _ i => s.size - (intOf i).toNat)
  case atStart => exact ⟨0, Nat.zero_le _, rfl, dgs_zero s, rfl⟩
  case round =>
    obtain ⟨k, hk, rfl, hd, rfl⟩ := hrel
    have hp := pre_lt s k (by omega) hd
    by_cases hlt : k < s.size
    · have HS := Lib.hid (pre_succ s k hlt)
      by_cases hc : 48 ≤ s[k].toNat ∧ s[k].toNat ≤ 57
      · obtain ⟨c1, c2⟩ := hc
        have hd2 := dgs_succ s k hlt hd c1 c2
        generalize pre s k = v at *
        go_wp2
        go_round
        case rel => exact ⟨k + 1, by omega, by go_num, hd2, by rw [HS.out]; go_num⟩
        case measure => simp [intOf]; omega
      · have HB := Lib.hid (rdv_bad s.data.toList (by rw [HL.out]; omega) (by rw [HL.out]; omega) (dgs_bad s k hlt (by omega)))
        by_cases c1 : s[k].toNat < 48
        · go_wp2
          go_ret2
          exact ⟨ret_ib (by rw [HB.out]) (by rw [HB.out]), (by repeat (first | with_reducible exact Gr.refl _ | with_reducible refine Gr.alloc ?_ _ | with_reducible refine Gr.gr ?_ _ _ | with_reducible refine Gr.drew ?_ | with_reducible refine Gr.drewN ?_ _))⟩
        · have c2 : 57 < s[k].toNat := by omega
          go_wp2
          go_ret2
          exact ⟨ret_ib (by rw [HB.out]) (by rw [HB.out]), (by repeat (first | with_reducible exact Gr.refl _ | with_reducible refine Gr.alloc ?_ _ | with_reducible refine Gr.gr ?_ _ _ | with_reducible refine Gr.drew ?_ | with_reducible refine Gr.drewN ?_ _))⟩
    · obtain rfl : k = s.size := by omega
      have HE := Lib.hid (rdv_dig s.data.toList (by rw [HL.out]; omega) (by rw [HL.out]; omega) (dgs_all s hd))
      have HP := Lib.hid (pre_all s)
      generalize pre s s.size = v at *
      go_wp2_with (go_at_call 53; refine (dec_g _ _ (by omega) (by omega)).mono ?_; rintro e w' ⟨rfl, k, os, rfl⟩)
      go_ret2
      exact ⟨ret_ib (by rw [HE.out, ← HP.out]) (by rw [HE.out, ← HP.out]; exact str_eq _ _), (by repeat (first | with_reducible exact Gr.refl _ | with_reducible refine Gr.alloc ?_ _ | with_reducible refine Gr.gr ?_ _ _ | with_reducible refine Gr.drew ?_ | with_reducible refine Gr.drewN ?_ _))⟩

theorem tail_data (s : ByteArray) (c : UInt8) (r : List UInt8) (h : s.data.toList = c :: r) : (s.extract 1 s.size).data.toList = r := by
  have h1 := len_data s
  rw [Lib.extract_data, h, ← h1, h]
  simp
theorem rds_neg (c : UInt8) (r : List UInt8) (h : c.toNat = 45) : rds (c :: r) = (-(rdv r).1, (rdv r).2 && decide (0 < (rdv r).1)) := if_pos (UInt8.toNat_inj.1 h)
theorem rds_pos (c : UInt8) (r : List UInt8) (h : c.toNat ≠ 45) : rds (c :: r) = rdv (c :: r) := if_neg (fun e => h (by rw [e]; rfl))
theorem rdv_nil : rdv [] = (0, false) := rdv_far _ (.inl (by simp))
theorem rds_nil : rds [] = (0, false) := rfl

set_option maxHeartbeats 1000000 in
theorem signed_spec (s : ByteArray) (w : World) (hs : s.size ≤ maxLen) :
    Calls Tryd.prog 46 #[.string s] w fun e w' => e = .returned (.tuple #[.int .i64 (rds s.data.toList).1, .bool (rds s.data.toList).2]) ∧ Gr w w' := by
  have hv : ∀ (u : ByteArray) (w : World), u.size ≤ maxLen → Calls Tryd.prog 45 #[.string u] w fun e w' => e = .returned (.tuple #[.int .i64 (rdv u.data.toList).1, .bool (rdv u.data.toList).2]) ∧ Gr w w' := value_spec
  unfold maxLen at hs hv
  have hl := len_data s
  by_cases h0 : s.size = 0
  · have hn : s.data.toList = [] := List.eq_nil_of_length_eq_zero (by omega)
    have H := Lib.hid (show rds s.data.toList = (0, false) by rw [hn]; rfl)
    have H1 := Lib.hid (show rdv s.data.toList = (0, false) by rw [hn]; rfl)
    have hz : s.size ≤ 0 := by omega
    have hv0 := hv s
    clear hn hl h0 hv
    go_enter Tryd.func46, Tryd.ntmps46
    go_wp2_with (go_at_call 45; refine (hv0 _ (by omega)).mono ?_; rintro e w' ⟨rfl, k, os, rfl⟩)
    go_ret2
    exact ⟨ret_ib (by rw [H.out, H1.out]) (by rw [H.out, H1.out]), (by repeat (first | with_reducible exact Gr.refl _ | with_reducible refine Gr.alloc ?_ _ | with_reducible refine Gr.gr ?_ _ _ | with_reducible refine Gr.drew ?_ | with_reducible refine Gr.drewN ?_ _))⟩
  · obtain ⟨c, r, hcr⟩ : ∃ c r, s.data.toList = c :: r := by
      match h : s.data.toList with
      | [] => rw [h] at hl; simp at hl; omega
      | c :: r => exact ⟨c, r, rfl⟩
    have hp : 0 < s.size := by omega
    have hc : s[0].toNat = c.toNat := by
      have : s.data.toList[0]'(by rw [hcr]; simp) = c := by simp [hcr]
      rw [← this]; rfl
    have ht := Lib.hid (tail_data s c r hcr)
    by_cases h45 : c.toNat = 45
    · have H := Lib.hid (show rds s.data.toList = (-(rdv r).1, (rdv r).2 && decide (0 < (rdv r).1)) by rw [hcr]; exact rds_neg c r h45)
      have B := rdv_bd r
      have hx := hv (s.extract 1 s.size)
      rw [ht.out] at hx
      have hsz : (s.extract 1 s.size).size ≤ 9223372036854775807 := by simp [ByteArray.size_extract]; omega
      have hc1 : s[0].toNat = 45 := by omega
      have HN := Lib.hid hl
      clear hl hcr ht hv hc h45 h0
      generalize rdv r = q at *
      obtain ⟨q1, q2⟩ := q
      obtain ⟨b1, b2⟩ := B
      go_enter Tryd.func46, Tryd.ntmps46
      go_wp2_with (go_at_call 45; refine (hx _ (by omega)).mono ?_; rintro e w' ⟨rfl, k, os, rfl⟩)
      all_goals
        go_ret2
        exact ⟨ret_ib (by rw [H.out]) (by rw [H.out]; simp_all), (by repeat (first | with_reducible exact Gr.refl _ | with_reducible refine Gr.alloc ?_ _ | with_reducible refine Gr.gr ?_ _ _ | with_reducible refine Gr.drew ?_ | with_reducible refine Gr.drewN ?_ _))⟩
    · have H := Lib.hid (show rds s.data.toList = rdv s.data.toList by rw [hcr]; exact rds_pos c r h45)
      have hc1 : ¬ (s[0].toNat = 45) := by omega
      have hv0 := hv s
      clear hl hcr ht hv hc h45 h0
      go_enter Tryd.func46, Tryd.ntmps46
      go_wp2_with (go_at_call 45; refine (hv0 _ (by omega)).mono ?_; rintro e w' ⟨rfl, k, os, rfl⟩)
      go_ret2
      exact ⟨ret_ib (by rw [H.out]) (by rw [H.out]), (by repeat (first | with_reducible exact Gr.refl _ | with_reducible refine Gr.alloc ?_ _ | with_reducible refine Gr.gr ?_ _ _ | with_reducible refine Gr.drew ?_ | with_reducible refine Gr.drewN ?_ _))⟩
end Go.Proofs.YtphebmbapllinaaDoor

/- Reading values and figures: the program's own readers, by the library's ParseInt. -/
namespace Go.Proofs.YtphebmbapllinaaDoor
open Go.RowKit
set_option linter.unusedVariables false
set_option linter.unusedSimpArgs false

/-- The library's two errors of parsing hold interface values. -/
def Errs (w : World) : Prop := ∃ t p u q, w.var? Tryd.prog "strconv.ErrSyntax" = some #[.iface t p] ∧ w.var? Tryd.prog "strconv.ErrRange" = some #[.iface u q]
theorem var_gr {w : World} {k : Nat} {os : Array Obj} {n : String} {cs : Array Value} (h : w.var? Tryd.prog n = some cs) : (gr w k os).var? Tryd.prog n = some cs := by
  unfold World.var? at h ⊢
  cases hg : (Tryd.prog).globalNamed n with
  | none => simp [hg] at h
  | some g =>
    simp only [hg, Option.bind_some] at h ⊢
    have hlt : g < w.heap.size := by
      rcases Nat.lt_or_ge g w.heap.size with h' | h'
      · exact h'
      · simp [Array.getElem?_eq_none h'] at h
    rw [gr_old w k os hlt]
    exact h
theorem Errs.gr {w v : World} (h : Errs w) (hg : Gr w v) : Errs v := by
  obtain ⟨t, p, u, q, h1, h2⟩ := h
  obtain ⟨k, os, rfl⟩ := hg
  exact ⟨t, p, u, q, var_gr h1, var_gr h2⟩
theorem star_row (u : TypeId) (h : (Tryd.prog).typeName? 3 u = some "*errors.errorString") : u = 125 :=
  typeName_ptr_named (nm := "errors.errorString") (by rw [show "*" ++ "errors.errorString" = "*errors.errorString" by decide]; kernel_rfl) (by kernel_rfl) (by decide) u (by rw [show "*" ++ "errors.errorString" = "*errors.errorString" by decide]; exact h)
theorem errs_of {w : World} {x y : List UInt8}
    (h1 : laidMet Tryd.prog [("strconv.ErrSyntax", .iface "*errors.errorString" (.ptr (.agg [.lit (.string x)])))] w)
    (h2 : laidMet Tryd.prog [("strconv.ErrRange", .iface "*errors.errorString" (.ptr (.agg [.lit (.string y)])))] w) : Errs w := by
  obtain ⟨a1, s1, hv1, hc1, hs1, hz1⟩ := laid_sentinel h1 (g := 2) (by kernel_rfl) (by kernel_rfl) Tryd.underlying89 star_row Tryd.underlying125 Tryd.underlying127 rfl rfl Tryd.underlying9 (by kernel_rfl) (by kernel_rfl)
  obtain ⟨a2, s2, hv2, hc2, hs2, hz2⟩ := laid_sentinel h2 (g := 3) (by kernel_rfl) (by kernel_rfl) Tryd.underlying89 star_row Tryd.underlying125 Tryd.underlying127 rfl rfl Tryd.underlying9 (by kernel_rfl) (by kernel_rfl)
  exact ⟨_, _, _, _, hv1, hv2⟩

/-- What the program's ParseInt does, by how the numeral ends. -/
theorem parse_ok (s : ByteArray) (n : Int) (w : World) (hs : s.size ≤ 281474976710656) (h : Lib.parseIntB 64 s.data.toList = .ok n) :
    Calls Tryd.prog 62 #[.string s, .int .i64 10, .int .i64 64] w fun e w' => e = .returned (.tuple #[.int .i64 n, .nilIface]) ∧ Gr w w' :=
  (Tryd.strconv_ParseInt_10_at64_ok s (by omega) n h w).mono fun _ _ ⟨he, hw⟩ => ⟨he, by
    rcases hw with rfl | ⟨t, rfl⟩
    · exact Gr.refl _
    · exact Gr.of_below (Lib.bytesWorld_below _ _ _)⟩
/-- It failed: some number, and an error that is not nil. -/
def Failed (w : World) (e : Ending) (w' : World) : Prop := ∃ (n : Int) (t : TypeId) (v : Value), e = .returned (.tuple #[.int .i64 n, .iface t v]) ∧ Gr w w'
theorem parse_no (s : ByteArray) (w : World) (hs : s.size ≤ 281474976710656) (hE : Errs w) (h : Lib.parseIntB 64 s.data.toList = .syntax ∨ Lib.parseIntB 64 s.data.toList = .range) :
    Calls Tryd.prog 62 #[.string s, .int .i64 10, .int .i64 64] w (Failed w) := by
  obtain ⟨t, p, u, q, h1, h2⟩ := hE
  rcases h with h | h
  · exact (Tryd.strconv_ParseInt_10_at64_syntax_var s hs h t p w h1).mono fun _ _ ⟨N, he, _, _, hb⟩ => ⟨_, _, _, he, Gr.of_below hb⟩
  · exact (Tryd.strconv_ParseInt_10_at64_range_var s hs h u q w h2).mono fun _ _ ⟨N, he, _, _, hb⟩ => ⟨_, _, _, he, Gr.of_below hb⟩

theorem itoa_beq (s : ByteArray) (n : Int) : ((itoaB n).toList == s.toList) = decide (Lib.itoa n = s.data.toList) := by
  rw [ByteArray.toList_eq, ByteArray.toList_eq, Bool.eq_iff_iff]
  unfold itoaB
  simp

set_option maxHeartbeats 1000000 in
theorem readValue_impl (s : ByteArray) (w : World) (hs : s.size ≤ 281474976710656) (hE : Errs w) (hT : Tab w) :
    Calls Tryd.prog 56 #[.string s] w fun e w' => e = .returned (.tuple #[.int .i64 (rvI s.data.toList).1, .bool (rvI s.data.toList).2]) ∧ Gr w w' := by
  have HE := Lib.hid hE
  have HT := Lib.hid hT
  clear hE hT
  rcases hp : Lib.parseIntB 64 s.data.toList with n | _ | _
  · have HP := Lib.hid hp
    have hb := itoa_beq s n
    by_cases hv : vl n = true
    · obtain ⟨v1, v2⟩ := (vl_iff n).1 hv
      by_cases hq : Lib.itoa n = s.data.toList
      · have H := Lib.hid (rvI_ok _ n hp hv hq)
        have HB := Lib.hid (show ((itoaB n).toList == s.toList) = true by rw [hb]; simpa using hq)
        have HV := Lib.hid hv
        clear hp hb hv hq
        go_enter Tryd.func56, Tryd.ntmps56
        have hB := HB.out
        go_wp2_with (first
          | (go_at_call 62; refine (parse_ok s n _ hs HP.out).mono ?_; rintro e w' ⟨rfl, k, os, rfl⟩)
          | (go_at_call 63; refine (isValue_any _ _).mono ?_; rw [HV.out]; rintro e w' ⟨rfl, rfl⟩)
          | (go_at_call 51; refine (formatInt_g _ _ (by omega) (by omega) (HT.out.gr (by repeat (first | with_reducible exact Gr.refl _ | with_reducible refine Gr.alloc ?_ _ | with_reducible refine Gr.gr ?_ _ _ | with_reducible refine Gr.drew ?_ | with_reducible refine Gr.drewN ?_ _)))).mono ?_; rintro e w' ⟨rfl, k, os, rfl⟩))
        go_ret2
        exact ⟨ret_ib (by rw [H.out]) (by rw [H.out]), (by repeat (first | with_reducible exact Gr.refl _ | with_reducible refine Gr.alloc ?_ _ | with_reducible refine Gr.gr ?_ _ _ | with_reducible refine Gr.drew ?_ | with_reducible refine Gr.drewN ?_ _))⟩
      · have H := Lib.hid (rvI_no _ n hp (.inr hq))
        have HB := Lib.hid (show ((itoaB n).toList == s.toList) = false by rw [hb]; simpa using hq)
        have HV := Lib.hid hv
        clear hp hb hv hq
        go_enter Tryd.func56, Tryd.ntmps56
        have hB := HB.out
        go_wp2_with (first
          | (go_at_call 62; refine (parse_ok s n _ hs HP.out).mono ?_; rintro e w' ⟨rfl, k, os, rfl⟩)
          | (go_at_call 63; refine (isValue_any _ _).mono ?_; rw [HV.out]; rintro e w' ⟨rfl, rfl⟩)
          | (go_at_call 51; refine (formatInt_g _ _ (by omega) (by omega) (HT.out.gr (by repeat (first | with_reducible exact Gr.refl _ | with_reducible refine Gr.alloc ?_ _ | with_reducible refine Gr.gr ?_ _ _ | with_reducible refine Gr.drew ?_ | with_reducible refine Gr.drewN ?_ _)))).mono ?_; rintro e w' ⟨rfl, k, os, rfl⟩))
        go_ret2
        exact ⟨ret_ib (by rw [H.out]) (by rw [H.out]), (by repeat (first | with_reducible exact Gr.refl _ | with_reducible refine Gr.alloc ?_ _ | with_reducible refine Gr.gr ?_ _ _ | with_reducible refine Gr.drew ?_ | with_reducible refine Gr.drewN ?_ _))⟩
    · have hv : vl n = false := by simpa using hv
      have H := Lib.hid (rvI_no _ n hp (.inl hv))
      have HV := Lib.hid hv
      clear hp hb hv
      go_enter Tryd.func56, Tryd.ntmps56
      go_wp2_with (first
        | (go_at_call 62; refine (parse_ok s n _ hs HP.out).mono ?_; rintro e w' ⟨rfl, k, os, rfl⟩)
        | (go_at_call 63; refine (isValue_any _ _).mono ?_; rw [HV.out]; rintro e w' ⟨rfl, rfl⟩))
      go_ret2
      exact ⟨ret_ib (by rw [H.out]) (by rw [H.out]), (by repeat (first | with_reducible exact Gr.refl _ | with_reducible refine Gr.alloc ?_ _ | with_reducible refine Gr.gr ?_ _ _ | with_reducible refine Gr.drew ?_ | with_reducible refine Gr.drewN ?_ _))⟩
  all_goals
    have H := Lib.hid (show rvI s.data.toList = (0, false) by first | exact rvI_syn _ hp | exact rvI_ran _ hp)
    have HP := Lib.hid (show Lib.parseIntB 64 s.data.toList = .syntax ∨ Lib.parseIntB 64 s.data.toList = .range by first | exact .inl hp | exact .inr hp)
    clear hp
    go_enter Tryd.func56, Tryd.ntmps56
    go_wp2_with (go_at_call 62; refine (parse_no s _ hs HE.out HP.out).mono ?_; rintro e w' ⟨n, t, v, rfl, k, os, rfl⟩)
    go_ret2
    exact ⟨ret_ib (by rw [H.out]) (by rw [H.out]), (by repeat (first | with_reducible exact Gr.refl _ | with_reducible refine Gr.alloc ?_ _ | with_reducible refine Gr.gr ?_ _ _ | with_reducible refine Gr.drew ?_ | with_reducible refine Gr.drewN ?_ _))⟩

/-- The two numerals of a figure's text, and what a reading of them becomes. -/
def rfx (s : ByteArray) : List UInt8 := (s.extract 0 1 ++ s.extract 2 5).data.toList
def rfy (s : ByteArray) : List UInt8 := (s.extract 6 s.size).data.toList
def rfT (s : ByteArray) (f : (Int × Int) × Int) : (Int × Int) × Int := if h : 7 ≤ s.size then (if s[1].toNat = 46 ∧ s[5].toNat = 101 then f else ((0, 0), 6)) else ((0, 0), 6)
theorem rfT_short (s : ByteArray) (f : (Int × Int) × Int) (h : s.size < 7) : rfT s f = ((0, 0), 6) := dif_neg (by omega)
theorem rfT_ok (s : ByteArray) (f : (Int × Int) × Int) (h : 7 ≤ s.size) (h1 : s[1].toNat = 46) (h5 : s[5].toNat = 101) : rfT s f = f := by unfold rfT; rw [dif_pos h, if_pos ⟨h1, h5⟩]
theorem rfT_no (s : ByteArray) (f : (Int × Int) × Int) (h : 7 ≤ s.size) (h1 : s[1].toNat ≠ 46 ∨ s[5].toNat ≠ 101) : rfT s f = ((0, 0), 6) := by unfold rfT; rw [dif_pos h, if_neg (by omega)]

set_option maxHeartbeats 4000000 in
theorem readFigure_spec_main (s : ByteArray) (w : World) (h7 : ¬ s.size < 7) (c1 : s[1].toNat = 46) (c5 : s[5].toNat = 101) (hs : s.size ≤ 281474976710656) :
    Calls Tryd.prog 30 #[.string s] w fun e w' => e = .returned (.tuple #[.agg #[.int .i64 (rfT s (rf2 (rdv (rfx s)) (rds (rfy s)))).1.1, .int .i64 (rfT s (rf2 (rdv (rfx s)) (rds (rfy s)))).1.2], .int .i64 (rfT s (rf2 (rdv (rfx s)) (rds (rfy s)))).2]) ∧ Gr w w' := by
  have H0 := rfT_ok s (rf2 (rdv (rfx s)) (rds (rfy s))) (by omega) c1 c5
  have e1 : (s.extract 0 1).size = 1 := by simp [ByteArray.size_extract]; omega
  have e2 : (s.extract 2 5).size = 3 := by simp [ByteArray.size_extract]; omega
  have e3 : (s.extract 0 1 ++ s.extract 2 5).size = 4 := by rw [ByteArray.size_append, e1, e2]
  have e4 : (s.extract 6 s.size).size ≤ 281474976710656 := by simp [ByteArray.size_extract]; omega
  have hX : ∀ w', Gr w w' → Calls Tryd.prog 45 #[.string (s.extract 0 1 ++ s.extract 2 5)] w' fun e w'' => e = .returned (.tuple #[.int .i64 (rdv (rfx s)).1, .bool (rdv (rfx s)).2]) ∧ Gr w' w'' := fun w' hg => value_spec _ _ (by unfold maxLen; omega)
  have hY : ∀ w', Gr w w' → Calls Tryd.prog 46 #[.string (s.extract 6 s.size)] w' fun e w'' => e = .returned (.tuple #[.int .i64 (rds (rfy s)).1, .bool (rds (rfy s)).2]) ∧ Gr w' w'' := fun w' hg => signed_spec _ _ (by unfold maxLen; omega)
  skip
  clear e3
  have i1 : (1 : Int) ≤ s.size := by omega
  have i2 : (2 : Int) ≤ s.size := by omega
  have i5 : (5 : Int) ≤ s.size := by omega
  have i6 : (6 : Int) ≤ s.size := by omega
  generalize rdv (rfx s) = a at *
  generalize rds (rfy s) = b at *
  obtain ⟨a1, a2⟩ := a
  obtain ⟨b1, b2⟩ := b
  have hc : (a2 = false ∧ rf2 (a1, a2) (b1, b2) = ((0, 0), 6)) ∨ (a2 = true ∧ b2 = false ∧ rf2 (a1, a2) (b1, b2) = ((0, 0), 6)) ∨ (a2 = true ∧ b2 = true ∧ fg a1 b1 = false ∧ rf2 (a1, a2) (b1, b2) = ((0, 0), 6)) ∨ (a2 = true ∧ b2 = true ∧ fg a1 b1 = true ∧ rf2 (a1, a2) (b1, b2) = ((a1, b1), 0)) := by
    cases a2 <;> cases b2 <;> cases hf : fg a1 b1 <;> simp [rf2, hf]
  rcases hc with ⟨rfl, hr⟩ | ⟨rfl, rfl, hr⟩ | ⟨rfl, rfl, hf, hr⟩ | ⟨rfl, rfl, hf, hr⟩
  rotate_left 3
  · have H := Lib.hid (H0.trans hr)
    try have HF := Lib.hid hf
    try clear hf
    clear hr H0
    go_enter Tryd.func30, Tryd.ntmps30
    go_wp2
    ((first | refine region_gr_on (by kernel_rfl) (by kernel_rfl) ?_ | refine region_gr (by kernel_rfl) (by kernel_rfl) ?_); (repeat (quiet_step (exact Calls.gr_of (hX _ (by repeat (first | with_reducible exact Gr.refl _ | with_reducible refine Gr.alloc ?_ _ | with_reducible refine Gr.gr ?_ _ _ | with_reducible refine Gr.drew ?_ | with_reducible refine Gr.drewN ?_ _)))))); refine wpQuiet_nil ?_; intro _ hw'; obtain ⟨⟨kq, oq⟩, hw''⟩ := hw'; subst hw'')
    go_wp2_with (first
      | (go_at_call 46; refine (hY _ (by repeat (first | with_reducible exact Gr.refl _ | with_reducible refine Gr.alloc ?_ _ | with_reducible refine Gr.gr ?_ _ _ | with_reducible refine Gr.drew ?_ | with_reducible refine Gr.drewN ?_ _))).mono ?_; rintro e w' ⟨rfl, k, os, rfl⟩)
      | (go_at_call 38; refine (isFigure_spec _ _ _).mono ?_; rw [HF.out]; rintro e w' ⟨rfl, k, os, rfl⟩))
    ((try simp only [Exit.inBlock, Exit.then]); refine bodyPost_ret (v := .tuple #[.agg #[.int .i64 a1, .int .i64 b1], .int .i64 0]) (by simp [results, Tryd.results30, go_sem]) rfl ?_)
    exact ⟨ret_fig (by rw [H.out]) (by rw [H.out]) (by rw [H.out]), (by repeat (first | with_reducible exact Gr.refl _ | with_reducible refine Gr.alloc ?_ _ | with_reducible refine Gr.gr ?_ _ _ | with_reducible refine Gr.drew ?_ | with_reducible refine Gr.drewN ?_ _))⟩
  all_goals
    have H := Lib.hid (H0.trans hr)
    try have HF := Lib.hid hf
    try clear hf
    clear hr H0
    go_enter Tryd.func30, Tryd.ntmps30
    go_wp2
    ((first | refine region_gr_on (by kernel_rfl) (by kernel_rfl) ?_ | refine region_gr (by kernel_rfl) (by kernel_rfl) ?_); (repeat (quiet_step (exact Calls.gr_of (hX _ (by repeat (first | with_reducible exact Gr.refl _ | with_reducible refine Gr.alloc ?_ _ | with_reducible refine Gr.gr ?_ _ _ | with_reducible refine Gr.drew ?_ | with_reducible refine Gr.drewN ?_ _)))))); refine wpQuiet_nil ?_; intro _ hw'; obtain ⟨⟨kq, oq⟩, hw''⟩ := hw'; subst hw'')
    go_wp2_with (first
      | (go_at_call 46; refine (hY _ (by repeat (first | with_reducible exact Gr.refl _ | with_reducible refine Gr.alloc ?_ _ | with_reducible refine Gr.gr ?_ _ _ | with_reducible refine Gr.drew ?_ | with_reducible refine Gr.drewN ?_ _))).mono ?_; rintro e w' ⟨rfl, k, os, rfl⟩)
      | (go_at_call 38; refine (isFigure_spec _ _ _).mono ?_; rw [HF.out]; rintro e w' ⟨rfl, k, os, rfl⟩))
    ((try simp only [Exit.inBlock, Exit.then]); refine bodyPost_ret (v := .tuple #[.agg #[.int .i64 0, .int .i64 0], .int .i64 6]) (by simp [results, Tryd.results30, go_sem]) rfl ?_)
    exact ⟨ret_fig (by rw [H.out]) (by rw [H.out]) (by rw [H.out]), (by repeat (first | with_reducible exact Gr.refl _ | with_reducible refine Gr.alloc ?_ _ | with_reducible refine Gr.gr ?_ _ _ | with_reducible refine Gr.drew ?_ | with_reducible refine Gr.drewN ?_ _))⟩

set_option maxHeartbeats 1000000 in
theorem readFigure_spec (s : ByteArray) (w : World) (hs : s.size ≤ 281474976710656) :
    Calls Tryd.prog 30 #[.string s] w fun e w' => e = .returned (.tuple #[.agg #[.int .i64 (rfT s (rf2 (rdv (rfx s)) (rds (rfy s)))).1.1, .int .i64 (rfT s (rf2 (rdv (rfx s)) (rds (rfy s)))).1.2], .int .i64 (rfT s (rf2 (rdv (rfx s)) (rds (rfy s)))).2]) ∧ Gr w w' := by
  by_cases h7 : s.size < 7
  · have H := Lib.hid (rfT_short s (rf2 (rdv (rfx s)) (rds (rfy s))) h7)
    go_enter Tryd.func30, Tryd.ntmps30
    go_wp2
    ((try simp only [Exit.inBlock, Exit.then]); refine bodyPost_ret (v := .tuple #[.agg #[.int .i64 0, .int .i64 0], .int .i64 6]) (by simp [results, Tryd.results30, go_sem]) rfl ?_)
    exact ⟨ret_fig (by rw [H.out]) (by rw [H.out]) (by rw [H.out]), (by repeat (first | with_reducible exact Gr.refl _ | with_reducible refine Gr.alloc ?_ _ | with_reducible refine Gr.gr ?_ _ _ | with_reducible refine Gr.drew ?_ | with_reducible refine Gr.drewN ?_ _))⟩
  by_cases c1 : s[1].toNat = 46
  · by_cases c5 : s[5].toNat = 101
    · exact readFigure_spec_main s w h7 c1 c5 hs
    · have H := Lib.hid (rfT_no s (rf2 (rdv (rfx s)) (rds (rfy s))) (by omega) (.inr c5))
      have c5b : ((s[5].toNat : Int) != 101) = true := by simp; omega
      go_enter Tryd.func30, Tryd.ntmps30
      go_wp2
      ((try simp only [Exit.inBlock, Exit.then]); refine bodyPost_ret (v := .tuple #[.agg #[.int .i64 0, .int .i64 0], .int .i64 6]) (by simp [results, Tryd.results30, go_sem]) rfl ?_)
      exact ⟨ret_fig (by rw [H.out]) (by rw [H.out]) (by rw [H.out]), (by repeat (first | with_reducible exact Gr.refl _ | with_reducible refine Gr.alloc ?_ _ | with_reducible refine Gr.gr ?_ _ _ | with_reducible refine Gr.drew ?_ | with_reducible refine Gr.drewN ?_ _))⟩
  · have H := Lib.hid (rfT_no s (rf2 (rdv (rfx s)) (rds (rfy s))) (by omega) (.inl c1))
    have c1b : ((s[1].toNat : Int) != 46) = true := by simp; omega
    go_enter Tryd.func30, Tryd.ntmps30
    go_wp2
    ((try simp only [Exit.inBlock, Exit.then]); refine bodyPost_ret (v := .tuple #[.agg #[.int .i64 0, .int .i64 0], .int .i64 6]) (by simp [results, Tryd.results30, go_sem]) rfl ?_)
    exact ⟨ret_fig (by rw [H.out]) (by rw [H.out]) (by rw [H.out]), (by repeat (first | with_reducible exact Gr.refl _ | with_reducible refine Gr.alloc ?_ _ | with_reducible refine Gr.gr ?_ _ _ | with_reducible refine Gr.drew ?_ | with_reducible refine Gr.drewN ?_ _))⟩

set_option maxHeartbeats 4000000 in
theorem readFigure_impl_main (s : ByteArray) (w : World) (h7 : ¬ s.size < 7) (c1 : s[1].toNat = 46) (c5 : s[5].toNat = 101) (hs : s.size ≤ 281474976710656) (hE : Errs w) (hT : Tab w) :
    Calls Tryd.prog 44 #[.string s] w fun e w' => e = .returned (.tuple #[.agg #[.int .i64 (rfT s (rf2 (rvI (rfx s)) (rvI (rfy s)))).1.1, .int .i64 (rfT s (rf2 (rvI (rfx s)) (rvI (rfy s)))).1.2], .int .i64 (rfT s (rf2 (rvI (rfx s)) (rvI (rfy s)))).2]) ∧ Gr w w' := by
  have H0 := rfT_ok s (rf2 (rvI (rfx s)) (rvI (rfy s))) (by omega) c1 c5
  have e1 : (s.extract 0 1).size = 1 := by simp [ByteArray.size_extract]; omega
  have e2 : (s.extract 2 5).size = 3 := by simp [ByteArray.size_extract]; omega
  have e3 : (s.extract 0 1 ++ s.extract 2 5).size = 4 := by rw [ByteArray.size_append, e1, e2]
  have e4 : (s.extract 6 s.size).size ≤ 281474976710656 := by simp [ByteArray.size_extract]; omega
  have hX : ∀ w', Gr w w' → Calls Tryd.prog 56 #[.string (s.extract 0 1 ++ s.extract 2 5)] w' fun e w'' => e = .returned (.tuple #[.int .i64 (rvI (rfx s)).1, .bool (rvI (rfx s)).2]) ∧ Gr w' w'' := fun w' hg => readValue_impl _ _ (by omega) (hE.gr hg) (hT.gr hg)
  have hY : ∀ w', Gr w w' → Calls Tryd.prog 56 #[.string (s.extract 6 s.size)] w' fun e w'' => e = .returned (.tuple #[.int .i64 (rvI (rfy s)).1, .bool (rvI (rfy s)).2]) ∧ Gr w' w'' := fun w' hg => readValue_impl _ _ e4 (hE.gr hg) (hT.gr hg)
  clear hE hT
  clear e3
  have i1 : (1 : Int) ≤ s.size := by omega
  have i2 : (2 : Int) ≤ s.size := by omega
  have i5 : (5 : Int) ≤ s.size := by omega
  have i6 : (6 : Int) ≤ s.size := by omega
  generalize rvI (rfx s) = a at *
  generalize rvI (rfy s) = b at *
  obtain ⟨a1, a2⟩ := a
  obtain ⟨b1, b2⟩ := b
  have hc : (a2 = false ∧ rf2 (a1, a2) (b1, b2) = ((0, 0), 6)) ∨ (a2 = true ∧ b2 = false ∧ rf2 (a1, a2) (b1, b2) = ((0, 0), 6)) ∨ (a2 = true ∧ b2 = true ∧ fg a1 b1 = false ∧ rf2 (a1, a2) (b1, b2) = ((0, 0), 6)) ∨ (a2 = true ∧ b2 = true ∧ fg a1 b1 = true ∧ rf2 (a1, a2) (b1, b2) = ((a1, b1), 0)) := by
    cases a2 <;> cases b2 <;> cases hf : fg a1 b1 <;> simp [rf2, hf]
  rcases hc with ⟨rfl, hr⟩ | ⟨rfl, rfl, hr⟩ | ⟨rfl, rfl, hf, hr⟩ | ⟨rfl, rfl, hf, hr⟩
  rotate_left 3
  · have H := Lib.hid (H0.trans hr)
    try have HF := Lib.hid hf
    try clear hf
    clear hr H0
    go_enter Tryd.func44, Tryd.ntmps44
    go_wp2
    ((first | refine region_gr_on (by kernel_rfl) (by kernel_rfl) ?_ | refine region_gr (by kernel_rfl) (by kernel_rfl) ?_); (repeat (quiet_step (exact Calls.gr_of (hX _ (by repeat (first | with_reducible exact Gr.refl _ | with_reducible refine Gr.alloc ?_ _ | with_reducible refine Gr.gr ?_ _ _ | with_reducible refine Gr.drew ?_ | with_reducible refine Gr.drewN ?_ _)))))); refine wpQuiet_nil ?_; intro _ hw'; obtain ⟨⟨kq, oq⟩, hw''⟩ := hw'; subst hw'')
    go_wp2_with (first
      | (go_at_call 56; refine (hY _ (by repeat (first | with_reducible exact Gr.refl _ | with_reducible refine Gr.alloc ?_ _ | with_reducible refine Gr.gr ?_ _ _ | with_reducible refine Gr.drew ?_ | with_reducible refine Gr.drewN ?_ _))).mono ?_; rintro e w' ⟨rfl, k, os, rfl⟩)
      | (go_at_call 35; refine (isFigure_impl _ _ _).mono ?_; rw [HF.out]; rintro e w' ⟨rfl, k, os, rfl⟩))
    ((try simp only [Exit.inBlock, Exit.then]); refine bodyPost_ret (v := .tuple #[.agg #[.int .i64 a1, .int .i64 b1], .int .i64 0]) (by simp [results, Tryd.results44, go_sem]) rfl ?_)
    exact ⟨ret_fig (by rw [H.out]) (by rw [H.out]) (by rw [H.out]), (by repeat (first | with_reducible exact Gr.refl _ | with_reducible refine Gr.alloc ?_ _ | with_reducible refine Gr.gr ?_ _ _ | with_reducible refine Gr.drew ?_ | with_reducible refine Gr.drewN ?_ _))⟩
  all_goals
    have H := Lib.hid (H0.trans hr)
    try have HF := Lib.hid hf
    try clear hf
    clear hr H0
    go_enter Tryd.func44, Tryd.ntmps44
    go_wp2
    ((first | refine region_gr_on (by kernel_rfl) (by kernel_rfl) ?_ | refine region_gr (by kernel_rfl) (by kernel_rfl) ?_); (repeat (quiet_step (exact Calls.gr_of (hX _ (by repeat (first | with_reducible exact Gr.refl _ | with_reducible refine Gr.alloc ?_ _ | with_reducible refine Gr.gr ?_ _ _ | with_reducible refine Gr.drew ?_ | with_reducible refine Gr.drewN ?_ _)))))); refine wpQuiet_nil ?_; intro _ hw'; obtain ⟨⟨kq, oq⟩, hw''⟩ := hw'; subst hw'')
    go_wp2_with (first
      | (go_at_call 56; refine (hY _ (by repeat (first | with_reducible exact Gr.refl _ | with_reducible refine Gr.alloc ?_ _ | with_reducible refine Gr.gr ?_ _ _ | with_reducible refine Gr.drew ?_ | with_reducible refine Gr.drewN ?_ _))).mono ?_; rintro e w' ⟨rfl, k, os, rfl⟩)
      | (go_at_call 35; refine (isFigure_impl _ _ _).mono ?_; rw [HF.out]; rintro e w' ⟨rfl, k, os, rfl⟩))
    ((try simp only [Exit.inBlock, Exit.then]); refine bodyPost_ret (v := .tuple #[.agg #[.int .i64 0, .int .i64 0], .int .i64 6]) (by simp [results, Tryd.results44, go_sem]) rfl ?_)
    exact ⟨ret_fig (by rw [H.out]) (by rw [H.out]) (by rw [H.out]), (by repeat (first | with_reducible exact Gr.refl _ | with_reducible refine Gr.alloc ?_ _ | with_reducible refine Gr.gr ?_ _ _ | with_reducible refine Gr.drew ?_ | with_reducible refine Gr.drewN ?_ _))⟩

set_option maxHeartbeats 1000000 in
theorem readFigure_impl (s : ByteArray) (w : World) (hs : s.size ≤ 281474976710656) (hE : Errs w) (hT : Tab w) :
    Calls Tryd.prog 44 #[.string s] w fun e w' => e = .returned (.tuple #[.agg #[.int .i64 (rfT s (rf2 (rvI (rfx s)) (rvI (rfy s)))).1.1, .int .i64 (rfT s (rf2 (rvI (rfx s)) (rvI (rfy s)))).1.2], .int .i64 (rfT s (rf2 (rvI (rfx s)) (rvI (rfy s)))).2]) ∧ Gr w w' := by
  by_cases h7 : s.size < 7
  · have H := Lib.hid (rfT_short s (rf2 (rvI (rfx s)) (rvI (rfy s))) h7)
    go_enter Tryd.func44, Tryd.ntmps44
    go_wp2
    ((try simp only [Exit.inBlock, Exit.then]); refine bodyPost_ret (v := .tuple #[.agg #[.int .i64 0, .int .i64 0], .int .i64 6]) (by simp [results, Tryd.results44, go_sem]) rfl ?_)
    exact ⟨ret_fig (by rw [H.out]) (by rw [H.out]) (by rw [H.out]), (by repeat (first | with_reducible exact Gr.refl _ | with_reducible refine Gr.alloc ?_ _ | with_reducible refine Gr.gr ?_ _ _ | with_reducible refine Gr.drew ?_ | with_reducible refine Gr.drewN ?_ _))⟩
  by_cases c1 : s[1].toNat = 46
  · by_cases c5 : s[5].toNat = 101
    · exact readFigure_impl_main s w h7 c1 c5 hs hE hT
    · have H := Lib.hid (rfT_no s (rf2 (rvI (rfx s)) (rvI (rfy s))) (by omega) (.inr c5))
      have c5b : ((s[5].toNat : Int) != 101) = true := by simp; omega
      go_enter Tryd.func44, Tryd.ntmps44
      go_wp2
      ((try simp only [Exit.inBlock, Exit.then]); refine bodyPost_ret (v := .tuple #[.agg #[.int .i64 0, .int .i64 0], .int .i64 6]) (by simp [results, Tryd.results44, go_sem]) rfl ?_)
      exact ⟨ret_fig (by rw [H.out]) (by rw [H.out]) (by rw [H.out]), (by repeat (first | with_reducible exact Gr.refl _ | with_reducible refine Gr.alloc ?_ _ | with_reducible refine Gr.gr ?_ _ _ | with_reducible refine Gr.drew ?_ | with_reducible refine Gr.drewN ?_ _))⟩
  · have H := Lib.hid (rfT_no s (rf2 (rvI (rfx s)) (rvI (rfy s))) (by omega) (.inl c1))
    have c1b : ((s[1].toNat : Int) != 46) = true := by simp; omega
    go_enter Tryd.func44, Tryd.ntmps44
    go_wp2
    ((try simp only [Exit.inBlock, Exit.then]); refine bodyPost_ret (v := .tuple #[.agg #[.int .i64 0, .int .i64 0], .int .i64 6]) (by simp [results, Tryd.results44, go_sem]) rfl ?_)
    exact ⟨ret_fig (by rw [H.out]) (by rw [H.out]) (by rw [H.out]), (by repeat (first | with_reducible exact Gr.refl _ | with_reducible refine Gr.alloc ?_ _ | with_reducible refine Gr.gr ?_ _ _ | with_reducible refine Gr.drew ?_ | with_reducible refine Gr.drewN ?_ _))⟩
end Go.Proofs.YtphebmbapllinaaDoor

/- Texts of lists, in the program and in the model. -/
namespace Go.Proofs.YtphebmbapllinaaDoor
open Go.RowKit
set_option linter.unusedVariables false
set_option linter.unusedSimpArgs false

theorem join_snoc (l : List (List UInt8)) (x sep : List UInt8) : Lib.join (l ++ [x]) sep = if l = [] then x else Lib.join l sep ++ sep ++ x := by
  cases l with
  | nil => simp [Lib.join_one]
  | cons a r =>
    rw [List.cons_append, Lib.join_cons, Lib.join_cons, if_neg (by simp)]
    simp [Lib.joinTail]
theorem joinTail_len (r : List (List UInt8)) (h : ∀ x ∈ r, x.length ≤ 20) : (Lib.joinTail [44] r).length ≤ 21 * r.length := by
  induction r with
  | nil => simp [Lib.joinTail]
  | cons a r ih =>
    have h1 := h a (by simp)
    have h2 := ih (fun x hx => h x (by simp [hx]))
    unfold Lib.joinTail at *
    simp only [List.map_cons, List.flatten_cons, List.length_append, List.length_cons, List.length_nil] at *
    omega
theorem join_len (l : List (List UInt8)) (h : ∀ x ∈ l, x.length ≤ 20) : (Lib.join l [44]).length ≤ 21 * l.length := by
  cases l with
  | nil => simp [Lib.join_nil]
  | cons a r =>
    have h1 := h a (by simp)
    have h2 := joinTail_len r (fun x hx => h x (by simp [hx]))
    rw [Lib.join_cons, List.length_append, List.length_cons]
    omega

/-- The joined numerals of the first k elements. -/
def jB (zs : List Int) (k : Nat) : ByteArray := ⟨(Lib.join ((zs.take k).map Lib.itoa) [44]).toArray⟩
theorem jB_zero (zs : List Int) : jB zs 0 = ⟨#[]⟩ := by unfold jB; simp [Lib.join_nil]
theorem jB_one {zs : List Int} {z : Int} (h : zs[0]? = some z) : jB zs 1 = itoaB z := by
  cases zs with
  | nil => cases h
  | cons a r => simp at h; subst h; unfold jB itoaB; simp [Lib.join_one]
theorem jB_succ {zs : List Int} {k : Nat} {z : Int} (h : zs[k]? = some z) (hk : 0 < k) : jB zs (k + 1) = jB zs k ++ ⟨#[44]⟩ ++ itoaB z := by
  obtain ⟨hl, e⟩ := List.getElem?_eq_some_iff.1 h
  unfold jB itoaB
  rw [List.take_succ_eq_append_getElem hl, e, List.map_append, List.map_cons, List.map_nil, join_snoc, if_neg (by
    intro h0
    rw [List.map_eq_nil_iff, List.take_eq_nil_iff] at h0
    rcases h0 with h0 | h0
    · omega
    · rw [h0] at hl; simp at hl)]
  rw [ByteArray.mk_append_mk, ByteArray.mk_append_mk]
theorem itoa_short (z : Int) (h : vl z = true) : (Lib.itoa z).length ≤ 20 := by
  obtain ⟨a, b⟩ := (vl_iff z).1 h
  have := (itoa_len z a b).2
  unfold itoaB at this
  change (List.toArray _).size ≤ 20 at this
  rwa [List.size_toArray] at this
theorem jB_size (zs : List Int) (k : Nat) (h : allv zs = true) (hk : k ≤ zs.length) : (jB zs k).size ≤ 21 * k := by
  unfold jB
  show (List.toArray _).size ≤ 21 * k
  rw [List.size_toArray]
  have := join_len ((zs.take k).map Lib.itoa) (fun x hx => by
    obtain ⟨z, hz, rfl⟩ := List.mem_map.1 hx
    unfold allv at h
    rw [List.all_eq_true] at h
    exact itoa_short z (h z (List.mem_of_mem_take hz)))
  rw [List.length_map, List.length_take] at this
  omega
theorem app_empty (s : ByteArray) : (⟨#[]⟩ : ByteArray) ++ s = s := by
  obtain ⟨⟨l⟩⟩ := s
  have := ByteArray.mk_append_mk [] l
  simpa using this

end Go.Proofs.YtphebmbapllinaaDoor

/- Contracts: ListText, in the program and in the model. -/
namespace Go.Proofs.YtphebmbapllinaaDoor
open Go.RowKit
set_option linter.unusedVariables false
set_option linter.unusedSimpArgs false

/-- The text of a list and its code. -/
def lt0 (zs : List Int) : Bool := allv zs && decide ((zs.length : Int) ≤ 100)
def ltS (zs : List Int) : ByteArray := if lt0 zs = true then (if zs = [] then ⟨#[45]⟩ else jB zs zs.length) else ⟨#[]⟩
def ltC (zs : List Int) : Int := if lt0 zs = true then 0 else 2
theorem lt_no (zs : List Int) (h : lt0 zs = false) : ltS zs = ⟨#[]⟩ ∧ ltC zs = 2 := ⟨if_neg (by rw [h]; simp), if_neg (by rw [h]; simp)⟩
theorem lt_nil (zs : List Int) (h : zs.length = 0) : ltS zs = ⟨#[45]⟩ ∧ ltC zs = 0 ∧ lt0 zs = true := by
  have e := List.length_eq_zero_iff.1 h
  subst e
  exact ⟨rfl, rfl, rfl⟩
theorem lt_ok (zs : List Int) (h : lt0 zs = true) (h1 : 0 < zs.length) : ltS zs = jB zs zs.length ∧ ltC zs = 0 := by
  have hne : zs ≠ [] := by intro e; rw [e] at h1; simp at h1
  exact ⟨by unfold ltS; rw [if_pos h, if_neg hne], if_pos h⟩

def vs (z : Int) : Value := .string (itoaB z)
theorem mkStrs (n : Nat) (hn : n ≤ 16777216) (w : World) :
    (Instr.makeSlice 68 (.int .i64 (n : Int)) (.int .i64 (n : Int))).run Tryd.prog w = .ok (.slice (some ⟨w.heap.size, 0, none⟩) n n) (w.alloc (.cells (List.replicate n (.string ⟨#[]⟩)).toArray 9)) :=
  run_mk (b := 16) Tryd.underlying68 (by kernel_rfl) rfl (by omega) n hn w
theorem itoa_data (z : Int) : (itoaB z).data.toList = Lib.itoa z := rfl

end Go.Proofs.YtphebmbapllinaaDoor

/- Contracts: a text split at commas, numbers out of pieces, in the model. -/
namespace Go.Proofs.YtphebmbapllinaaDoor
open Go.RowKit Go.ChangeShapes Go.WideShapes Go.ChangeAt
set_option linter.unusedVariables false
set_option linter.unusedSimpArgs false

def sv (p : List UInt8) : Value := .string ⟨p.toArray⟩
/-- A slice of the call's own, of some capacity. -/
def Owns (w : World) (base : Nat) (t : TypeId) (v : Value) (xs : List Value) : Prop := w.ownsRow base t 1 v xs.length xs ∧ ∃ g cap, v = .slice (some ⟨g, 0, none⟩) xs.length cap
theorem Owns.new (w : World) (t : TypeId) (base : Nat) (h : base ≤ w.heap.size) : Owns (w.alloc (.cells #[] t)) base t (.slice (some ⟨w.heap.size, 0, none⟩) 0 0) [] :=
  ⟨World.ownsRow_made w #[] 0 h (by simp [maxLen]) rfl, _, _, rfl⟩
theorem Owns.reads {w : World} {base : Nat} {t : TypeId} {v : Value} {xs : List Value} (h : Owns w base t v xs) : ∃ g cap, v = .slice (some ⟨g, 0, none⟩) xs.length cap ∧ base ≤ g ∧ g < w.heap.size ∧ Reads w w.heap.size (some ⟨g, 0, none⟩) xs := by
  obtain ⟨h1, g, cap, rfl⟩ := h
  have hl := h1.lt g rfl
  refine ⟨g, cap, rfl, hl.1, hl.2, fun k hk => ⟨g, 0, rfl, hl.2, ?_⟩⟩
  have := h1.cells (g := g) rfl k xs[k] (List.getElem?_eq_getElem hk)
  rw [show (⟨g, 0, none⟩ : Addr).add k = ⟨g, 0 + k, none⟩ from add_plain ..] at this
  exact this
/-- What an append of one element leaves. -/
theorem Owns.app {w wr w1 : World} {base : Nat} {t : TypeId} {v v' : Value} {xs : List Value} {x : Value} {o : Obj} (h : Owns wr base t v xs) (hb : Below base w wr) (h' : w1.ownsRow base t 1 v' (xs.length + 1) (xs ++ [x])) (hg : (wr.alloc o).grownBy w1 v.ownBlock) :
    Owns w1 base t v' (xs ++ [x]) ∧ Below base w w1 := by
  obtain ⟨g, cap, e⟩ := ownsRow_succ h'
  refine ⟨⟨by rw [List.length_append]; exact h', g, cap, by rw [List.length_append]; exact e⟩, ?_⟩
  have hl := h.1.lt
  have hB : base ≤ wr.heap.size := by
    obtain ⟨g0, cap0, e0⟩ := h.2
    have := hl g0 (by rw [e0]; rfl)
    omega
  have h2 := hb.alloc hB o
  exact ⟨hg.os.trans h2.os, hg.tape.trans h2.tape, hg.output.trans h2.output, Nat.le_trans h2.size hg.size, fun k hk => (hg.block k (by simp; omega) (fun e => by
    have := (hl k (by rw [← e])).1
    omega)).trans (h2.block k hk)⟩

theorem info_str : (Tryd.prog.info? 9).map (fun i => (i.zero, i.size, i.bytes)) = some (some (.string ⟨#[]⟩), 1, 16) := by kernel_rfl
theorem info_int : (Tryd.prog.info? 2).map (fun i => (i.zero, i.size, i.bytes)) = some (some (.int .i64 0), 1, 8) := by kernel_rfl

/-- What holds at the head of the loop that splits. -/
def SpI (s : ByteArray) (w wr : World) (k f : Nat) (v : Value) : Prop :=
  (k ≤ s.size ∧ f ≤ k ∧ ∃ done : List (List UInt8), spl (s.data.toList.take k) = done ++ [(s.data.toList.take k).drop f] ∧ done.length ≤ k ∧ Owns wr w.heap.size 9 v (done.map sv)) ∨
  (k = s.size + 1 ∧ Owns wr w.heap.size 9 v ((spl s.data.toList).map sv))

theorem ext_sv (s : ByteArray) (f k : Nat) : Value.string (s.extract f k) = sv ((s.data.toList.take k).drop f) := by
  unfold sv
  congr 1
  have h : (s.extract f k).data.toList = (s.data.toList.take k).drop f := by
    rw [Lib.extract_data, List.drop_take]
  rw [← h]

/-- The numbers that the first k pieces spell. -/
def val (f : List UInt8 → Int × Bool) (ws : List (List UInt8)) : List Int := ws.map fun x => (f x).1
theorem val_snoc {f : List UInt8 → Int × Bool} {ws : List (List UInt8)} {k : Nat} {p : List UInt8} (h : ws[k]? = some p) : val f (ws.take (k + 1)) = val f (ws.take k) ++ [(f p).1] := by
  obtain ⟨hk, e⟩ := List.getElem?_eq_some_iff.1 h
  unfold val
  rw [List.take_succ_eq_append_getElem hk, List.map_append, e]; rfl
theorem oks_snoc {f : List UInt8 → Int × Bool} {ws : List (List UInt8)} {k : Nat} {p : List UInt8} (h : ws[k]? = some p) (ha : (ws.take k).all (fun x => (f x).2) = true) (hp : (f p).2 = true) : (ws.take (k + 1)).all (fun x => (f x).2) = true := by
  obtain ⟨hk, e⟩ := List.getElem?_eq_some_iff.1 h
  rw [List.take_succ_eq_append_getElem hk, List.all_append, ha, e]; simp [hp]
theorem numR_bad {f : List UInt8 → Int × Bool} {ws : List (List UInt8)} {k : Nat} {p : List UInt8} (h : ws[k]? = some p) (hp : (f p).2 = false) : numR f ws = none := by
  unfold numR
  rw [if_neg]
  intro hc
  rw [List.all_eq_true] at hc
  rw [hc p (List.mem_of_getElem? h)] at hp; cases hp
theorem numR_all {f : List UInt8 → Int × Bool} {ws : List (List UInt8)} (h : ws.all (fun x => (f x).2) = true) : numR f ws = some (val f ws) := if_pos h

/-- Numbers were read, or none. -/
def Nums (r : Option (List Int)) (w : World) (e : Ending) (w' : World) : Prop :=
  match r with
  | none => e = .returned (.tuple #[.slice none 0 0, .bool false]) ∧ Below w.heap.size w w'
  | some zs => ∃ v, e = .returned (.tuple #[v, .bool true]) ∧ Owns w' w.heap.size 2 v (zs.map vi) ∧ Below w.heap.size w w'

end Go.Proofs.YtphebmbapllinaaDoor

/- Contracts: ReadList, in the program and in the model. -/
namespace Go.Proofs.YtphebmbapllinaaDoor
open Go.RowKit Go.ChangeShapes Go.WideShapes Go.ChangeAt
set_option linter.unusedVariables false
set_option linter.unusedSimpArgs false

/-- A list was read, or none. -/
def RL (r : Option (List Int)) (w : World) (e : Ending) (w' : World) : Prop :=
  match r with
  | none => e = .returned (.tuple #[.slice none 0 0, .int .i64 6]) ∧ Below w.heap.size w w'
  | some zs => ∃ g cap, e = .returned (.tuple #[.slice (some ⟨g, 0, none⟩) zs.length cap, .int .i64 0]) ∧ w.heap.size ≤ g ∧ g < w'.heap.size ∧ Reads w' w'.heap.size (some ⟨g, 0, none⟩) (zs.map vi) ∧ Below w.heap.size w w'
theorem Owns.kept_gr {w w' : World} {base : Nat} {t : TypeId} {v : Value} {xs : List Value} (h : Owns w base t v xs) (hb : Below w.heap.size w w') : Owns w' base t v xs :=
  ⟨h.1.kept ⟨hb.os, hb.tape, hb.output, hb.size, fun k hk _ => hb.block k hk⟩ (row := none) (by cases v.ownBlock <;> simp), h.2⟩
theorem rlS_dash (l : List UInt8) (h : l = [45]) : rlS l = some [] := if_pos h
theorem rlS_none (l : List UInt8) (h : l ≠ [45]) (hr : numR rds (spl l) = none) : rlS l = none := by unfold rlS; rw [if_neg h, hr]
theorem rlS_some (l : List UInt8) (zs : List Int) (h : l ≠ [45]) (hr : numR rds (spl l) = some zs) : rlS l = if (allv zs && decide ((zs.length : Int) ≤ 100)) = true then some zs else none := by unfold rlS; rw [if_neg h, hr]; rfl

end Go.Proofs.YtphebmbapllinaaDoor

/- Contracts: ReadList in the program. -/
namespace Go.Proofs.YtphebmbapllinaaDoor
open Go.RowKit Go.ChangeShapes Go.WideShapes Go.ChangeAt
set_option linter.unusedVariables false
set_option linter.unusedSimpArgs false

/-- A list was read into a block of its own, or none. -/
def RLW (r : Option (List Int)) (w : World) (e : Ending) (w' : World) : Prop :=
  match r with
  | none => e = .returned (.tuple #[.slice none 0 0, .int .i64 6]) ∧ Below w.heap.size w w'
  | some zs => ∃ g, e = .returned (.tuple #[.slice (some ⟨g, 0, none⟩) zs.length zs.length, .int .i64 0]) ∧ w.heap.size ≤ g ∧ Row w' g 2 (zs.map vi) ∧ Below w.heap.size w w'
theorem rlI_dash (l : List UInt8) (h : l = [45]) : rlI l = some [] := if_pos h
theorem rlI_far (l : List UInt8) (h : l ≠ [45]) (hr : 100 < (spl l).length) : rlI l = none := by unfold rlI; rw [if_neg h, if_pos hr]
theorem rlI_num (l : List UInt8) (h : l ≠ [45]) (hr : (spl l).length ≤ 100) : rlI l = numR rvI (spl l) := by unfold rlI; rw [if_neg h, if_neg (by omega)]

/-- The pieces that SplitN makes. -/
def pcs (s : ByteArray) : List ByteArray := Lib.splitB ⟨#[44]⟩ 0 (min 101 (s.size + 1) - 1) s
theorem pcs_far (s : ByteArray) (h : 100 < (spl s.data.toList).length) : 100 < (pcs s).length := by
  have e : (pcs s).map (·.data.toList) = Lib.splitK [44] 0 (min 101 (s.size + 1) - 1) s.data.toList := Lib.splitB_data ⟨#[44]⟩ 0 _ s
  have hl : (pcs s).length = (Lib.splitK [44] 0 (min 101 (s.size + 1) - 1) s.data.toList).length := by rw [← e, List.length_map]
  have hs := spl_length s.data.toList
  rw [len_data] at hs
  obtain ⟨h1, h2⟩ := splitK_spl (min 101 (s.size + 1) - 1) s.data.toList
  by_cases hc : (spl s.data.toList).length ≤ min 101 (s.size + 1) - 1 + 1
  · rw [hl, h1 hc]; exact h
  · rw [hl, h2 (by omega)]; omega
theorem pcs_all (s : ByteArray) (h : (spl s.data.toList).length ≤ 100) : (pcs s).map Value.string = (spl s.data.toList).map sv := by
  have e : (pcs s).map (·.data.toList) = Lib.splitK [44] 0 (min 101 (s.size + 1) - 1) s.data.toList := Lib.splitB_data ⟨#[44]⟩ 0 _ s
  have hs := spl_length s.data.toList
  rw [len_data] at hs
  obtain ⟨h1, -⟩ := splitK_spl (min 101 (s.size + 1) - 1) s.data.toList
  rw [← h1 (by omega), ← e, List.map_map]
  rfl
theorem pcs_len (s : ByteArray) (h : (spl s.data.toList).length ≤ 100) : (pcs s).length = (spl s.data.toList).length := by
  have := congrArg List.length (pcs_all s h)
  rwa [List.length_map, List.length_map] at this

end Go.Proofs.YtphebmbapllinaaDoor
