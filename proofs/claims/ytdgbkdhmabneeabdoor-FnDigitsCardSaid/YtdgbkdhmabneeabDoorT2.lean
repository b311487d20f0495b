/- Numbers of digits, in the program and in the model. -/
import Derived.Test.YtdgbkdhmabneeabDoorT1
import Derived.Test.YtdgbkdhmabneeabDoorShelf
import Derived.Lib.AppendIntMem
import Derived.Lib.LaidTab
namespace Go.Proofs.YtdgbkdhmabneeabDoor
open Go.RowKit
set_option linter.unusedVariables false
set_option linter.unusedSimpArgs false

/-- The library's table of powers of ten is as its text lays it. -/
def Tab (w : World) : Prop := Lib.TabIs Tryd.prog w "internal/strconv.uint64pow10" .u64 Lib.pow10Tab

theorem Tab.later {w w' : World} (h : Tab w) (hb : Below w.heap.size w w') : Tab w' := (Lib.tabBelow_of_tabIs h) w' hb

theorem formatInt_any (n : Int) (w : World) (h0 : -4000000000000000000 ≤ n) (h1 : n ≤ 4000000000000000000) (ht : Tab w) :
    Calls Tryd.prog 34 #[.int .i64 n, .int .i64 10] w (Str (Lib.itoa n) w) := by
  go_enter Tryd.func34, Tryd.ntmps34
  go_wp2_with fail
  refine (Tryd.internal_strconv_FormatInt_10 n (by omega) (by omega) w ht).mono ?_
  rintro e w1 ⟨rfl, k, os, rfl⟩
  go_wp2_with fail
  go_ret
  exact ⟨rfl, Lib.below_grow _ w (Nat.le_refl _) k os⟩

/-- Two integers are returned, the old memory is as it was. -/
def TwoInts (p : Int × Int) (w : World) (e : Ending) (w' : World) : Prop := e = .returned (.tuple #[.int .i64 p.1, .int .i64 p.2]) ∧ Below w.heap.size w w'
def cntR (n : Int) : Int × Int := if 0 ≤ n ∧ n ≤ 1000000000000 then ((Lib.decDigits n.toNat).length, 0) else (0, 2)
theorem cntR_ok (n : Int) (h : 0 ≤ n) (h' : n ≤ 1000000000000) : cntR n = (((Lib.decDigits n.toNat).length : Int), 0) := if_pos ⟨h, h'⟩
theorem cntR_no (n : Int) (h : n < 0 ∨ 1000000000000 < n) : cntR n = (0, 2) := if_neg (by omega)

theorem countDigits_impl (n : Int) (w : World) (ht : Tab w) :
    Calls Tryd.prog 12 #[.int .i64 n] w (TwoInts (cntR n) w) := by
  have HT := Lib.hid ht
  clear ht
  by_cases h1 : n < 0
  · have H := Lib.hid (cntR_no n (by omega))
    go_enter Tryd.func12, Tryd.ntmps12
    go_wp2
    go_ret2
    exact ⟨ret_two (by rw [H.out]) (by rw [H.out]), Below.refl _ _⟩
  by_cases h2 : 1000000000000 < n
  · have H := Lib.hid (cntR_no n (by omega))
    go_enter Tryd.func12, Tryd.ntmps12
    go_wp2
    go_ret2
    exact ⟨ret_two (by rw [H.out]) (by rw [H.out]), Below.refl _ _⟩
  have H := Lib.hid (cntR_ok n (by omega) (by omega))
  have HI := Lib.hid (show (Lib.itoa n).length = (Lib.decDigits n.toNat).length by unfold Lib.itoa; rw [if_neg (by omega)])
  go_enter Tryd.func12, Tryd.ntmps12
  go_wp2_with fail
  refine (formatInt_any n w (by omega) (by omega) HT.out).mono ?_
  rintro e w1 ⟨rfl, hb⟩
  go_wp2_with fail
  go_ret2
  exact ⟨ret_two (by rw [H.out, ← HI.out]) (by rw [H.out]), hb⟩

theorem countDigits_spec (n : Int) (w : World) :
    Calls Tryd.prog 13 #[.int .i64 n] w (TwoInts (cntR n) w) := by
  by_cases h : 0 ≤ n ∧ n ≤ 1000000000000
  · have hd : decide (0 ≤ n ∧ n ≤ 1000000000000) = true := by simpa using h
    obtain ⟨h1, h2⟩ := h
    have H := Lib.hid (cntR_ok n h1 h2)
    have HD := Lib.hid hd
    clear hd
    obtain ⟨n, rfl⟩ := Int.eq_ofNat_of_zero_le h1
    go_enter Tryd.func13, Tryd.ntmps13
    go_wp2_with (first | (go_at_call 31; refine (in_any _ _ _ _).mono ?_; rw [HD.out]; rintro e w' ⟨rfl, rfl⟩) | (go_at_call 35; refine (dec_any n (by omega) _).mono ?_; rintro e w1 ⟨rfl, hb⟩))
    go_ret2
    exact ⟨ret_two (by rw [H.out]; rfl) (by rw [H.out]), hb⟩
  · have hd : decide (0 ≤ n ∧ n ≤ 1000000000000) = false := by simpa using h
    have H := Lib.hid (cntR_no n (by omega))
    have HD := Lib.hid hd
    clear h hd
    go_enter Tryd.func13, Tryd.ntmps13
    go_wp2_with (go_at_call 31; refine (in_any _ _ _ _).mono ?_; rw [HD.out]; rintro e w' ⟨rfl, rfl⟩)
    go_ret2
    exact ⟨ret_two (by rw [H.out]) (by rw [H.out]), Below.refl _ _⟩
end Go.Proofs.YtdgbkdhmabneeabDoor
