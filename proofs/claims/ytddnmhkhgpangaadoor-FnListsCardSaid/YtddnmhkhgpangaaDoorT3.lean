/- Texts of figures, in the program and in the model. -/
import Derived.Test.YtddnmhkhgpangaaDoorT2
import Derived.Test.YtddnmhkhgpangaaDoorC02a
namespace Go.Proofs.YtddnmhkhgpangaaDoor
open Go.RowKit
set_option linter.unusedVariables false
set_option linter.unusedSimpArgs false

/-- A string is returned, the world has grown. -/
def StrG (s : ByteArray) (w : World) (e : Ending) (w' : World) : Prop := e = .returned (.string s) ∧ Gr w w'
def itoaB (n : Int) : ByteArray := ⟨(Lib.itoa n).toArray⟩

theorem Tab.gr {w v : World} (h : Tab w) (hg : Gr w v) : Tab v := h.later hg.below

theorem formatInt_g (n : Int) (w : World) (h0 : -4000000000000000000 ≤ n) (h1 : n ≤ 4000000000000000000) (ht : Tab w) :
    Calls Tryd.prog 32 #[.int .i64 n, .int .i64 10] w fun e w' => e = .returned (.string (itoaB n)) ∧ Gr w w' :=
  (formatInt_any n w h0 h1 ht).mono fun _ _ ⟨he, hb⟩ => ⟨he, Gr.of_below hb⟩

theorem dec_g (n : Int) (w : World) (h0 : 0 ≤ n) (h1 : n ≤ 4000000000000000000) :
    Calls Tryd.prog 61 #[.int .i64 n] w fun e w' => e = .returned (.string (itoaB n)) ∧ Gr w w' := by
  obtain ⟨k, rfl⟩ := Int.eq_ofNat_of_zero_le h0
  refine (dec_any k (by omega) w).mono fun _ _ ⟨he, hb⟩ => ⟨?_, Gr.of_below hb⟩
  rw [he, itoaB, Lib.itoa, if_neg (by omega)]
  simp

theorem itoaB_neg (n : Int) (h : n < 0) : itoaB n = ⟨#[45]⟩ ++ itoaB (-n) := by
  unfold itoaB Lib.itoa
  rw [if_pos h, if_neg (by omega), show (-n).toNat = n.natAbs by omega]
  exact (ByteArray.mk_append_mk [45] _).symm

theorem itoa_len (n : Int) (h0 : -1000000000000 ≤ n) (h1 : n ≤ 1000000000000) : 1 ≤ (itoaB n).size ∧ (itoaB n).size ≤ 20 := by
  have hd : ∀ m : Nat, m ≤ 1000000000000 → 1 ≤ (Lib.decDigits m).length ∧ (Lib.decDigits m).length ≤ 13 := fun m hm => by
    have h1 := decDigits_len 13 m (by omega) (by omega)
    have h2 : (Lib.decDigits m).length ≠ 0 := by rw [Lib.decDigits_length]; unfold Lib.nDigits; split <;> omega
    omega
  unfold itoaB Lib.itoa
  show 1 ≤ (List.toArray _).size ∧ (List.toArray _).size ≤ 20
  rw [List.size_toArray]
  split
  · have := hd n.natAbs (by omega)
    simp; omega
  · have := hd n.toNat (by omega)
    omega
theorem itoa_four (n : Int) (h0 : 1000 ≤ n) (h1 : n ≤ 9999) : (itoaB n).size = 4 := by
  unfold itoaB Lib.itoa
  show (List.toArray _).size = 4
  rw [List.size_toArray, if_neg (by omega), Lib.decDigits_length, Lib.nDigits_unique 3 n.toNat (by omega) (by omega)]

theorem number_g (n : Int) (w : World) (h0 : -1000000000000 ≤ n) (h1 : n ≤ 1000000000000) :
    Calls Tryd.prog 62 #[.int .i64 n] w fun e w' => e = .returned (.string (itoaB n)) ∧ Gr w w' := by
  by_cases h : n < 0
  · have HB := Lib.hid (itoaB_neg n h)
    have hl := itoa_len (-n) (by omega) (by omega)
    go_enter Tryd.func62, Tryd.ntmps62
    go_wp2_with (go_at_call 61; refine (dec_g _ _ (by omega) (by omega)).mono ?_; rintro e w' ⟨rfl, k, os, rfl⟩)
    go_ret
    exact ⟨ret_str HB.out.symm, (by repeat (first | with_reducible exact Gr.refl _ | with_reducible refine Gr.alloc ?_ _ | with_reducible refine Gr.gr ?_ _ _ | with_reducible refine Gr.drew ?_ | with_reducible refine Gr.drewN ?_ _))⟩
  · go_enter Tryd.func62, Tryd.ntmps62
    go_wp2_with (go_at_call 61; refine (dec_g _ _ (by omega) (by omega)).mono ?_; rintro e w' ⟨rfl, k, os, rfl⟩)
    go_ret
    exact ⟨rfl, (by repeat (first | with_reducible exact Gr.refl _ | with_reducible refine Gr.alloc ?_ _ | with_reducible refine Gr.gr ?_ _ _ | with_reducible refine Gr.drew ?_ | with_reducible refine Gr.drewN ?_ _))⟩

/-- The text of a figure. -/
def figB (d t : Int) : ByteArray := (itoaB d).extract 0 1 ++ ⟨#[46]⟩ ++ (itoaB d).extract 1 4 ++ ⟨#[101]⟩ ++ itoaB t

theorem text_spec (d t : Int) (w : World) (h : fg d t = true) :
    Calls Tryd.prog 34 #[.agg #[.int .i64 d, .int .i64 t]] w fun e w' => e = .returned (.string (figB d t)) ∧ Gr w w' := by
  obtain ⟨⟨a1, a2⟩, t1, t2⟩ := (fg_iff d t).1 h
  have h4 := itoa_four d a1 a2
  have hl := itoa_len t (by omega) (by omega)
  have HF := Lib.hid (show figB d t = (itoaB d).extract 0 1 ++ ⟨#[46]⟩ ++ (itoaB d).extract 1 4 ++ ⟨#[101]⟩ ++ itoaB t from rfl)
  have hD : ∀ w, Calls Tryd.prog 61 #[.int .i64 d] w fun e w' => e = .returned (.string (itoaB d)) ∧ Gr w w' := fun w => dec_g d w (by omega) (by omega)
  have hN : ∀ w, Calls Tryd.prog 62 #[.int .i64 t] w fun e w' => e = .returned (.string (itoaB t)) ∧ Gr w w' := fun w => number_g t w (by omega) (by omega)
  generalize itoaB d = x at *
  generalize itoaB t = y at *
  obtain ⟨hl1, hl2⟩ := hl
  have hl6 : ¬ (9223372036854775807 < 6 + y.size) := by omega
  go_enter Tryd.func34, Tryd.ntmps34
  go_wp2_with (go_at_call 61; refine (hD _).mono ?_; rintro e w' ⟨rfl, k, os, rfl⟩)
  ((first | refine region_gr_on (by kernel_rfl) (by kernel_rfl) ?_ | refine region_gr (by kernel_rfl) (by kernel_rfl) ?_); (repeat (quiet_step (exact Calls.gr_of (hN _)))); refine wpQuiet_nil ?_; intro _ hw'; obtain ⟨⟨kq, oq⟩, hw''⟩ := hw'; subst hw'')
  go_wp2
  go_ret
  exact ⟨ret_str (by rw [HF.out]), (by repeat (first | with_reducible exact Gr.refl _ | with_reducible refine Gr.alloc ?_ _ | with_reducible refine Gr.gr ?_ _ _ | with_reducible refine Gr.drew ?_ | with_reducible refine Gr.drewN ?_ _))⟩

/-- A figure's text, or nothing. -/
def ftS (d t : Int) : ByteArray := if fg d t = true then figB d t else ⟨#[]⟩
def ftC (d t : Int) : Int := if fg d t = true then 0 else 1
theorem ft_ok (d t : Int) (h : fg d t = true) : ftS d t = figB d t ∧ ftC d t = 0 := ⟨if_pos h, if_pos h⟩
theorem ft_no (d t : Int) (h : fg d t = false) : ftS d t = ⟨#[]⟩ ∧ ftC d t = 1 := ⟨if_neg (by rw [h]; simp), if_neg (by rw [h]; simp)⟩
theorem ret_sc {a b : ByteArray} {c d : Int} (h : a = b) (h' : c = d) : Ending.returned (.tuple #[.string a, .int .i64 c]) = .returned (.tuple #[.string b, .int .i64 d]) := by rw [h, h']

theorem figureText_spec (d t : Int) (w : World) :
    Calls Tryd.prog 10 #[.agg #[.int .i64 d, .int .i64 t]] w fun e w' => e = .returned (.tuple #[.string (ftS d t), .int .i64 (ftC d t)]) ∧ Gr w w' := by
  have e1 : fg d t = true ∨ fg d t = false := by cases fg d t <;> simp
  rcases e1 with e1 | e1
  · have H := Lib.hid (ft_ok d t e1)
    have E := Lib.hid e1
    clear e1
    go_enter Tryd.func10, Tryd.ntmps10
    go_wp2_with (first
      | (go_at_call 33; refine (isFigure_spec _ _ _).mono ?_; rw [E.out]; rintro e w' ⟨rfl, k, os, rfl⟩)
      | (go_at_call 34; refine (text_spec _ _ _ E.out).mono ?_; rintro e w' ⟨rfl, k, os, rfl⟩))
    go_ret2
    exact ⟨ret_sc (by rw [H.out.1]) (by rw [H.out.2]), (by repeat (first | with_reducible exact Gr.refl _ | with_reducible refine Gr.alloc ?_ _ | with_reducible refine Gr.gr ?_ _ _ | with_reducible refine Gr.drew ?_ | with_reducible refine Gr.drewN ?_ _))⟩
  · have H := Lib.hid (ft_no d t e1)
    have E := Lib.hid e1
    clear e1
    go_enter Tryd.func10, Tryd.ntmps10
    go_wp2_with (go_at_call 33; refine (isFigure_spec _ _ _).mono ?_; rw [E.out]; rintro e w' ⟨rfl, k, os, rfl⟩)
    go_ret2
    exact ⟨ret_sc (by rw [H.out.1]) (by rw [H.out.2]), (by repeat (first | with_reducible exact Gr.refl _ | with_reducible refine Gr.alloc ?_ _ | with_reducible refine Gr.gr ?_ _ _ | with_reducible refine Gr.drew ?_ | with_reducible refine Gr.drewN ?_ _))⟩

theorem figureText_impl (d t : Int) (w : World) (ht : Tab w) :
    Calls Tryd.prog 9 #[.agg #[.int .i64 d, .int .i64 t]] w fun e w' => e = .returned (.tuple #[.string (ftS d t), .int .i64 (ftC d t)]) ∧ Gr w w' := by
  have e1 : fg d t = true ∨ fg d t = false := by cases fg d t <;> simp
  rcases e1 with e1 | e1
  · have H := Lib.hid (ft_ok d t e1)
    have E := Lib.hid e1
    obtain ⟨⟨a1, a2⟩, t1, t2⟩ := (fg_iff d t).1 e1
    clear e1
    have h4 := itoa_four d a1 a2
    obtain ⟨hl1, hl2⟩ := itoa_len t (by omega) (by omega)
    have HF := Lib.hid (show figB d t = (itoaB d).extract 0 1 ++ ⟨#[46]⟩ ++ (itoaB d).extract 1 4 ++ ⟨#[101]⟩ ++ itoaB t from rfl)
    have hD : ∀ w', Gr w w' → Calls Tryd.prog 32 #[.int .i64 d, .int .i64 10] w' fun e w'' => e = .returned (.string (itoaB d)) ∧ Gr w' w'' := fun w' hg => formatInt_g d w' (by omega) (by omega) (ht.gr hg)
    have hN : ∀ w', Gr w w' → Calls Tryd.prog 32 #[.int .i64 t, .int .i64 10] w' fun e w'' => e = .returned (.string (itoaB t)) ∧ Gr w' w'' := fun w' hg => formatInt_g t w' (by omega) (by omega) (ht.gr hg)
    clear ht
    generalize itoaB d = x at *
    generalize itoaB t = y at *
    have hl6 : ¬ (9223372036854775807 < 6 + y.size) := by omega
    go_enter Tryd.func9, Tryd.ntmps9
    go_wp2_with (first
      | (go_at_call 31; refine (isFigure_impl _ _ _).mono ?_; rw [E.out]; rintro e w' ⟨rfl, k, os, rfl⟩)
      | (go_at_call 32; refine (hD _ (by repeat (first | with_reducible exact Gr.refl _ | with_reducible refine Gr.alloc ?_ _ | with_reducible refine Gr.gr ?_ _ _ | with_reducible refine Gr.drew ?_ | with_reducible refine Gr.drewN ?_ _))).mono ?_; rintro e w' ⟨rfl, k, os, rfl⟩))
    ((first | refine region_gr_on (by kernel_rfl) (by kernel_rfl) ?_ | refine region_gr (by kernel_rfl) (by kernel_rfl) ?_); (repeat (quiet_step (exact Calls.gr_of (hN _ (by repeat (first | with_reducible exact Gr.refl _ | with_reducible refine Gr.alloc ?_ _ | with_reducible refine Gr.gr ?_ _ _ | with_reducible refine Gr.drew ?_ | with_reducible refine Gr.drewN ?_ _)))))); refine wpQuiet_nil ?_; intro _ hw'; obtain ⟨⟨kq, oq⟩, hw''⟩ := hw'; subst hw'')
    go_wp2
    go_ret2
    exact ⟨ret_sc (by rw [H.out.1, HF.out]) (by rw [H.out.2]), (by repeat (first | with_reducible exact Gr.refl _ | with_reducible refine Gr.alloc ?_ _ | with_reducible refine Gr.gr ?_ _ _ | with_reducible refine Gr.drew ?_ | with_reducible refine Gr.drewN ?_ _))⟩
  · have H := Lib.hid (ft_no d t e1)
    have E := Lib.hid e1
    clear e1
    go_enter Tryd.func9, Tryd.ntmps9
    go_wp2_with (go_at_call 31; refine (isFigure_impl _ _ _).mono ?_; rw [E.out]; rintro e w' ⟨rfl, k, os, rfl⟩)
    go_ret2
    exact ⟨ret_sc (by rw [H.out.1]) (by rw [H.out.2]), (by repeat (first | with_reducible exact Gr.refl _ | with_reducible refine Gr.alloc ?_ _ | with_reducible refine Gr.gr ?_ _ _ | with_reducible refine Gr.drew ?_ | with_reducible refine Gr.drewN ?_ _))⟩
end Go.Proofs.YtddnmhkhgpangaaDoor
