/- Texts of figures, in the program and in the model. -/
import Derived.Test.YtggflladheemoaaDoorT2
import Derived.Test.YtggflladheemoaaDoor2A
namespace Go.Proofs.YtggflladheemoaaDoor
open Go.RowKit
set_option linter.unusedVariables false
set_option linter.unusedSimpArgs false

/-- A string is returned, the world has grown. -/
def StrG (s : ByteArray) (w : World) (e : Ending) (w' : World) : Prop := e = .returned (.string s) ∧ Gr w w'
def itoaB (n : Int) : ByteArray := ⟨(Lib.itoa n).toArray⟩

theorem Tab.gr {w v : World} (h : Tab w) (hg : Gr w v) : Tab v := h.later hg.below

theorem formatInt_g (n : Int) (w : World) (h0 : -4000000000000000000 ≤ n) (h1 : n ≤ 4000000000000000000) (ht : Tab w) :
    Calls Tryd.prog 145 #[.int .i64 n, .int .i64 10] w fun e w' => e = .returned (.string (itoaB n)) ∧ Gr w w' :=
  (formatInt_any n w h0 h1 ht).mono fun _ _ ⟨he, hb⟩ => ⟨he, Gr.of_below hb⟩

theorem dec_g (n : Int) (w : World) (h0 : 0 ≤ n) (h1 : n ≤ 4000000000000000000) :
    Calls Tryd.prog 172 #[.int .i64 n] w fun e w' => e = .returned (.string (itoaB n)) ∧ Gr w w' := by
  obtain ⟨k, rfl⟩ := Int.eq_ofNat_of_zero_le h0
  refine (dec_any k (by omega) w).mono fun _ _ ⟨he, hb⟩ => ⟨?_, Gr.of_below hb⟩
  rw [he, itoaB, Lib.itoa, if_neg (by omega)]
  simp

theorem itoaB_neg (n : Int) (h : n < 0) : itoaB n = ⟨#[45]⟩ ++ itoaB (-n) := by
  unfold itoaB Lib.itoa
  rw [if_pos h, if_neg (by omega), show (-n).toNat = n.natAbs by omega]
  exact (ByteArray.mk_append_mk [45] _).symm

theorem itoa_len (n : Int) (h0 : -1000000000000 ≤ n) (h1 : n ≤ 1000000000000) : 1 ≤ (itoaB n).size ∧ (itoaB n).size ≤ 20 := by
  have hd : ∀ m : Nat, m ≤ 1000000000000 → 1 ≤ (Lib.decDigits m).length ∧ (Lib.decDigits m).length ≤ 13 := fun m hm => by
    have h1 := decDigits_len 13 m (by omega) (by omega)
    have h2 : (Lib.decDigits m).length ≠ 0 := by rw [Lib.decDigits_length]; unfold Lib.nDigits; split <;> omega
    omega
  unfold itoaB Lib.itoa
  show 1 ≤ (List.toArray _).size ∧ (List.toArray _).size ≤ 20
  rw [List.size_toArray]
  split
  · have := hd n.natAbs (by omega)
    simp; omega
  · have := hd n.toNat (by omega)
    omega
theorem itoa_four (n : Int) (h0 : 1000 ≤ n) (h1 : n ≤ 9999) : (itoaB n).size = 4 := by
  unfold itoaB Lib.itoa
  show (List.toArray _).size = 4
  rw [List.size_toArray, if_neg (by omega), Lib.decDigits_length, Lib.nDigits_unique 3 n.toNat (by omega) (by omega)]

theorem number_g (n : Int) (w : World) (h0 : -1000000000000 ≤ n) (h1 : n ≤ 1000000000000) :
    Calls Tryd.prog 177 #[.int .i64 n] w fun e w' => e = .returned (.string (itoaB n)) ∧ Gr w w' := by
  by_cases h : n < 0
  · have HB := Lib.hid (itoaB_neg n h)
    have hl := itoa_len (-n) (by omega) (by omega)
    go_enter Tryd.func177, Tryd.ntmps177
    go_wp2_with (go_at_call 172; refine (dec_g _ _ (by omega) (by omega)).mono ?_; rintro e w' ⟨rfl, k, os, rfl⟩)
    go_ret
    exact ⟨ret_str HB.out.symm, (by repeat (first | with_reducible exact Gr.refl _ | with_reducible refine Gr.alloc ?_ _ | with_reducible refine Gr.gr ?_ _ _ | with_reducible refine Gr.drew ?_ | with_reducible refine Gr.drewN ?_ _))⟩
  · go_enter Tryd.func177, Tryd.ntmps177
    go_wp2_with (go_at_call 172; refine (dec_g _ _ (by omega) (by omega)).mono ?_; rintro e w' ⟨rfl, k, os, rfl⟩)
    go_ret
    exact ⟨rfl, (by repeat (first | with_reducible exact Gr.refl _ | with_reducible refine Gr.alloc ?_ _ | with_reducible refine Gr.gr ?_ _ _ | with_reducible refine Gr.drew ?_ | with_reducible refine Gr.drewN ?_ _))⟩

/-- The text of a figure. -/
def figB (d t : Int) : ByteArray := (itoaB d).extract 0 1 ++ ⟨#[46]⟩ ++ (itoaB d).extract 1 4 ++ ⟨#[101]⟩ ++ itoaB t

/-- A figure's text, or nothing. -/
def ftS (d t : Int) : ByteArray := if fg d t = true then figB d t else ⟨#[]⟩
def ftC (d t : Int) : Int := if fg d t = true then 0 else 1
theorem ft_ok (d t : Int) (h : fg d t = true) : ftS d t = figB d t ∧ ftC d t = 0 := ⟨if_pos h, if_pos h⟩
theorem ft_no (d t : Int) (h : fg d t = false) : ftS d t = ⟨#[]⟩ ∧ ftC d t = 1 := ⟨if_neg (by rw [h]; simp), if_neg (by rw [h]; simp)⟩
theorem ret_sc {a b : ByteArray} {c d : Int} (h : a = b) (h' : c = d) : Ending.returned (.tuple #[.string a, .int .i64 c]) = .returned (.tuple #[.string b, .int .i64 d]) := by rw [h, h']

end Go.Proofs.YtggflladheemoaaDoor
