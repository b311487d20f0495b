/- A figure's text and its reading are each other's inverse. -/
import Derived.Test.YtphebmbapllinaaDoorTA
import Derived.Test.YtphebmbapllinaaDoorMB
namespace Go.Proofs.YtphebmbapllinaaDoor
open Go.RowKit
set_option linter.unusedVariables false
set_option linter.unusedSimpArgs false

theorem itoaB_data (n : Int) : (itoaB n).data.toList = Lib.itoa n := by unfold itoaB; simp
theorem ext_data (s : ByteArray) (i j : Nat) : (s.extract i j).data.toList = (s.data.toList.take j).drop i := by simp [ByteArray.data_extract, List.extract_eq_take_drop, List.drop_take]
theorem figB_data (d t : Int) : (figB d t).data.toList = (Lib.itoa d).take 1 ++ 46 :: ((Lib.itoa d).take 4).drop 1 ++ 101 :: Lib.itoa t := by
  unfold figB
  simp only [ByteArray.data_append, Array.toList_append, ext_data, itoaB_data]
  simp
theorem four_of (l : List UInt8) (h : l.length = 4) : ∃ a b c d, l = [a, b, c, d] := by
  match l, h with
  | [a, b, c, d], _ => exact ⟨a, b, c, d, rfl⟩
theorem seven_of (l : List UInt8) (h : 7 ≤ l.length) : ∃ c0 c1 c2 c3 c4 c5 r, l = c0 :: c1 :: c2 :: c3 :: c4 :: c5 :: r := by
  match l, h with
  | c0 :: c1 :: c2 :: c3 :: c4 :: c5 :: r, _ => exact ⟨c0, c1, c2, c3, c4, c5, r, rfl⟩
theorem rfx_data (s : ByteArray) : rfx s = s.data.toList.take 1 ++ (s.data.toList.take 5).drop 2 := by
  unfold rfx
  simp only [ByteArray.data_append, Array.toList_append, ext_data]
  simp
theorem rfy_data (s : ByteArray) : rfy s = s.data.toList.drop 6 := by
  unfold rfy
  rw [ext_data, List.take_of_length_le (by rw [len_data]; exact Nat.le_refl _)]
theorem at_data (s : ByteArray) (i : Nat) (h : i < s.size) : s.data.toList[i]? = some s[i] := by
  rw [List.getElem?_eq_getElem (by rw [len_data]; exact h)]
  rfl

/-- What is known of a reading. -/
theorem read_text (s : ByteArray) : (rfT s (rf2 (rvI (rfx s)) (rvI (rfy s)))).2 ≠ 0 ∨
    ∃ d t, fg d t = true ∧ rfT s (rf2 (rvI (rfx s)) (rvI (rfy s))) = ((d, t), 0) ∧ figB d t = s := by
  by_cases h7 : s.size < 7
  · left; rw [rfT_short _ _ h7]; simp
  by_cases hc : s[1].toNat = 46 ∧ s[5].toNat = 101
  · rw [rfT_ok _ _ (by omega) hc.1 hc.2]
    cases hr : ((rvI (rfx s)).2 && (rvI (rfy s)).2 && fg (rvI (rfx s)).1 (rvI (rfy s)).1)
    · left; rw [rf2_no _ _ hr]; simp
    · right
      rw [rf2_ok _ _ hr]
      simp only [Bool.and_eq_true] at hr
      obtain ⟨⟨r1, r2⟩, r3⟩ := hr
      have k1 := (rvI_iff (rfx s) (rvI (rfx s)).1).1 (by rw [← r1])
      have k2 := (rvI_iff (rfy s) (rvI (rfy s)).1).1 (by rw [← r2])
      refine ⟨_, _, r3, rfl, ?_⟩
      apply ByteArray.ext
      apply Array.toList_inj.1
      rw [figB_data, k1.2, k2.2, rfx_data, rfy_data]
      have c1 := at_data s 1 (by omega)
      have c5 := at_data s 5 (by omega)
      have e1 : s[1] = 46 := UInt8.toNat_inj.1 hc.1
      have e5 : s[5] = 101 := UInt8.toNat_inj.1 hc.2
      rw [e1] at c1
      rw [e5] at c5
      have hl := len_data s
      generalize s.data.toList = l at *
      obtain ⟨c0, d1, c2, c3, c4, d5, r, rfl⟩ := seven_of l (by omega)
      simp at c1 c5
      subst c1 c5
      simp
  · left
    rw [rfT_no _ _ (by omega) (by omega)]; simp
/-- A valid figure's text reads as the figure. -/
theorem text_read (d t : Int) (h : fg d t = true) : rfT (figB d t) (rf2 (rvI (rfx (figB d t))) (rvI (rfy (figB d t)))) = ((d, t), 0) := by
  obtain ⟨⟨a1, a2⟩, t1, t2⟩ := (fg_iff d t).1 h
  have h4 : (Lib.itoa d).length = 4 := by rw [← itoaB_data, len_data, itoa_four d a1 a2]
  have ht : 1 ≤ (Lib.itoa t).length := by rw [← itoaB_data, len_data]; exact (itoa_len t (by omega) (by omega)).1
  have hv1 : vl d = true := by unfold vl; simp; omega
  have hv2 : vl t = true := by unfold vl; simp; omega
  obtain ⟨x0, x1, x2, x3, hx⟩ := four_of _ h4
  have hD := figB_data d t
  rw [hx] at hD
  simp at hD
  have hs : 7 ≤ (figB d t).size := by rw [← len_data, hD]; simp; omega
  have c1 := at_data (figB d t) 1 (by omega)
  have c5 := at_data (figB d t) 5 (by omega)
  rw [hD] at c1 c5
  simp at c1 c5
  rw [rfT_ok _ _ hs (by rw [← c1]; rfl) (by rw [← c5]; rfl), (rvI_iff (rfx (figB d t)) d).2 ⟨hv1, by rw [rfx_data, hD, hx]; simp⟩, (rvI_iff (rfy (figB d t)) t).2 ⟨hv2, by rw [rfy_data, hD]; simp⟩]
  exact rf2_ok _ _ (by simp [h])
end Go.Proofs.YtphebmbapllinaaDoor
