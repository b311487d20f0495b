/- Reading numerals and figures, in the program and in the model. -/
import Derived.Test.YtddnmhkhgpangaaDoorT3
import Derived.Test.YtddnmhkhgpangaaDoorM04
namespace Go.Proofs.YtddnmhkhgpangaaDoor
open Go.RowKit
set_option linter.unusedVariables false
set_option linter.unusedSimpArgs false

/-- A number and a bool, as a result. -/
theorem ret_ib {a b : Int} {c d : Bool} (h : a = b) (h' : c = d) : Ending.returned (.tuple #[.int .i64 a, .bool c]) = .returned (.tuple #[.int .i64 b, .bool d]) := by rw [h, h']
/-- The number that the first k bytes spell. -/
def pre (s : ByteArray) (k : Nat) : Nat := fval 0 (s.data.toList.take k)
theorem take_snoc (s : ByteArray) (k : Nat) (h : k < s.size) : s.data.toList.take (k + 1) = s.data.toList.take k ++ [s[k]] := by
  rw [List.take_succ_eq_append_getElem (by simpa using h)]; rfl
theorem len_data (s : ByteArray) : s.data.toList.length = s.size := Array.length_toList
theorem pre_zero (s : ByteArray) : pre s 0 = 0 := rfl
theorem pre_succ (s : ByteArray) (k : Nat) (h : k < s.size) : pre s (k + 1) = 10 * pre s k + (s[k].toNat - 48) := by
  unfold pre; rw [take_snoc s k h, fval_app]; rfl
def dgs (s : ByteArray) (k : Nat) : Prop := ∀ c ∈ s.data.toList.take k, dgt c
theorem dgs_zero (s : ByteArray) : dgs s 0 := by intro c hc; simp at hc
theorem dgs_succ (s : ByteArray) (k : Nat) (h : k < s.size) (hd : dgs s k) (h1 : 48 ≤ s[k].toNat) (h2 : s[k].toNat ≤ 57) : dgs s (k + 1) := by
  intro c hc
  rw [take_snoc s k h] at hc
  rcases List.mem_append.1 hc with hc | hc
  · exact hd c hc
  · simp only [List.mem_singleton] at hc; subst hc; exact ⟨h1, h2⟩
theorem pre_lt (s : ByteArray) (k : Nat) (hk : k ≤ 13) (hd : dgs s k) : pre s k < 10000000000000 := by
  have h := fval_lt _ 0 hd
  have h4 : 10 ^ (s.data.toList.take k).length ≤ 10 ^ 13 := Nat.pow_le_pow_right (by omega) (by have := List.length_take_le k s.data.toList; omega)
  have e : (10 : Nat) ^ 13 = 10000000000000 := by decide
  rw [e] at h4
  unfold pre
  generalize 10 ^ (s.data.toList.take k).length = q at *
  omega
theorem pre_all (s : ByteArray) : pre s s.size = fval 0 s.data.toList := by
  unfold pre; rw [List.take_of_length_le (by rw [len_data]; exact Nat.le_refl _)]
theorem dgs_all (s : ByteArray) (h : dgs s s.size) : alld s.data.toList = true := by
  rw [alld_iff]; intro c hc; exact h c (by rw [List.take_of_length_le (by rw [len_data]; exact Nat.le_refl _)]; exact hc)
theorem dgs_bad (s : ByteArray) (k : Nat) (h : k < s.size) (h1 : s[k].toNat < 48 ∨ 57 < s[k].toNat) : alld s.data.toList = false := by
  rw [Bool.eq_false_iff]
  intro hc
  have := (alld_iff _).1 hc s[k] (by show s.data[k] ∈ s.data.toList; exact Array.mem_toList_iff.2 (Array.getElem_mem _))
  unfold dgt at this
  omega
theorem eq_itoaB (s : ByteArray) (n : Nat) : (itoaB n = s) ↔ Lib.decDigits n = s.data.toList := by
  unfold itoaB Lib.itoa
  rw [if_neg (by omega), Int.toNat_natCast]
  constructor
  · intro h; rw [← h]
  · intro h; rw [h]

theorem str_eq (s : ByteArray) (v : Nat) : ((itoaB v).toList == s.toList) = decide (Lib.decDigits v = s.data.toList) := by
  rw [ByteArray.toList_eq, ByteArray.toList_eq]
  unfold itoaB Lib.itoa
  rw [if_neg (by omega), Int.toNat_natCast, Bool.eq_iff_iff]
  simp

set_option maxHeartbeats 1000000 in
theorem value_spec (s : ByteArray) (w : World) (hs : s.size ≤ maxLen) :
    Calls Tryd.prog 39 #[.string s] w fun e w' => e = .returned (.tuple #[.int .i64 (rdv s.data.toList).1, .bool (rdv s.data.toList).2]) ∧ Gr w w' := by
  unfold maxLen at hs
  have hl := len_data s
  by_cases h1 : s.size < 1
  · have H := Lib.hid (rdv_far s.data.toList (by omega))
    clear hl
    go_enter Tryd.func39, Tryd.ntmps39
    go_wp2
    go_ret2
    exact ⟨ret_ib (by rw [H.out]) (by rw [H.out]), (by repeat (first | with_reducible exact Gr.refl _ | with_reducible refine Gr.alloc ?_ _ | with_reducible refine Gr.gr ?_ _ _ | with_reducible refine Gr.drew ?_ | with_reducible refine Gr.drewN ?_ _))⟩
  by_cases h2 : 13 < s.size
  · have H := Lib.hid (rdv_far s.data.toList (by omega))
    clear hl
    go_enter Tryd.func39, Tryd.ntmps39
    go_wp2
    go_ret2
    exact ⟨ret_ib (by rw [H.out]) (by rw [H.out]), (by repeat (first | with_reducible exact Gr.refl _ | with_reducible refine Gr.alloc ?_ _ | with_reducible refine Gr.gr ?_ _ _ | with_reducible refine Gr.drew ?_ | with_reducible refine Gr.drewN ?_ _))⟩
  have HL := Lib.hid hl
  clear hl
  go_enter Tryd.func39, Tryd.ntmps39
  go_wp2
  go_loop [4, 5] (fun n i => ∃ k : Nat, k ≤ s.size ∧ i = .int .i64 k ∧ dgs s k ∧ n = .int .i64 (pre s k)) (fun _ i => s.size - (intOf i).toNat)
  case atStart => exact ⟨0, Nat.zero_le _, rfl, dgs_zero s, rfl⟩
  case round =>
    obtain ⟨k, hk, rfl, hd, rfl⟩ := hrel
    have hp := pre_lt s k (by omega) hd
    by_cases hlt : k < s.size
    · have HS := Lib.hid (pre_succ s k hlt)
      by_cases hc : 48 ≤ s[k].toNat ∧ s[k].toNat ≤ 57
      · obtain ⟨c1, c2⟩ := hc
        have hd2 := dgs_succ s k hlt hd c1 c2
        generalize pre s k = v at *
        go_wp2
        go_round
        case rel => exact ⟨k + 1, by omega, by go_num, hd2, by rw [HS.out]; go_num⟩
        case measure => simp [intOf]; omega
      · have HB := Lib.hid (rdv_bad s.data.toList (by rw [HL.out]; omega) (by rw [HL.out]; omega) (dgs_bad s k hlt (by omega)))
        by_cases c1 : s[k].toNat < 48
        · go_wp2
          go_ret2
          exact ⟨ret_ib (by rw [HB.out]) (by rw [HB.out]), (by repeat (first | with_reducible exact Gr.refl _ | with_reducible refine Gr.alloc ?_ _ | with_reducible refine Gr.gr ?_ _ _ | with_reducible refine Gr.drew ?_ | with_reducible refine Gr.drewN ?_ _))⟩
        · have c2 : 57 < s[k].toNat := by omega
          go_wp2
          go_ret2
          exact ⟨ret_ib (by rw [HB.out]) (by rw [HB.out]), (by repeat (first | with_reducible exact Gr.refl _ | with_reducible refine Gr.alloc ?_ _ | with_reducible refine Gr.gr ?_ _ _ | with_reducible refine Gr.drew ?_ | with_reducible refine Gr.drewN ?_ _))⟩
    · obtain rfl : k = s.size := by omega
      have HE := Lib.hid (rdv_dig s.data.toList (by rw [HL.out]; omega) (by rw [HL.out]; omega) (dgs_all s hd))
      have HP := Lib.hid (pre_all s)
      generalize pre s s.size = v at *
      go_wp2_with (go_at_call 61; refine (dec_g _ _ (by omega) (by omega)).mono ?_; rintro e w' ⟨rfl, k, os, rfl⟩)
      go_ret2
      exact ⟨ret_ib (by rw [HE.out, ← HP.out]) (by rw [HE.out, ← HP.out]; exact str_eq _ _), (by repeat (first | with_reducible exact Gr.refl _ | with_reducible refine Gr.alloc ?_ _ | with_reducible refine Gr.gr ?_ _ _ | with_reducible refine Gr.drew ?_ | with_reducible refine Gr.drewN ?_ _))⟩

theorem tail_data (s : ByteArray) (c : UInt8) (r : List UInt8) (h : s.data.toList = c :: r) : (s.extract 1 s.size).data.toList = r := by
  have h1 := len_data s
  rw [Lib.extract_data, h, ← h1, h]
  simp
theorem rds_neg (c : UInt8) (r : List UInt8) (h : c.toNat = 45) : rds (c :: r) = (-(rdv r).1, (rdv r).2 && decide (0 < (rdv r).1)) := if_pos (UInt8.toNat_inj.1 h)
theorem rds_pos (c : UInt8) (r : List UInt8) (h : c.toNat ≠ 45) : rds (c :: r) = rdv (c :: r) := if_neg (fun e => h (by rw [e]; rfl))
theorem rdv_nil : rdv [] = (0, false) := rdv_far _ (.inl (by simp))
theorem rds_nil : rds [] = (0, false) := rfl

set_option maxHeartbeats 1000000 in
theorem signed_spec (s : ByteArray) (w : World) (hs : s.size ≤ maxLen) :
    Calls Tryd.prog 40 #[.string s] w fun e w' => e = .returned (.tuple #[.int .i64 (rds s.data.toList).1, .bool (rds s.data.toList).2]) ∧ Gr w w' := by
  have hv : ∀ (u : ByteArray) (w : World), u.size ≤ maxLen → Calls Tryd.prog 39 #[.string u] w fun e w' => e = .returned (.tuple #[.int .i64 (rdv u.data.toList).1, .bool (rdv u.data.toList).2]) ∧ Gr w w' := value_spec
  unfold maxLen at hs hv
  have hl := len_data s
  by_cases h0 : s.size = 0
  · have hn : s.data.toList = [] := List.eq_nil_of_length_eq_zero (by omega)
    have H := Lib.hid (show rds s.data.toList = (0, false) by rw [hn]; rfl)
    have H1 := Lib.hid (show rdv s.data.toList = (0, false) by rw [hn]; rfl)
    have hz : s.size ≤ 0 := by omega
    have hv0 := hv s
    clear hn hl h0 hv
    go_enter Tryd.func40, Tryd.ntmps40
    go_wp2_with (go_at_call 39; refine (hv0 _ (by omega)).mono ?_; rintro e w' ⟨rfl, k, os, rfl⟩)
    go_ret2
    exact ⟨ret_ib (by rw [H.out, H1.out]) (by rw [H.out, H1.out]), (by repeat (first | with_reducible exact Gr.refl _ | with_reducible refine Gr.alloc ?_ _ | with_reducible refine Gr.gr ?_ _ _ | with_reducible refine Gr.drew ?_ | with_reducible refine Gr.drewN ?_ _))⟩
  · obtain ⟨c, r, hcr⟩ : ∃ c r, s.data.toList = c :: r := by
      match h : s.data.toList with
      | [] => rw [h] at hl; simp at hl; omega
      | c :: r => exact ⟨c, r, rfl⟩
    have hp : 0 < s.size := by omega
    have hc : s[0].toNat = c.toNat := by
      have : s.data.toList[0]'(by rw [hcr]; simp) = c := by simp [hcr]
      rw [← this]; rfl
    have ht := Lib.hid (tail_data s c r hcr)
    by_cases h45 : c.toNat = 45
    · have H := Lib.hid (show rds s.data.toList = (-(rdv r).1, (rdv r).2 && decide (0 < (rdv r).1)) by rw [hcr]; exact rds_neg c r h45)
      have B := rdv_bd r
      have hx := hv (s.extract 1 s.size)
      rw [ht.out] at hx
      have hsz : (s.extract 1 s.size).size ≤ 9223372036854775807 := by simp [ByteArray.size_extract]; omega
      have hc1 : s[0].toNat = 45 := by omega
      have HN := Lib.hid hl
      clear hl hcr ht hv hc h45 h0
      generalize rdv r = q at *
      obtain ⟨q1, q2⟩ := q
      obtain ⟨b1, b2⟩ := B
      go_enter Tryd.func40, Tryd.ntmps40
      go_wp2_with (go_at_call 39; refine (hx _ (by omega)).mono ?_; rintro e w' ⟨rfl, k, os, rfl⟩)
      all_goals
        go_ret2
        exact ⟨ret_ib (by rw [H.out]) (by rw [H.out]; simp_all), (by repeat (first | with_reducible exact Gr.refl _ | with_reducible refine Gr.alloc ?_ _ | with_reducible refine Gr.gr ?_ _ _ | with_reducible refine Gr.drew ?_ | with_reducible refine Gr.drewN ?_ _))⟩
    · have H := Lib.hid (show rds s.data.toList = rdv s.data.toList by rw [hcr]; exact rds_pos c r h45)
      have hc1 : ¬ (s[0].toNat = 45) := by omega
      have hv0 := hv s
      clear hl hcr ht hv hc h45 h0
      go_enter Tryd.func40, Tryd.ntmps40
      go_wp2_with (go_at_call 39; refine (hv0 _ (by omega)).mono ?_; rintro e w' ⟨rfl, k, os, rfl⟩)
      go_ret2
      exact ⟨ret_ib (by rw [H.out]) (by rw [H.out]), (by repeat (first | with_reducible exact Gr.refl _ | with_reducible refine Gr.alloc ?_ _ | with_reducible refine Gr.gr ?_ _ _ | with_reducible refine Gr.drew ?_ | with_reducible refine Gr.drewN ?_ _))⟩
end Go.Proofs.YtddnmhkhgpangaaDoor
