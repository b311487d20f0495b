/- A list's text and its reading are each other's inverse. -/
import Derived.Test.YtdbeedfapkfibaaDoorTA
namespace Go.Proofs.YtdbeedfapkfibaaDoor
open Go.RowKit
set_option linter.unusedVariables false
set_option linter.unusedSimpArgs false

theorem dgt_nc (c : UInt8) (h : dgt c) : c ≠ 44 ∧ c ≠ 45 := by
  obtain ⟨h1, h2⟩ := h
  constructor <;> (intro e; rw [e] at h1; revert h1; decide)
theorem itoa_nc (z : Int) : ∀ c ∈ Lib.itoa z, c ≠ 44 := by
  intro c hc
  unfold Lib.itoa at hc
  split at hc
  · rcases List.mem_cons.1 hc with rfl | h
    · decide
    · exact (dgt_nc c (dec_dgt _ c h)).1
  · exact (dgt_nc c (dec_dgt _ c hc)).1
theorem itoa_dash (z : Int) : Lib.itoa z ≠ [45] := by
  intro h
  unfold Lib.itoa at h
  split at h
  · injection h with h1 h2; exact dec_ne _ h2
  · exact (dgt_nc 45 (dec_dgt _ 45 (by rw [h]; simp))).2 rfl
theorem join_two (a b : List UInt8) (r : List (List UInt8)) : Lib.join (a :: b :: r) [44] = a ++ 44 :: Lib.join (b :: r) [44] := by
  rw [Lib.join_cons, Lib.join_cons]; simp [Lib.joinTail]
theorem spl_join : ∀ (l : List (List UInt8)), l ≠ [] → (∀ x ∈ l, ∀ c ∈ x, c ≠ 44) → spl (Lib.join l [44]) = l
  | [], h, _ => absurd rfl h
  | [a], _, h => by rw [Lib.join_one]; exact spl_none a (h a (by simp))
  | a :: b :: r, _, h => by
    rw [join_two, spl_cut a _ (h a (by simp)), spl_join (b :: r) (by simp) (fun x hx => h x (by simp at hx ⊢; right; exact hx))]
theorem join_spl (l : List UInt8) : Lib.join (spl l) [44] = l := by
  induction l with
  | nil => simp [spl, Lib.join_one]
  | cons c r ih =>
    obtain ⟨p, ps, e⟩ : ∃ p ps, spl r = p :: ps := by
      cases h : spl r with
      | nil => exact absurd h (spl_ne r)
      | cons p ps => exact ⟨p, ps, rfl⟩
    by_cases hc : c = 44
    · subst hc
      rw [spl_comma, e, join_two, ← e, ih]; rfl
    · rw [spl_else c r p ps hc e]
      rw [e] at ih
      rw [Lib.join_cons] at ih ⊢
      rw [List.cons_append, ih]
theorem jB_all (zs : List Int) : (jB zs zs.length).data.toList = Lib.join (zs.map Lib.itoa) [44] := by unfold jB; simp
theorem lt0_iff (zs : List Int) : lt0 zs = true ↔ ((∀ z ∈ zs, vl z = true) ∧ zs.length ≤ 100) := by
  unfold lt0 allv; rw [Bool.and_eq_true, List.all_eq_true]; simp; omega

theorem text_list (zs : List Int) (h : lt0 zs = true) : rlI (ltS zs).data.toList = some zs := by
  by_cases hz : zs = []
  · subst hz; exact if_pos rfl
  have hl : 0 < zs.length := List.length_pos_iff.2 hz
  obtain ⟨hv, hn⟩ := (lt0_iff zs).1 h
  rw [(lt_ok zs h hl).1, jB_all]
  have hs : spl (Lib.join (zs.map Lib.itoa) [44]) = zs.map Lib.itoa := spl_join _ (by simpa using hz) (fun x hx => by
    obtain ⟨z, -, rfl⟩ := List.mem_map.1 hx
    exact itoa_nc z)
  have hd : Lib.join (zs.map Lib.itoa) [44] ≠ [45] := by
    intro e
    rw [e, spl_none [45] (by simp)] at hs
    cases zs with
    | nil => exact hz rfl
    | cons a r => simp at hs; exact itoa_dash a hs.1.symm
  have hr : ∀ z ∈ zs, rvI (Lib.itoa z) = (z, true) := fun z hz => (rvI_iff _ z).2 ⟨hv z hz, rfl⟩
  unfold rlI numR
  rw [if_neg hd, hs, if_neg (by rw [List.length_map]; omega), if_pos, List.map_map]
  · congr 1
    rw [List.map_congr_left (g := id) (fun z hz => by simp [hr z hz]), List.map_id]
  · rw [List.all_eq_true]
    intro x hx
    obtain ⟨z, hz, rfl⟩ := List.mem_map.1 hx
    rw [hr z hz]
theorem list_text (u : ByteArray) (zs : List Int) (h : rlI u.data.toList = some zs) : lt0 zs = true ∧ ltS zs = u ∧ ltC zs = 0 ∧ zs.length ≤ 100 := by
  by_cases h0 : u.data.toList = [45]
  · rw [rlI_dash _ h0] at h
    injection h with h; subst h
    refine ⟨rfl, ?_, rfl, by simp⟩
    apply ByteArray.ext
    apply Array.toList_inj.1
    rw [h0]; rfl
  · unfold rlI at h
    rw [if_neg h0] at h
    split at h
    · cases h
    · rename_i hr
      unfold numR at h
      split at h
      · rename_i ha
        injection h with h
        rw [List.all_eq_true] at ha
        have hw : ∀ w ∈ spl u.data.toList, vl (rvI w).1 = true ∧ Lib.itoa (rvI w).1 = w := fun w hw => (rvI_iff w (rvI w).1).1 (by rw [← ha w hw])
        have hm : zs.map Lib.itoa = spl u.data.toList := by
          rw [← h, List.map_map]
          exact (List.map_congr_left (g := id) (fun w hw' => (hw w hw').2)).trans (List.map_id _)
        have hlen : zs.length = (spl u.data.toList).length := by rw [← hm, List.length_map]
        have hne := spl_ne u.data.toList
        have hpos : 0 < zs.length := by rw [hlen]; exact List.length_pos_iff.2 hne
        have hlt : lt0 zs = true := (lt0_iff zs).2 ⟨fun z hz => by
          rw [← h] at hz
          obtain ⟨w, hw', rfl⟩ := List.mem_map.1 hz
          exact (hw w hw').1, by omega⟩
        obtain ⟨h1, h2⟩ := lt_ok zs hlt hpos
        refine ⟨hlt, ?_, h2, by omega⟩
        apply ByteArray.ext
        apply Array.toList_inj.1
        rw [h1, jB_all, hm, join_spl]
      · cases h
theorem ltS_size (zs : List Int) : (ltS zs).size ≤ 2100 := by
  cases h : lt0 zs
  · rw [(lt_no zs h).1]; decide
  · obtain ⟨hv, hn⟩ := (lt0_iff zs).1 h
    by_cases hz : zs.length = 0
    · rw [(lt_nil zs hz).1]; decide
    · rw [(lt_ok zs h (by omega)).1]
      have := jB_size zs zs.length (by unfold allv; rw [List.all_eq_true]; exact hv) (Nat.le_refl _)
      omega
end Go.Proofs.YtdbeedfapkfibaaDoor
