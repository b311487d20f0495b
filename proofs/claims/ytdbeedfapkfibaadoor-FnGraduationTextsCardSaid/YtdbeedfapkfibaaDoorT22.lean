/- A graduation's text and its reading are each other's inverse; what DrawReadGraduation draws. -/
import Derived.Test.YtdbeedfapkfibaaDoorT12
import Derived.Test.YtdbeedfapkfibaaDoorT15
import Derived.Test.YtdbeedfapkfibaaDoorTD
import Derived.Test.YtdbeedfapkfibaaDoorDB
import Derived.Test.YtdbeedfapkfibaaDoorD7
namespace Go.Proofs.YtdbeedfapkfibaaDoor
open Go.RowKit
set_option linter.unusedVariables false
set_option linter.unusedSimpArgs false

theorem dgt_ns (c : UInt8) (h : dgt c) : c ≠ 47 ∧ c ≠ 32 := by
  obtain ⟨h1, h2⟩ := h
  constructor <;> (intro e; rw [e] at h1; revert h1; decide)
theorem itoa_ns (z : Int) : ∀ c ∈ Lib.itoa z, c ≠ 47 ∧ c ≠ 32 := by
  intro c hc
  unfold Lib.itoa at hc
  split at hc
  · rcases List.mem_cons.1 hc with rfl | h
    · decide
    · exact dgt_ns c (dec_dgt _ c h)
  · exact dgt_ns c (dec_dgt _ c hc)
theorem ptB_data (p : P3) : (ptB p).data.toList = Lib.itoa p.1 ++ 47 :: (Lib.itoa p.2.1 ++ 47 :: Lib.itoa p.2.2) := by
  unfold ptB itoaB
  simp [ByteArray.data_append]
theorem spS_pt (p : P3) : spS (ptB p).data.toList = [Lib.itoa p.1, Lib.itoa p.2.1, Lib.itoa p.2.2] := by
  rw [ptB_data, spS_cut _ _ (fun c hc => (itoa_ns _ c hc).1), spS_cut _ _ (fun c hc => (itoa_ns _ c hc).1), spS_none _ (fun c hc => (itoa_ns _ c hc).1)]
theorem pt_nb (p : P3) : ∀ c ∈ (ptB p).data.toList, c ≠ 32 := by
  intro c hc
  rw [ptB_data] at hc
  rcases List.mem_append.1 hc with h | h
  · exact (itoa_ns _ c h).2
  · rcases List.mem_cons.1 h with rfl | h
    · decide
    · rcases List.mem_append.1 h with h | h
      · exact (itoa_ns _ c h).2
      · rcases List.mem_cons.1 h with rfl | h
        · decide
        · exact (itoa_ns _ c h).2
theorem rp_pt (p : P3) (h : Small3 p) : rpI (ptB p).data.toList = (p, true) := by
  obtain ⟨h1, h2, h3⟩ := h
  have e1 : rvI (Lib.itoa p.1) = (p.1, true) := (rvI_iff _ _).2 ⟨h1, rfl⟩
  have e2 : rvI (Lib.itoa p.2.1) = (p.2.1, true) := (rvI_iff _ _).2 ⟨h2, rfl⟩
  have e3 : rvI (Lib.itoa p.2.2) = (p.2.2, true) := (rvI_iff _ _).2 ⟨h3, rfl⟩
  unfold rpI
  rw [spS_pt]
  simp only [e1, e2, e3]
  rfl
theorem join_spS (l : List UInt8) : Lib.join (spS l) [47] = l := by
  induction l with
  | nil => simp [spS, Lib.join_one]
  | cons c r ih =>
    obtain ⟨p, ps, e⟩ : ∃ p ps, spS r = p :: ps := by
      cases h : spS r with
      | nil => exact absurd h (spS_ne r)
      | cons p ps => exact ⟨p, ps, rfl⟩
    by_cases hc : c = 47
    · subst hc
      rw [spS_slash, e]
      rw [e] at ih
      rw [Lib.join_cons] at ih ⊢
      simp only [Lib.joinTail, List.nil_append, List.singleton_append, List.cons_append] at ih ⊢
      simp only [List.map_cons, List.flatten_cons, List.cons_append]
      rw [ih]
    · rw [spS_else c r p ps hc e]
      rw [e] at ih
      rw [Lib.join_cons] at ih ⊢
      rw [List.cons_append, ih]
theorem join_spB (l : List UInt8) : Lib.join (spB l) [32] = l := by
  induction l with
  | nil => simp [spB, Lib.join_one]
  | cons c r ih =>
    obtain ⟨p, ps, e⟩ : ∃ p ps, spB r = p :: ps := by
      cases h : spB r with
      | nil => exact absurd h (spB_ne r)
      | cons p ps => exact ⟨p, ps, rfl⟩
    by_cases hc : c = 32
    · subst hc
      rw [spB_blank, e]
      rw [e] at ih
      rw [Lib.join_cons] at ih ⊢
      simp only [Lib.joinTail, List.nil_append, List.singleton_append, List.cons_append] at ih ⊢
      simp only [List.map_cons, List.flatten_cons, List.cons_append]
      rw [ih]
    · rw [spB_else c r p ps hc e]
      rw [e] at ih
      rw [Lib.join_cons] at ih ⊢
      rw [List.cons_append, ih]
theorem spB_join : ∀ (l : List (List UInt8)), l ≠ [] → (∀ x ∈ l, ∀ c ∈ x, c ≠ 32) → spB (Lib.join l [32]) = l
  | [], h, _ => absurd rfl h
  | [a], _, h => by rw [Lib.join_one]; exact spB_none a (h a (by simp))
  | a :: b :: r, _, h => by
    have e : Lib.join (a :: b :: r) [32] = a ++ 32 :: Lib.join (b :: r) [32] := by
      rw [Lib.join_cons, Lib.join_cons]; simp [Lib.joinTail]
    rw [e, spB_cut a _ (h a (by simp)), spB_join (b :: r) (by simp) (fun x hx => h x (by simp at hx ⊢; right; exact hx))]
/-- A part that was read has the word as its text. -/
theorem pt_rp (l : List UInt8) (h : (rpI l).2 = true) : (ptB (rpI l).1).data.toList = l ∧ Small3 (rpI l).1 := by
  by_cases h3 : (spS l).length = 3
  · obtain ⟨a, b, c, e⟩ := three_of h3
    have hr : rpI l = (((rvI a).1, (rvI b).1, (rvI c).1), (rvI a).2 && (rvI b).2 && (rvI c).2) := by unfold rpI; rw [e]
    rw [hr] at h ⊢
    simp only [Bool.and_eq_true] at h
    obtain ⟨⟨h1, h2⟩, h4⟩ := h
    obtain ⟨v1, i1⟩ := (rvI_iff a (rvI a).1).1 (by rw [← h1])
    obtain ⟨v2, i2⟩ := (rvI_iff b (rvI b).1).1 (by rw [← h2])
    obtain ⟨v3, i3⟩ := (rvI_iff c (rvI c).1).1 (by rw [← h4])
    refine ⟨?_, v1, v2, v3⟩
    rw [ptB_data]
    simp only
    rw [i1, i2, i3]
    have := join_spS l
    rw [e] at this
    rw [← this]
    simp [Lib.join_cons, Lib.joinTail]
  · rw [rpI_bad h3] at h; cases h
theorem gtB_data (zs : List P3) : (gtB zs zs.length).data.toList = Lib.join (zs.map fun p => (ptB p).data.toList) [32] := by
  rw [gtB_join zs zs.length (Nat.le_refl _), List.take_length]
theorem text_gd (zs : List P3) (h : gd zs = true) : rgI (gtB zs zs.length).data.toList = some zs := by
  have hs := gd_small h
  have hl := gd_len h
  have hp := ((gd_iff zs).1 h).1.1
  have hb : spB (gtB zs zs.length).data.toList = zs.map fun p => (ptB p).data.toList := by
    rw [gtB_data]
    refine spB_join _ (by intro e; rw [List.map_eq_nil_iff] at e; rw [e] at hp; simp at hp) (fun x hx => ?_)
    obtain ⟨p, -, rfl⟩ := List.mem_map.1 hx
    exact pt_nb p
  have hm : (zs.map fun p => (ptB p).data.toList).map (fun x => (rpI x).1) = zs := by
    rw [List.map_map]
    exact (List.map_congr_left (g := id) (fun p hp => by simp [rp_pt p (hs p hp)])).trans (List.map_id _)
  unfold rgI
  rw [hb, if_neg (by rw [List.length_map]; omega), if_pos, hm]
  rw [hm, h, Bool.and_true, List.all_eq_true]
  intro x hx
  obtain ⟨p, hp, rfl⟩ := List.mem_map.1 hx
  rw [rp_pt p (hs p hp)]
theorem gd_text (u : ByteArray) (zs : List P3) (h : rgI u.data.toList = some zs) : gd zs = true ∧ gtB zs zs.length = u := by
  unfold rgI at h
  split at h
  · cases h
  · split at h
    · rename_i ha
      injection h with h
      rw [Bool.and_eq_true, List.all_eq_true] at ha
      rw [h] at ha
      refine ⟨ha.2, ?_⟩
      apply ByteArray.ext
      apply Array.toList_inj.1
      rw [gtB_data, ← h, List.map_map]
      have e : (spB u.data.toList).map ((fun p => (ptB p).data.toList) ∘ fun x => (rpI x).1) = spB u.data.toList :=
        (List.map_congr_left (g := id) (fun x hx => (pt_rp x (ha.1 x hx)).1)).trans (List.map_id _)
      rw [e, join_spB]
    · cases h
theorem rg_size {u : ByteArray} : (rgI u.data.toList).isSome = true → ((rgI u.data.toList).getD []).length ≤ 12 := by
  intro h
  obtain ⟨zs, e⟩ := Option.isSome_iff_exists.1 h
  rw [e]
  exact gd_len (gd_text u zs e).1
theorem gtS_size (zs : List P3) : (gtS zs).size ≤ 756 := by
  unfold gtS
  split
  · rename_i h
    have := gtB_size zs (gd_small h) zs.length (Nat.le_refl _)
    have := gd_len h
    omega
  · decide
/-- The words of the law. -/
theorem gt_case (zs : List P3) : (((cmE zs : Int) != 0) = true) ∨ (cmE zs = 0 ∧ rgI (gtS zs).data.toList = some zs) := by
  cases h : gd zs
  · left; unfold cmE; rw [h]; rfl
  · right
    unfold cmE gtS
    rw [h]
    exact ⟨rfl, text_gd zs h⟩
theorem rg_case (u : ByteArray) : (rgI u.data.toList = none) ∨ (∃ zs, rgI u.data.toList = some zs ∧ gtS zs = u ∧ cmE zs = 0 ∧ zs.length ≤ 12 ∧ gd zs = true) := by
  cases h : rgI u.data.toList with
  | none => exact .inl rfl
  | some zs =>
    right
    obtain ⟨h1, h2⟩ := gd_text u zs h
    refine ⟨zs, rfl, ?_, ?_, gd_len h1, h1⟩
    · unfold gtS; rw [h1]; exact h2
    · unfold cmE; rw [h1]; rfl

theorem ptv_small {zs : List P3} (h : ∀ z ∈ zs, PtV z) : ∀ p ∈ zs, Small3 p := fun p hp => by
  obtain ⟨h1, h2, h3⟩ := h p hp
  exact ⟨(vl_iff _).2 (by omega), (vl_iff _).2 (by omega), (vl_iff _).2 (by omega)⟩
/-- A drawn text. -/
def OneTx (w : World) (e : Ending) (w' : World) : Prop := ∃ u : ByteArray, e = .returned (.string u) ∧ u.size ≤ 1048576 ∧ Below w.heap.size w w'
set_option maxHeartbeats 2000000 in
theorem drawRG_any (A : Option Addr) (n c : Nat) (w : World) (hn : n ≤ 4611686018427387904) (hB : Bytes w w.heap.size A n) :
    Calls Tryd.prog 14 #[.slice A n c] w (OneTx w) := by
  go_enter Tryd.func14, Tryd.ntmps14
  go_wp2_with fail
  refine (from_any A n c w hn hB).mono ?_
  rintro e w1 ⟨b, rfl, hb, hS1, hl1⟩
  have lb := hS1.lt
  go_wp2_with fail
  refine (valid7_any A n c b _ hS1).mono ?_
  rintro e w2 ⟨v, zs, rfl, -, l1, hP, hO, hS2, hT2⟩
  obtain ⟨A2, c2, rfl, R2⟩ := Lst3.slice hO
  have hs : ∀ p ∈ zs, Small3 p := ptv_small hP
  have HT := Lib.hid (l07Text_any A2 zs.length c2 zs w2 rfl l1 R2 hs)
  have hz := gtB_size zs hs zs.length (Nat.le_refl _)
  generalize gtB zs zs.length = t at *
  have hW2 := hl1.trans (hT2.below hb hl1.size)
  clear hO R2 hs hP
  go_wp2_with fail
  refine (HT.out).mono ?_
  rintro e w3 ⟨rfl, hg3⟩
  have hS3 := hS2.under hg3.below hS2.lt
  have hW3 := hW2.trans (hg3.below.mono hW2.size)
  go_wp2_with fail
  refine (next_any A n c b _ _ hS3).mono ?_
  rintro e w4 ⟨x, rfl, x0, x1, -, hS4, hd4⟩
  have hW4 := hW3.trans (hd4.below hb hW3.size)
  by_cases h0 : x = 0
  · subst h0
    go_wp2_with fail
    refine (damage_any A n c b t (by omega) _ hS4).mono ?_
    rintro e w5 ⟨u, rfl, hu, -, hd5⟩
    have hW5 := hW4.trans (hd5.below hb hW4.size)
    go_wp2_with fail
    go_ret
    exact ⟨u, rfl, by omega, hW5⟩
  · have hb0 : ((x : Int) == 0) = false := by simp [h0]
    go_wp2_with fail
    go_ret
    exact ⟨t, rfl, by omega, hW4⟩
end Go.Proofs.YtdbeedfapkfibaaDoor
