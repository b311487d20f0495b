/- Contracts of chapter 7: the model's marks within bounds. -/
import Derived.Test.YtggflladheemoaaC07d
import Derived.Deep.Onto
namespace Go.Proofs.Ytggflladheemoaa
open Go.RowKit
set_option linter.unusedVariables false
set_option linter.unusedSimpArgs false

theorem flt_take (p : Int → Bool) {l : List Int} {k : Nat} {x : Int} (h : l[k]? = some x) : (l.take (k + 1)).filter p = (l.take k).filter p ++ (if p x = true then [x] else []) := by
  obtain ⟨hk, e⟩ := List.getElem?_eq_some_iff.1 h
  rw [List.take_succ_eq_append_getElem hk, e, List.filter_append]
  congr 1
  cases hp : p x <;> simp [hp]
theorem flt_len (p : Int → Bool) (l : List Int) (k : Nat) : ((l.take k).filter p).length ≤ l.length := by
  have h1 := List.length_filter_le p (l.take k)
  have h2 := List.length_take_le' k l
  omega
/-- The list that is answered. -/
def moL (zs : List P3) (f t : Int) : List Int := if mrC zs f t = 0 then mrL zs f t else []

set_option maxRecDepth 100000 in
set_option maxHeartbeats 4000000 in
theorem mo_spec (A : Option Addr) (n c : Nat) (zs : List P3) (f t : Int) (w : World) (hn : zs.length = n) (hN : n ≤ 16777216) (hA : Reads w w.heap.size A (cells3 zs)) :
    Calls Try.prog 13 #[.slice A n c, .int .i64 f, .int .i64 t] w fun e w' => (∃ v, e = .returned (.tuple #[v, .int .i64 (mrC zs f t)]) ∧ Lst w' w.heap.size v (moL zs f t)) ∧ Below w.heap.size w w' := by
  have HG := Lib.hid (gd_spec A n c zs w hn hN hA)
  have HI := Lib.hid (fun W => in_any f 1000 9999 W)
  have HJ := Lib.hid (fun W => in_any t 1000 9999 W)
  have HNIL := Lib.hid (fun W => World.ownsRow_nil W w.heap.size 2 1)
  rcases Bool.eq_false_or_eq_true (gd zs) with hv | hv
  rotate_left
  · have HC := Lib.hid (show mrC zs f t = 1 ∧ moL zs f t = [] by
      have e : mrC zs f t = 1 := by unfold mrC; rw [if_pos hv]
      exact ⟨e, by unfold moL; rw [if_neg (by omega)]⟩)
    rw [hv] at HG
    clear hv hA hn
    go_enter Try.func13, Try.ntmps13
    go_wp2_with (go_at_call 22; refine (HG.out).mono ?_; rintro e w' ⟨rfl, kk, os, rfl⟩)
    ((try simp only [Exit.inBlock, Exit.then]); refine bodyPost_ret (v := .tuple #[.slice none 0 0, .int .i64 1]) (by simp [results, Try.results13, go_sem]) rfl ?_)
    exact ⟨⟨_, by rw [HC.out.1], by rw [HC.out.2]; exact HNIL.out _⟩, Gr.below ⟨_, _, rfl⟩⟩
  rw [hv] at HG
  have hr : ∀ (h : inR 1000 9999 f = false ∨ inR 1000 9999 t = false), mrC zs f t = 2 ∧ moL zs f t = [] := fun h => by
    have e : mrC zs f t = 2 := by unfold mrC; rw [if_neg (by rw [hv]; simp), if_pos h]
    exact ⟨e, by unfold moL; rw [if_neg (by omega)]⟩
  rcases decb7 (1000 ≤ f ∧ f ≤ 9999) with hd | hd
  rotate_left
  · have HC := Lib.hid (hr (.inl hd))
    rw [hd] at HI
    clear hr hv hd hA hn
    go_enter Try.func13, Try.ntmps13
    go_wp2_with (first | (go_at_call 22; refine (HG.out).mono ?_; rintro e w' ⟨rfl, kk, os, rfl⟩) | (go_at_call 49; with_reducible refine (HI.out _).mono ?_; rintro e w' ⟨rfl, rfl⟩))
    ((try simp only [Exit.inBlock, Exit.then]); refine bodyPost_ret (v := .tuple #[.slice none 0 0, .int .i64 2]) (by simp [results, Try.results13, go_sem]) rfl ?_)
    exact ⟨⟨_, by rw [HC.out.1], by rw [HC.out.2]; exact HNIL.out _⟩, Gr.below ⟨_, _, rfl⟩⟩
  rw [hd] at HI
  rcases decb7 (1000 ≤ t ∧ t ≤ 9999) with hd2 | hd2
  rotate_left
  · have HC := Lib.hid (hr (.inr hd2))
    rw [hd2] at HJ
    clear hr hv hd hd2 hA hn
    go_enter Try.func13, Try.ntmps13
    go_wp2_with (first | (go_at_call 22; refine (HG.out).mono ?_; rintro e w' ⟨rfl, kk, os, rfl⟩) | (go_at_call 49; with_reducible refine (HI.out _).mono ?_; rintro e w' ⟨rfl, rfl⟩) | (go_at_call 49; with_reducible refine (HJ.out _).mono ?_; rintro e w' ⟨rfl, rfl⟩))
    ((try simp only [Exit.inBlock, Exit.then]); refine bodyPost_ret (v := .tuple #[.slice none 0 0, .int .i64 2]) (by simp [results, Try.results13, go_sem]) rfl ?_)
    exact ⟨⟨_, by rw [HC.out.1], by rw [HC.out.2]; exact HNIL.out _⟩, Gr.below ⟨_, _, rfl⟩⟩
  rw [hd2] at HJ
  have HM := Lib.hid (fun W hW => marks_row A n c zs w W hW hn hN hA hv)
  obtain ⟨f0, f1, f2, f3⟩ := mks_facts hv
  have hcm : mrC zs f t = if 200 < ((mks zs).filter (inR f t)).length then 3 else 0 := by
    unfold mrC mrL
    rw [if_neg (by rw [hv]; simp), if_neg (by unfold inR; rw [hd, hd2]; simp)]
  have hlm : moL zs f t = if 200 < ((mks zs).filter (inR f t)).length then [] else (mks zs).filter (inR f t) := by
    unfold moL
    rw [hcm]
    split <;> simp [mrL]
  have HCM := Lib.hid hcm
  have HLM := Lib.hid hlm
  clear hr hv hd hd2 hA hn hcm hlm f0
  generalize mks zs = L at *
  have HP := Lib.hid (fun x W => in_any x f t W)
  have HIR := Lib.hid (show ∀ x, decide (f ≤ x ∧ x ≤ t) = inR f t x from fun _ => rfl)
  have HNR := Lib.hid (fun (k : Nat) (x : Int) (hx : L[k]? = some x) => flt_take (inR f t) hx)
  have HLN := Lib.hid (fun k => flt_len (inR f t) L k)
  obtain ⟨i0, hi, hz0, hz1, hz2⟩ := info_parts info_i7
  clear f1
  go_enter Try.func13, Try.ntmps13
  go_wp2_with (first | (go_at_call 22; refine (HG.out).mono ?_; rintro e w' ⟨rfl, kk, os, rfl⟩) | (go_at_call 49; with_reducible refine (HI.out _).mono ?_; rintro e w' ⟨rfl, rfl⟩) | (go_at_call 49; with_reducible refine (HJ.out _).mono ?_; rintro e w' ⟨rfl, rfl⟩) | (go_at_call 50; refine (HM.out _ (by repeat (first | with_reducible exact Gr.refl _ | with_reducible refine Gr.alloc ?_ _ | with_reducible refine Gr.gr ?_ _ _ | with_reducible refine Gr.drew ?_ | with_reducible refine Gr.drewN ?_ _))).mono ?_; rintro e w2 ⟨g, cp, rfl, hg2, x0, HCS, HB⟩))
  have O1 : Lst (w2.alloc (.cells #[] 2)) w2.heap.size (.slice (some ⟨w2.heap.size, 0, none⟩) 0 0) [] := World.ownsRow_made w2 #[] 0 (Nat.le_refl _) (Nat.zero_le _) rfl
  have B1 : Below w2.heap.size w2 (w2.alloc (.cells #[] 2)) := (Below.refl _ _).alloc (Nat.le_refl _) _
  go_loopw [9, 10] (fun v i wr => ∃ k : Nat, i = .int .i64 k ∧ k ≤ L.length ∧ (∃ A1 n1 c1, v = .slice A1 n1 c1 ∧ n1 = ((L.take k).filter (inR f t)).length) ∧ Hid (Lst wr w2.heap.size v ((L.take k).filter (inR f t))) ∧ Hid (Below w2.heap.size w2 wr)) (fun _ i _ => L.length - (intOf i).toNat)
  case atStart => exact ⟨0, rfl, by omega, ⟨_, _, _, rfl, by simp⟩, Lib.hid (by simpa using O1), Lib.hid B1⟩
  case round =>
    obtain ⟨k, rfl, hk, ⟨A1, n1, c1, rfl, hn1⟩, HO, HW⟩ := hrel
    clear O1 B1
    have hbs := HW.out.size
    by_cases hlt : k < L.length
    · obtain ⟨x, hx⟩ := some_at (l := L) (k := k) hlt
      have y0 : wr.cell? ⟨g, k, none⟩ = some (vi x) := (HW.out.cell (p := ⟨g, k, none⟩) hg2).trans (HCS.out k x hx)
      have HT := Lib.hid (HNR.out k x hx)
      have hl := HLN.out k
      have HPX := Lib.hid (HP.out x)
      rw [HIR.out x] at HPX
      clear hx
      generalize hxs : (L.take k).filter (inR f t) = xs at *
      clear hxs
      subst hn1
      rcases Bool.eq_false_or_eq_true (inR f t x) with hc | hc
      · rw [hc] at HPX
        rw [hc, if_pos rfl] at HT
        clear hc
        go_wp2_with (first | (go_at_call 49; with_reducible refine (HPX.out _).mono ?_; rintro e w' ⟨rfl, rfl⟩) | (at_builtin; refine wpList_append_own _ rfl _ _ 30 rfl w2.heap.size 2 i0 (.int .i64 0) 1 8 Try.underlying30 hi hz0 hz1 hz2 rfl (by decide) _ _ _ rfl (HO.out.alloc _) ⟨wr.heap.size, 0, none⟩ 1 1 [.int .i64 x] rfl rfl (one_cell_new _ _ _) (by simp [Value.oneCell']) (by unfold maxLen; omega) (by omega) (by simp; omega) ?_; intro v' w4 hown' hgrow _; obtain ⟨hA1, hA2⟩ := Lst.app (x := x) HW.out hbs (HO.out.alloc _) (by simpa using hown') hgrow; have HA1 := Lib.hid hA1; have HA2 := Lib.hid hA2; clear hA1 hA2 hown' hgrow))
        go_roundw
        case rel =>
          refine ⟨k + 1, by go_num, by omega, ?_, ?_, HA2⟩
          · obtain ⟨g4, c4, e4, -⟩ := Lst.form HA1.out (by simp)
            exact ⟨_, _, _, e4, by rw [HT.out]⟩
          · rw [HT.out]; exact HA1
        case measure => simp [intOf]; omega
      · rw [hc] at HPX
        rw [hc, if_neg (by simp), List.append_nil] at HT
        clear hc
        go_wp2_with (go_at_call 49; with_reducible refine (HPX.out _).mono ?_; rintro e w' ⟨rfl, rfl⟩)
        go_roundw
        case rel => exact ⟨k + 1, by go_num, by omega, ⟨_, _, _, rfl, by rw [HT.out]⟩, by rw [HT.out]; exact HO, HW⟩
        case measure => simp [intOf]; omega
    · have HF := Lib.hid (show L.take k = L from List.take_of_length_le (by omega))
      rw [HF.out] at hn1 HO
      have hl := HLN.out L.length
      rw [List.take_length] at hl
      have HE := Lib.hid (HB.out.trans (HW.out.mono HB.out.size))
      have HO2 := Lib.hid (World.ownsRow.mono HO.out HB.out.size)
      by_cases hq : 200 < n1
      · have HC := Lib.hid (show mrC zs f t = 3 ∧ moL zs f t = [] by rw [HCM.out, HLM.out, if_pos (by omega), if_pos (by omega)]; exact ⟨rfl, rfl⟩)
        have hn16 : n1 ≤ 16777216 := by omega
        go_wp2
        ((try simp only [Exit.inBlock, Exit.then]); refine bodyPost_ret (v := .tuple #[.slice none 0 0, .int .i64 3]) (by simp [results, Try.results13, go_sem]) rfl ?_)
        exact ⟨⟨_, by rw [HC.out.1], by rw [HC.out.2]; exact HNIL.out _⟩, HE.out⟩
      · have HC := Lib.hid (show mrC zs f t = 0 ∧ moL zs f t = L.filter (inR f t) by rw [HCM.out, HLM.out, if_neg (by omega), if_neg (by omega)]; exact ⟨rfl, rfl⟩)
        have hn16 : n1 ≤ 16777216 := by omega
        go_wp2
        ((try simp only [Exit.inBlock, Exit.then]); refine bodyPost_ret (v := .tuple #[.slice A1 n1 c1, .int .i64 0]) (by simp [results, Try.results13, go_sem]) rfl ?_)
        exact ⟨⟨_, by rw [HC.out.1], by rw [HC.out.2]; exact HO2.out⟩, HE.out⟩
end Go.Proofs.Ytggflladheemoaa
