/- Contracts of chapter 7: the model's nearest mark. -/
import Derived.Test.YtggflladheemoaaC07c
import Derived.Test.Ytggflladheemoaa1A
namespace Go.Proofs.Ytggflladheemoaa
open Go.RowKit
set_option linter.unusedVariables false
set_option linter.unusedSimpArgs false

/-- What a walk over all marks needs of them. -/
theorem mks_facts {zs : List P3} (h : gd zs = true) : (mks zs)[0]? = some 1000 ∧ (∀ x ∈ mks zs, 1000 ≤ x ∧ x < 10000) ∧ 1 ≤ (mks zs).length ∧ (mks zs).length ≤ 9000 := by
  obtain ⟨-, h2⟩ := (gd_iff zs).1 h
  obtain ⟨u1, u2⟩ := mks_bd _ _ _ h2
  obtain ⟨l1, l2⟩ := cntM_len _ _ _ h2
  have h0 := mks_head zs h
  obtain ⟨hk, -⟩ := List.getElem?_eq_some_iff.1 h0
  exact ⟨h0, u2, by omega, by omega⟩
theorem nrS_in (m : Int) (l : List Int) (h : ∀ x ∈ l, 1000 ≤ x ∧ x < 10000) : 1000 ≤ nrS m 1000 l ∧ nrS m 1000 l < 10000 := by
  rcases (nrS_spec m l 1000).1 with e | e
  · omega
  · exact h _ e
theorem nrS_take (m : Int) {l : List Int} {k : Nat} {x : Int} (h : l[k]? = some x) : nrS m 1000 (l.take (k + 1)) = if (x - m).natAbs < (nrS m 1000 (l.take k) - m).natAbs then x else nrS m 1000 (l.take k) := by
  obtain ⟨hk, e⟩ := List.getElem?_eq_some_iff.1 h
  rw [List.take_succ_eq_append_getElem hk, e, nrS_snoc]
theorem decb7 (p : Prop) [Decidable p] : decide p = true ∨ decide p = false := by cases decide p <;> simp
def inD (m : Int) : Bool := decide (1000 ≤ m ∧ m ≤ 9999)
def nmV (zs : List P3) (m : Int) : Int := if gd zs = true then if inD m = true then nrM zs m else 0 else 0
def nmE (zs : List P3) (m : Int) : Int := if gd zs = true then if inD m = true then 0 else 2 else 1

/-- The marks of a valid graduation lie in blocks of the call's own, behind a world that has grown. -/
theorem marks_row (A : Option Addr) (n c : Nat) (zs : List P3) (w w1 : World) (hw : Gr w w1) (hn : zs.length = n) (hN : n ≤ 16777216) (hA : Reads w w.heap.size A (cells3 zs)) (hv : gd zs = true) :
    Calls Try.prog 50 #[.slice A n c] w1 fun e w2 => ∃ g cp : Nat, e = .returned (.slice (some ⟨g, 0, none⟩) (mks zs).length cp) ∧ g < w2.heap.size ∧ w2.cell? ⟨g, 0, none⟩ = some (vi 1000) ∧ Hid (∀ k x, (mks zs)[k]? = some x → w2.cell? ⟨g, k, none⟩ = some (vi x)) ∧ Hid (Below w.heap.size w w2) := by
  obtain ⟨f0, f1, f2, f3⟩ := mks_facts hv
  refine (marks_spec A n c zs w1 hn hN (hA.gr hw) hv).mono ?_
  rintro e w2 ⟨⟨v, rfl, hown⟩, hb⟩
  obtain ⟨g, cp, rfl, hg1, hg2, hcs⟩ := Lst.form hown (by omega)
  exact ⟨g, cp, rfl, hg2, hcs 0 1000 f0, Lib.hid hcs, Lib.hid (hw.below.trans (hb.mono hw.below.size))⟩

set_option maxRecDepth 100000 in
set_option maxHeartbeats 2000000 in
theorem nm_spec (A : Option Addr) (n c : Nat) (zs : List P3) (m : Int) (w : World) (hn : zs.length = n) (hN : n ≤ 16777216) (hA : Reads w w.heap.size A (cells3 zs)) :
    Calls Try.prog 16 #[.slice A n c, .int .i64 m] w fun e w' => e = .returned (.tuple #[.int .i64 (nmV zs m), .int .i64 (nmE zs m)]) ∧ Below w.heap.size w w' := by
  have HG := Lib.hid (gd_spec A n c zs w hn hN hA)
  have HI := Lib.hid (fun W => in_any m 1000 9999 W)
  rcases Bool.eq_false_or_eq_true (gd zs) with hv | hv
  · rw [hv] at HG
    rcases decb7 (1000 ≤ m ∧ m ≤ 9999) with hd | hd
    · have HM := Lib.hid (fun W hW => marks_row A n c zs w W hW hn hN hA hv)
      have HC := Lib.hid (show nmV zs m = nrS m 1000 (mks zs) ∧ nmE zs m = 0 by unfold nmV nmE inD nrM; rw [hv, hd]; exact ⟨rfl, rfl⟩)
      obtain ⟨f0, f1, f2, f3⟩ := mks_facts hv
      rw [hd] at HI
      have hm := of_decide_eq_true hd
      clear hv hd hA hn
      generalize mks zs = L at *
      have HF1 := Lib.hid f1
      have HNR := Lib.hid (fun (k : Nat) (x : Int) (hx : L[k]? = some x) => nrS_take m hx)
      clear f1
      go_enter Try.func16, Try.ntmps16
      go_wp2_with (first | (go_at_call 22; refine (HG.out).mono ?_; rintro e w' ⟨rfl, kk, os, rfl⟩) | (go_at_call 49; refine (HI.out _).mono ?_; rintro e w' ⟨rfl, rfl⟩) | (go_at_call 50; refine (HM.out _ (by repeat (first | with_reducible exact Gr.refl _ | with_reducible refine Gr.alloc ?_ _ | with_reducible refine Gr.gr ?_ _ _ | with_reducible refine Gr.drew ?_ | with_reducible refine Gr.drewN ?_ _))).mono ?_; rintro e w2 ⟨g, cp, rfl, hg2, x0, HCS, HB⟩))
      go_loopw [7, 8] (fun b i wr => ∃ k : Nat, i = .int .i64 k ∧ k ≤ L.length ∧ b = .int .i64 (nrS m 1000 (L.take k)) ∧ Gr w2 wr) (fun _ i _ => L.length - (intOf i).toNat)
      case atStart => exact ⟨0, rfl, by omega, by simp [nrS], Gr.refl _⟩
      case round =>
        obtain ⟨k, rfl, hk, rfl, hG⟩ := hrel
        by_cases hlt : k < L.length
        · obtain ⟨x, hx⟩ := some_at (l := L) (k := k) hlt
          have y0 : wr.cell? ⟨g, k, none⟩ = some (vi x) := (hG.below.cell (p := ⟨g, k, none⟩) hg2).trans (HCS.out k x hx)
          have HT := Lib.hid (HNR.out k x hx)
          obtain ⟨b1, b2⟩ := HF1.out x (List.mem_of_getElem? hx)
          obtain ⟨b3, b4⟩ := nrS_in m (L.take k) (fun z hz => HF1.out z (List.mem_of_mem_take hz))
          clear hx
          generalize nrS m 1000 (L.take k) = nb at *
          have HA1 := Lib.hid (fun W => abs_any (x - m) W (by omega) (by omega))
          have HA2 := Lib.hid (fun W => abs_any (nb - m) W (by omega) (by omega))
          generalize (x - m).natAbs = a1 at *
          generalize (nb - m).natAbs = a2 at *
          by_cases hc : a1 < a2
          · rw [if_pos hc] at HT
            go_wp2_with (first | (go_at_call 52; with_reducible refine (HA1.out _).mono ?_; rintro e w' ⟨rfl, rfl⟩) | (go_at_call 52; with_reducible refine (HA2.out _).mono ?_; rintro e w' ⟨rfl, rfl⟩))
            go_roundw
            case rel => exact ⟨k + 1, by go_num, by omega, by rw [HT.out], hG⟩
            case measure => simp [intOf]; omega
          · rw [if_neg hc] at HT
            go_wp2_with (first | (go_at_call 52; with_reducible refine (HA1.out _).mono ?_; rintro e w' ⟨rfl, rfl⟩) | (go_at_call 52; with_reducible refine (HA2.out _).mono ?_; rintro e w' ⟨rfl, rfl⟩))
            go_roundw
            case rel => exact ⟨k + 1, by go_num, by omega, by rw [HT.out], hG⟩
            case measure => simp [intOf]; omega
        · have HF := Lib.hid (show L.take k = L from List.take_of_length_le (by omega))
          go_wp2
          ((try simp only [Exit.inBlock, Exit.then]); refine bodyPost_ret (v := .tuple #[.int .i64 (nrS m 1000 (L.take k)), .int .i64 0]) (by simp [results, Try.results16, go_sem]) rfl ?_)
          exact ⟨ret_two (by rw [HC.out.1, HF.out]) HC.out.2.symm, HB.out.trans (hG.below.mono HB.out.size)⟩
    · have HC := Lib.hid (show nmV zs m = 0 ∧ nmE zs m = 2 by unfold nmV nmE inD; rw [hv, hd]; exact ⟨rfl, rfl⟩)
      rw [hd] at HI
      clear hv hd hA hn
      go_enter Try.func16, Try.ntmps16
      go_wp2_with (first | (go_at_call 22; refine (HG.out).mono ?_; rintro e w' ⟨rfl, kk, os, rfl⟩) | (go_at_call 49; refine (HI.out _).mono ?_; rintro e w' ⟨rfl, rfl⟩))
      ((try simp only [Exit.inBlock, Exit.then]); refine bodyPost_ret (v := .tuple #[.int .i64 0, .int .i64 2]) (by simp [results, Try.results16, go_sem]) rfl ?_)
      exact ⟨ret_two HC.out.1.symm HC.out.2.symm, Gr.below ⟨_, _, rfl⟩⟩
  · have HC := Lib.hid (show nmV zs m = 0 ∧ nmE zs m = 1 by unfold nmV nmE; rw [hv]; exact ⟨rfl, rfl⟩)
    rw [hv] at HG
    clear hv hA hn
    go_enter Try.func16, Try.ntmps16
    go_wp2_with (go_at_call 22; refine (HG.out).mono ?_; rintro e w' ⟨rfl, kk, os, rfl⟩)
    ((try simp only [Exit.inBlock, Exit.then]); refine bodyPost_ret (v := .tuple #[.int .i64 0, .int .i64 1]) (by simp [results, Try.results16, go_sem]) rfl ?_)
    exact ⟨ret_two HC.out.1.symm HC.out.2.symm, Gr.below ⟨_, _, rfl⟩⟩
end Go.Proofs.Ytggflladheemoaa
