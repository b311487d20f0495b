/- Contracts of chapter 13: valid chains, logarithms and spans of chains. -/
import Derived.Test.YtphebmbapllinaaCT
import Derived.Test.YtphebmbapllinaaMG
import Derived.Test.Ytphebmbapllinaa2A
import Derived.Test.Ytphebmbapllinaa3A
import Derived.Test.YtphebmbapllinaaC04d
import Derived.Test.YtphebmbapllinaaLw
namespace Go.Proofs.Ytphebmbapllinaa
open Go.RowKit
set_option linter.unusedVariables false
set_option linter.unusedSimpArgs false

theorem fg_tf (d t : Int) : fg d t = true ∨ fg d t = false := by cases fg d t <;> simp
theorem isChain_spec (A : Option Addr) (n c : Nat) (cs : List Tm) (w : World) (hn : cs.length = n) (hN : n ≤ 16777216) (hA : Reads w w.heap.size A (tcells cs)) :
    Calls Try.prog 36 #[.slice A n c] w fun e w' => e = .returned (.bool (chnB cs)) ∧ Gr w w' := by
  have HL := Lib.hid hn
  have HM := Lib.hid hA
  clear hn hA
  go_enter Try.func36, Try.ntmps36
  go_wp2
  go_loopw [3] (fun i wr => ∃ k : Nat, k ≤ n ∧ i = .int .i64 k ∧ Hid ((cs.take k).all tmF = true) ∧ Gr w wr) (fun i _ => n - (intOf i).toNat)
  case atStart => exact ⟨0, by omega, rfl, Lib.hid (by simp), Gr.refl _⟩
  case round =>
    obtain ⟨k, hk, rfl, HO, hG⟩ := hrel
    by_cases hlt : k < n
    · obtain ⟨m, hm⟩ := some_at (l := cs) (k := k) (by rw [HL.out]; exact hlt)
      obtain ⟨g, o, rfl, hg, x0, x1, x2⟩ := (HM.out.gr hG).att hm
      have H := Lib.hid hm
      obtain ⟨d, t, b⟩ := m
      simp only at x0 x1 x2
      clear hm
      have HI := Lib.hid (fun W => isFigure_spec d t W)
      rcases fg_tf d t with hb | hb
      · have HR := Lib.hid (all_snoc H.out HO.out hb)
        rw [hb] at HI
        clear hb
        go_wp2_with (go_at_call 68; (with_reducible refine (HI.out _).mono ?_); rintro e w2 ⟨rfl, kk, os, rfl⟩)
        go_roundw
        case rel => exact ⟨k + 1, by omega, by go_num, HR, hG.trans (by repeat (first | with_reducible exact Gr.refl _ | with_reducible refine Gr.alloc ?_ _ | with_reducible refine Gr.gr ?_ _ _ | with_reducible refine Gr.drew ?_ | with_reducible refine Gr.drewN ?_ _))⟩
        case measure => simp [intOf]; omega
      · have HR := Lib.hid (chnB_bad H.out hb)
        rw [hb] at HI
        clear hb
        go_wp2_with (go_at_call 68; (with_reducible refine (HI.out _).mono ?_); rintro e w2 ⟨rfl, kk, os, rfl⟩)
        go_ret
        exact ⟨ret_bool HR.out.symm, hG.trans (by repeat (first | with_reducible exact Gr.refl _ | with_reducible refine Gr.alloc ?_ _ | with_reducible refine Gr.gr ?_ _ _ | with_reducible refine Gr.drew ?_ | with_reducible refine Gr.drewN ?_ _))⟩
    · obtain rfl : k = n := by omega
      have HA := Lib.hid (show cs.all tmF = true by have := HO.out; rwa [List.take_of_length_le (by rw [HL.out]; omega)] at this)
      by_cases hl : 1 ≤ k ∧ k ≤ 6
      · obtain ⟨m, hm⟩ := some_at (l := cs) (k := 0) (by rw [HL.out]; omega)
        obtain ⟨g, o, rfl, hg, x0, x1, x2⟩ := (HM.out.gr hG).att hm
        obtain ⟨d, t, b⟩ := m
        simp only at x0 x1 x2
        have HR := Lib.hid (show chnB cs = !b by
          have h0 : tm0 cs = b := by
            cases cs with
            | nil => cases hm
            | cons x r => simp at hm; subst hm; rfl
          unfold chnB
          rw [h0, HA.out, decide_eq_true (by rw [HL.out]; exact hl)]
          simp)
        have hd : decide ((1 : Int) ≤ (k : Int) ∧ (k : Int) ≤ 6) = true := decide_eq_true (by omega)
        have hkp : 0 < k := by omega
        have HI := Lib.hid (fun W => in_any (k : Int) 1 6 W)
        rw [hd] at HI
        clear hm hl hd
        cases b
        all_goals
          go_wp2_with (go_at_call 48; (with_reducible refine (HI.out _).mono ?_); rintro e w2 ⟨rfl, rfl⟩)
          go_ret
          exact ⟨ret_bool HR.out.symm, hG.trans (by repeat (first | with_reducible exact Gr.refl _ | with_reducible refine Gr.alloc ?_ _ | with_reducible refine Gr.gr ?_ _ _ | with_reducible refine Gr.drew ?_ | with_reducible refine Gr.drewN ?_ _))⟩
      · have HR := Lib.hid (chnB_len (cs := cs) (by rw [HL.out]; exact hl))
        have hd : decide ((1 : Int) ≤ (k : Int) ∧ (k : Int) ≤ 6) = false := decide_eq_false (by omega)
        have HI := Lib.hid (fun W => in_any (k : Int) 1 6 W)
        rw [hd] at HI
        clear hl hd
        go_wp2_with (go_at_call 48; (with_reducible refine (HI.out _).mono ?_); rintro e w2 ⟨rfl, rfl⟩)
        go_ret
        exact ⟨ret_bool HR.out.symm, hG.trans (by repeat (first | with_reducible exact Gr.refl _ | with_reducible refine Gr.alloc ?_ _ | with_reducible refine Gr.gr ?_ _ _ | with_reducible refine Gr.drew ?_ | with_reducible refine Gr.drewN ?_ _))⟩
theorem isChain_impl (A : Option Addr) (n c : Nat) (cs : List Tm) (w : World) (hn : cs.length = n) (hN : n ≤ 16777216) (hA : Reads w w.heap.size A (tcells cs)) :
    Calls Try.prog 23 #[.slice A n c] w fun e w' => e = .returned (.bool (chnB cs)) ∧ Gr w w' := by
  have HL := Lib.hid hn
  have HM := Lib.hid hA
  clear hA
  by_cases hl : 1 ≤ n ∧ n ≤ 6
  rotate_left
  · have HR := Lib.hid (chnB_len (cs := cs) (by rw [HL.out]; exact hl))
    clear hn
    by_cases h1 : n < 1
    · obtain rfl : n = 0 := by omega
      clear hl h1
      go_enter Try.func23, Try.ntmps23
      go_wp2
      go_ret
      exact ⟨ret_bool HR.out.symm, (by repeat (first | with_reducible exact Gr.refl _ | with_reducible refine Gr.alloc ?_ _ | with_reducible refine Gr.gr ?_ _ _ | with_reducible refine Gr.drew ?_ | with_reducible refine Gr.drewN ?_ _))⟩
    · have h6 : 6 < n := by omega
      clear hl
      go_enter Try.func23, Try.ntmps23
      go_wp2
      go_ret
      exact ⟨ret_bool HR.out.symm, (by repeat (first | with_reducible exact Gr.refl _ | with_reducible refine Gr.alloc ?_ _ | with_reducible refine Gr.gr ?_ _ _ | with_reducible refine Gr.drew ?_ | with_reducible refine Gr.drewN ?_ _))⟩
  obtain ⟨l1, l6⟩ := hl
  obtain ⟨m, hm⟩ := some_at (l := cs) (k := 0) (by rw [HL.out]; omega)
  obtain ⟨g, o, rfl, hg, x0, x1, x2⟩ := HM.out.att hm
  obtain ⟨d, t, b⟩ := m
  simp only at x0 x1 x2
  have h0 : tm0 cs = b := by
    cases cs with
    | nil => cases hm
    | cons x r => simp at hm; subst hm; rfl
  clear hn
  cases b
  rotate_left
  · have HR := Lib.hid (chnB_div h0)
    clear h0 hm
    go_enter Try.func23, Try.ntmps23
    go_wp2
    go_ret
    exact ⟨ret_bool HR.out.symm, (by repeat (first | with_reducible exact Gr.refl _ | with_reducible refine Gr.alloc ?_ _ | with_reducible refine Gr.gr ?_ _ _ | with_reducible refine Gr.drew ?_ | with_reducible refine Gr.drewN ?_ _))⟩
  have H0 := Lib.hid h0
  clear h0 hm
  go_enter Try.func23, Try.ntmps23
  go_wp2
  clear x0 x1 x2
  go_loopw [21] (fun i wr => ∃ k : Nat, k ≤ n ∧ i = .int .i64 k ∧ Hid ((cs.take k).all tmF = true) ∧ Gr w wr) (fun i _ => n - (intOf i).toNat)
  case atStart => exact ⟨0, by omega, rfl, Lib.hid (by simp), Gr.refl _⟩
  case round =>
    obtain ⟨k, hk, rfl, HO, hG⟩ := hrel
    by_cases hlt : k < n
    · obtain ⟨m, hm⟩ := some_at (l := cs) (k := k) (by rw [HL.out]; exact hlt)
      obtain ⟨g', o', e', hg', x0, x1, x2⟩ := (HM.out.gr hG).att hm
      injection e' with e'
      injection e' with ea eb
      subst ea eb
      have H := Lib.hid hm
      obtain ⟨d, t, b⟩ := m
      simp only at x0 x1 x2
      clear hm
      have HI := Lib.hid (fun W => isFigure_impl d t W)
      rcases fg_tf d t with hb | hb
      · have HR := Lib.hid (all_snoc H.out HO.out hb)
        rw [hb] at HI
        clear hb
        go_wp2_with (go_at_call 54; (with_reducible refine (HI.out _).mono ?_); rintro e w2 ⟨rfl, kk, os, rfl⟩)
        go_roundw
        case rel => exact ⟨k + 1, by omega, by go_num, HR, hG.trans (by repeat (first | with_reducible exact Gr.refl _ | with_reducible refine Gr.alloc ?_ _ | with_reducible refine Gr.gr ?_ _ _ | with_reducible refine Gr.drew ?_ | with_reducible refine Gr.drewN ?_ _))⟩
        case measure => simp [intOf]; omega
      · have HR := Lib.hid (chnB_bad H.out hb)
        rw [hb] at HI
        clear hb
        go_wp2_with (go_at_call 54; (with_reducible refine (HI.out _).mono ?_); rintro e w2 ⟨rfl, kk, os, rfl⟩)
        go_ret
        exact ⟨ret_bool HR.out.symm, hG.trans (by repeat (first | with_reducible exact Gr.refl _ | with_reducible refine Gr.alloc ?_ _ | with_reducible refine Gr.gr ?_ _ _ | with_reducible refine Gr.drew ?_ | with_reducible refine Gr.drewN ?_ _))⟩
    · obtain rfl : k = n := by omega
      have HR := Lib.hid (show chnB cs = true by
        rw [chnB_iff, H0.out, HL.out]
        exact ⟨⟨l1, l6⟩, rfl, by have := HO.out; rwa [List.take_of_length_le (by rw [HL.out]; omega)] at this⟩)
      go_wp2
      go_ret
      exact ⟨ret_bool HR.out.symm, hG⟩

set_option maxRecDepth 100000 in
set_option maxHeartbeats 4000000 in
/-- A term is added to an interval, in the program. -/
theorem addTo_any (d t : Int) (b : Bool) (l h : Int) (w : World) (hf : fg d t = true) (l1 : -400000000 ≤ l) (l2 : l ≤ 400000000) (h1 : -400000000 ≤ h) (h2 : h ≤ 400000000) :
    Calls Try.prog 52 #[.agg #[.int .i64 d, .int .i64 t, .bool b], .agg #[.int .i64 l, .int .i64 h]] w fun e w' => e = .returned (.agg #[.int .i64 (tmA (l, h) (d, t, b)).1, .int .i64 (tmA (l, h) (d, t, b)).2]) ∧ Gr w w' := by
  have HF := Lib.hid (fun W => figLog_any d t W hf)
  obtain ⟨f1, f2, f3, f4⟩ := flg_bd d t hf
  have HD := Lib.hid (tmA_div (l, h) d t)
  have HM := Lib.hid (tmA_mul (l, h) d t)
  clear hf
  generalize (flg d t).1 = x at *
  generalize (flg d t).2 = y at *
  obtain ⟨B0, B1, B2, G0⟩ := boxes3T w 64 32 32 #[.int .i64 d, .int .i64 t, .bool b] #[.int .i64 l, .int .i64 h] #[.int .i64 0, .int .i64 0]
  have hp : ∀ a' b', Gr a' b' → (∃ y z, Blk a' (w.heap.size + 1 + 1) 32 #[y, z]) → (∃ y z, Blk b' (w.heap.size + 1 + 1) 32 #[y, z]) := fun a' b' hg ⟨y, z, h⟩ => ⟨y, z, h.gr hg⟩
  cases b
  · rw [HM.out]
    have HP := Lib.hid (fun W => plus_any l h x y W (by omega) (by omega) (by omega) (by omega) (by omega) (by omega) (by omega) (by omega))
    clear HM HD
    generalize l + x = X at *
    generalize h + y = Y at *
    go_enter Try.func52, Try.ntmps52
    go_wp2_with fail
    generalize (((w.alloc (.cells #[.int .i64 d, .int .i64 t, .bool false] 64)).alloc (.cells #[.int .i64 l, .int .i64 h] 32)).alloc (.cells #[.int .i64 0, .int .i64 0] 32)) = v at *
    have HT := Lib.hid (fun wz (hz : CW (w.heap.size + 1 + 1) (fun wz => ∃ y z, Blk wz (w.heap.size + 1 + 1) 32 #[y, z]) v wz) => (hz.gx.keeps B0 (by omega)).trioT)
    have HI := Lib.hid (fun wz (hz : CW (w.heap.size + 1 + 1) (fun wz => ∃ y z, Blk wz (w.heap.size + 1 + 1) 32 #[y, z]) v wz) => (hz.gx.keeps B1 (by omega)).two)
    obtain ⟨t0, t1, t2, -⟩ := B0.trioT
    go_wp2_with fail
    clear t0 t1 t2
    refine region_writes 5 (w.heap.size + 1 + 1) 32 #[.int .i64 X, .int .i64 Y] [(3, .agg #[.int .i64 x, .int .i64 y]), (4, .agg #[.int .i64 X, .int .i64 Y])] (fun wz => ∃ y z, Blk wz (w.heap.size + 1 + 1) 32 #[y, z]) ⟨_, _, B2⟩ (by kernel_rfl) (by kernel_rfl) ?_
    (refine lz_one rfl (fun K hK => ?_); refine ⟨rfl, ?_⟩; apply Exists.intro; refine ⟨fun wz hz => ?_, ?_⟩; (focus (obtain ⟨i0, i1, -⟩ := HI.out wz hz; go_simp; (first | done | exact ⟨rfl, rfl⟩ | trivial))); (go_simp; refine hK _ _ ?_; clear hK K))
    (refine lz_one rfl (fun K hK => ?_); refine ⟨rfl, ?_⟩; apply Exists.intro; refine ⟨fun wz hz => ?_, ?_⟩; (focus (skip; go_simp; (first | done | exact ⟨rfl, rfl⟩ | trivial))); (go_simp; refine hK _ _ ?_; clear hK K))
    (refine lz_one rfl (fun K hK => ?_); refine ⟨rfl, ?_⟩; apply Exists.intro; refine ⟨fun wz hz => ?_, ?_⟩; (focus (obtain ⟨f0, f1, f2, -⟩ := HT.out wz hz; go_simp; (first | done | exact ⟨rfl, rfl⟩ | trivial))); (go_simp; refine hK _ _ ?_; clear hK K))
    (refine lz_many _ rfl (fun K hK => ?_); refine ⟨rfl, fun wz hz ha => ?_, fun vz wz hz hf => ?_⟩; (focus (go_simp; exact lw_call (by decide) hp hz (HF.out _))); (obtain rfl := hf; clear hz wz; go_simp; refine hK _ _ ?_; clear hK K))
    (refine lz_many _ rfl (fun K hK => ?_); refine ⟨rfl, fun wz hz ha => ?_, fun vz wz hz hf => ?_⟩; (focus (go_simp; exact lw_call (by decide) hp hz (HP.out _))); (obtain rfl := hf; clear hz wz; go_simp; refine hK _ _ ?_; clear hK K))
    (refine lz_many _ rfl (fun K hK => ?_); refine ⟨rfl, fun wz hz ha => ?_, fun vz wz hz hf => ?_⟩; (focus (obtain ⟨y', z', hB⟩ := hz.at'; obtain ⟨b0, b1, bf⟩ := hB.two; have bl := hB.lt; go_simp; exact lw_store hz (by simp) (((Gx.of (Gr.refl _)).set 0 _).set 1 _) ⟨_, _, (hB.set 0 _).set 1 _⟩ ((hB.set 0 _).set 1 _))); (obtain - := hf; clear hz wz; go_simp; refine hK _ _ ?_; clear hK K))
    refine lz_nil ?_
    intro w5 hz hg
    have R5 : Blk w5 (w.heap.size + 1 + 1) 32 #[.int .i64 X, .int .i64 Y] := hg 5
    have h5 := G0.below.trans (hz.gx.below (B := w.heap.size) (by omega) G0.below.size)
    obtain ⟨r0, r1, -⟩ := R5.two
    clear hg hz
    go_wp2_with fail
    ((try simp only [Exit.inBlock, Exit.then]); refine bodyPost_ret (v := .agg #[.int .i64 X, .int .i64 Y]) (by simp [results, Try.results52, go_sem, r0, r1, World.cell?_setCell_same']) rfl ?_)
    exact ⟨rfl, Gr.of_below h5⟩
  · rw [HD.out]
    have HP := Lib.hid (fun W => minus_any l h x y W (by omega) (by omega) (by omega) (by omega) (by omega) (by omega) (by omega) (by omega))
    clear HM HD
    generalize l - y = X at *
    generalize h - x = Y at *
    go_enter Try.func52, Try.ntmps52
    go_wp2_with fail
    generalize (((w.alloc (.cells #[.int .i64 d, .int .i64 t, .bool true] 64)).alloc (.cells #[.int .i64 l, .int .i64 h] 32)).alloc (.cells #[.int .i64 0, .int .i64 0] 32)) = v at *
    have HT := Lib.hid (fun wz (hz : CW (w.heap.size + 1 + 1) (fun wz => ∃ y z, Blk wz (w.heap.size + 1 + 1) 32 #[y, z]) v wz) => (hz.gx.keeps B0 (by omega)).trioT)
    have HI := Lib.hid (fun wz (hz : CW (w.heap.size + 1 + 1) (fun wz => ∃ y z, Blk wz (w.heap.size + 1 + 1) 32 #[y, z]) v wz) => (hz.gx.keeps B1 (by omega)).two)
    obtain ⟨t0, t1, t2, -⟩ := B0.trioT
    go_wp2_with fail
    clear t0 t1 t2
    refine region_writes 5 (w.heap.size + 1 + 1) 32 #[.int .i64 X, .int .i64 Y] [(3, .agg #[.int .i64 x, .int .i64 y]), (4, .agg #[.int .i64 X, .int .i64 Y])] (fun wz => ∃ y z, Blk wz (w.heap.size + 1 + 1) 32 #[y, z]) ⟨_, _, B2⟩ (by kernel_rfl) (by kernel_rfl) ?_
    (refine lz_one rfl (fun K hK => ?_); refine ⟨rfl, ?_⟩; apply Exists.intro; refine ⟨fun wz hz => ?_, ?_⟩; (focus (obtain ⟨i0, i1, -⟩ := HI.out wz hz; go_simp; (first | done | exact ⟨rfl, rfl⟩ | trivial))); (go_simp; refine hK _ _ ?_; clear hK K))
    (refine lz_one rfl (fun K hK => ?_); refine ⟨rfl, ?_⟩; apply Exists.intro; refine ⟨fun wz hz => ?_, ?_⟩; (focus (skip; go_simp; (first | done | exact ⟨rfl, rfl⟩ | trivial))); (go_simp; refine hK _ _ ?_; clear hK K))
    (refine lz_one rfl (fun K hK => ?_); refine ⟨rfl, ?_⟩; apply Exists.intro; refine ⟨fun wz hz => ?_, ?_⟩; (focus (obtain ⟨f0, f1, f2, -⟩ := HT.out wz hz; go_simp; (first | done | exact ⟨rfl, rfl⟩ | trivial))); (go_simp; refine hK _ _ ?_; clear hK K))
    (refine lz_many _ rfl (fun K hK => ?_); refine ⟨rfl, fun wz hz ha => ?_, fun vz wz hz hf => ?_⟩; (focus (go_simp; exact lw_call (by decide) hp hz (HF.out _))); (obtain rfl := hf; clear hz wz; go_simp; refine hK _ _ ?_; clear hK K))
    (refine lz_many _ rfl (fun K hK => ?_); refine ⟨rfl, fun wz hz ha => ?_, fun vz wz hz hf => ?_⟩; (focus (go_simp; exact lw_call (by decide) hp hz (HP.out _))); (obtain rfl := hf; clear hz wz; go_simp; refine hK _ _ ?_; clear hK K))
    (refine lz_many _ rfl (fun K hK => ?_); refine ⟨rfl, fun wz hz ha => ?_, fun vz wz hz hf => ?_⟩; (focus (obtain ⟨y', z', hB⟩ := hz.at'; obtain ⟨b0, b1, bf⟩ := hB.two; have bl := hB.lt; go_simp; exact lw_store hz (by simp) (((Gx.of (Gr.refl _)).set 0 _).set 1 _) ⟨_, _, (hB.set 0 _).set 1 _⟩ ((hB.set 0 _).set 1 _))); (obtain - := hf; clear hz wz; go_simp; refine hK _ _ ?_; clear hK K))
    refine lz_nil ?_
    intro w5 hz hg
    have R5 : Blk w5 (w.heap.size + 1 + 1) 32 #[.int .i64 X, .int .i64 Y] := hg 5
    have h5 := G0.below.trans (hz.gx.below (B := w.heap.size) (by omega) G0.below.size)
    obtain ⟨r0, r1, -⟩ := R5.two
    clear hg hz
    go_wp2_with fail
    ((try simp only [Exit.inBlock, Exit.then]); refine bodyPost_ret (v := .agg #[.int .i64 X, .int .i64 Y]) (by simp [results, Try.results52, go_sem, r0, r1, World.cell?_setCell_same']) rfl ?_)
    exact ⟨rfl, Gr.of_below h5⟩
theorem clR_impl (A : Option Addr) (n c : Nat) (cs : List Tm) (w : World) (hn : cs.length = n) (hN : n ≤ 16777216) (hA : Reads w w.heap.size A (tcells cs)) :
    Calls Try.prog 20 #[.slice A n c] w fun e w' => e = .returned (.tuple #[.agg #[.int .i64 (clR cs).1.1, .int .i64 (clR cs).1.2], .int .i64 (clR cs).2]) ∧ Gr w w' := by
  have HI := Lib.hid (fun W h => isChain_impl A n c cs W hn hN h)
  have HL := Lib.hid hn
  have HM := Lib.hid hA
  clear hn hA
  rcases chnB_tf cs with hb | hb
  rotate_left
  · rw [hb] at HI
    have HR := Lib.hid (clR_no hb)
    clear hb
    go_enter Try.func20, Try.ntmps20
    go_wp2_with (go_at_call 23; (with_reducible refine (HI.out _ (HM.out.gr (by repeat (first | with_reducible exact Gr.refl _ | with_reducible refine Gr.alloc ?_ _ | with_reducible refine Gr.gr ?_ _ _ | with_reducible refine Gr.drew ?_ | with_reducible refine Gr.drewN ?_ _)))).mono ?_); rintro e w' ⟨rfl, k, os, rfl⟩)
    ((try simp only [Exit.inBlock, Exit.then]); refine bodyPost_ret (v := .tuple #[.agg #[.int .i64 0, .int .i64 0], .int .i64 1]) (by simp [results, Try.results20, go_sem]) rfl ?_)
    exact ⟨ret_fig (by rw [HR.out]) (by rw [HR.out]) (by rw [HR.out]), (by repeat (first | with_reducible exact Gr.refl _ | with_reducible refine Gr.alloc ?_ _ | with_reducible refine Gr.gr ?_ _ _ | with_reducible refine Gr.drew ?_ | with_reducible refine Gr.drewN ?_ _))⟩
  have HB := Lib.hid hb
  rw [hb] at HI
  have HR := Lib.hid (clR_ok hb)
  clear hb
  have hG0 : Gr w (w.alloc (.cells #[.int .i64 0, .int .i64 0] 32)) := (by repeat (first | with_reducible exact Gr.refl _ | with_reducible refine Gr.alloc ?_ _ | with_reducible refine Gr.gr ?_ _ _ | with_reducible refine Gr.drew ?_ | with_reducible refine Gr.drewN ?_ _))
  have P0 := Blk.new w 32 #[.int .i64 0, .int .i64 0]
  go_enter Try.func20, Try.ntmps20
  go_wp2_with fail
  generalize w.alloc (.cells #[.int .i64 0, .int .i64 0] 32) = w0 at *
  refine (HI.out _ (HM.out.gr hG0)).mono ?_
  rintro e w1 ⟨rfl, hg1⟩
  have hG1 := hG0.trans hg1
  replace P0 := P0.gr hg1
  have hs0 := P0.lt
  clear hg1 hG0
  go_wp2_with fail
  have P1 := Blk.new w1 32 #[.int .i64 0, .int .i64 0]
  replace P0 := P0.alloc (.cells #[.int .i64 0, .int .i64 0] 32)
  have hB1 : Below w.heap.size w (w1.alloc (.cells #[.int .i64 0, .int .i64 0] 32)) := (hG1.alloc _).below
  generalize w1.alloc (.cells #[.int .i64 0, .int .i64 0] 32) = v1 at *
  have hlt1 := P1.lt
  go_loopw [14] (fun i wr => ∃ k : Nat, k ≤ n ∧ i = .int .i64 k ∧ Blk wr w.heap.size 32 #[.int .i64 0, .int .i64 0] ∧ Blk wr w1.heap.size 32 #[.int .i64 (chLg (cs.take k)).1, .int .i64 (chLg (cs.take k)).2] ∧ Below w.heap.size w wr) (fun i _ => n - (intOf i).toNat)
  case atStart => exact ⟨0, by omega, rfl, P0, P1, hB1⟩
  case round =>
    clear P0 P1 hB1
    obtain ⟨k, hk, rfl, Q0, Q1, hB⟩ := hrel
    by_cases hlt : k < n
    · obtain ⟨m, hm⟩ := some_at (l := cs) (k := k) (by rw [HL.out]; exact hlt)
      obtain ⟨g, o, rfl, hg, x0, x1, x2⟩ := (HM.out.below hB).att hm
      have hf := chnB_fg HB.out hm
      have HT := Lib.hid (chLg_take hm)
      obtain ⟨⟨b1, b2⟩, b3, b4⟩ := chLg_bdt HB.out k
      obtain ⟨d, t, b⟩ := m
      simp only at x0 x1 x2 hf
      have HX := Lib.hid (fun W => addTo_any d t b (chLg (cs.take k)).1 (chLg (cs.take k)).2 W hf (by omega) (by omega) (by omega) (by omega))
      rw [show ((chLg (cs.take k)).1, (chLg (cs.take k)).2) = chLg (cs.take k) from rfl, ← HT.out] at HX
      clear hm hf HT b1 b2 b3 b4
      generalize chLg (cs.take k) = z at *
      generalize hz' : chLg (cs.take (k + 1)) = z' at *
      have HZ := Lib.hid hz'
      clear hz'
      obtain ⟨c0, c1, -⟩ := Q1.two
      have ql := Q1.lt
      go_wp2_with fail
      have R0 := Q0.alloc (.cells #[.int .i64 d, .int .i64 t, .bool b] 64)
      have R1 := Q1.alloc (.cells #[.int .i64 d, .int .i64 t, .bool b] 64)
      have hB2 := hB.alloc hB.size (.cells #[.int .i64 d, .int .i64 t, .bool b] 64)
      clear c0 c1 Q0 Q1 x0 x1 x2 hB ql
      generalize wr.alloc (.cells #[.int .i64 d, .int .i64 t, .bool b] 64) = v2 at *
      refine (HX.out _).mono ?_
      rintro e w3 ⟨rfl, hg3⟩
      replace R0 := R0.gr hg3
      replace R1 := R1.gr hg3
      have hB3 := hB2.trans (hg3.below.mono hB2.size)
      obtain ⟨c0, c1, cf⟩ := R1.two
      have rl := R1.lt
      clear hg3 hB2
      have S1 : Blk _ _ _ #[.int .i64 z'.1, .int .i64 z'.2] := (R1.set 0 (.int .i64 z'.1)).set 1 (.int .i64 z'.2)
      have S0 := (R0.far (a := ⟨w1.heap.size, 0, none⟩) (by show w1.heap.size ≠ w.heap.size; omega) (.int .i64 z'.1)).far (a := ⟨w1.heap.size, 1, none⟩) (by show w1.heap.size ≠ w.heap.size; omega) (.int .i64 z'.2)
      have hB4 := (hB3.setCell (p := ⟨w1.heap.size, 0, none⟩) (by show w.heap.size ≤ w1.heap.size; omega) (.int .i64 z'.1)).setCell (p := ⟨w1.heap.size, 1, none⟩) (by show w.heap.size ≤ w1.heap.size; omega) (.int .i64 z'.2)
      go_wp2_with fail
      go_roundw
      case rel => exact ⟨k + 1, by omega, by go_num, S0, by rw [HZ.out]; exact S1, hB4⟩
      case measure => simp [intOf]; omega
    · obtain rfl : k = n := by omega
      have HE := Lib.hid (show cs.take k = cs from List.take_of_length_le (by rw [HL.out]; omega))
      rw [HE.out] at Q1
      obtain ⟨c0, c1, -⟩ := Q1.two
      obtain ⟨d0, d1, df⟩ := Q0.two
      go_wp2
      ((try simp only [Exit.inBlock, Exit.then]); refine bodyPost_ret (v := .tuple #[.agg #[.int .i64 (chLg cs).1, .int .i64 (chLg cs).2], .int .i64 0]) (by simp [results, Try.results20, go_sem, c0, c1, d0, d1, World.cell?_setCell_same']) rfl ?_)
      exact ⟨ret_fig (by rw [HR.out]) (by rw [HR.out]) (by rw [HR.out]), Gr.of_below ((hB.setCell (p := ⟨w.heap.size, 0, none⟩) (Nat.le_refl _) _).setCell (p := ⟨w.heap.size, 1, none⟩) (Nat.le_refl _) _)⟩
theorem log13_spec (A : Option Addr) (n c : Nat) (cs : List Tm) (w : World) (hn : cs.length = n) (hA : Reads w w.heap.size A (tcells cs)) (hB : chnB cs = true) :
    Calls Try.prog 53 #[.slice A n c] w fun e w' => e = .returned (.agg #[.int .i64 (chLg cs).1, .int .i64 (chLg cs).2]) ∧ Gr w w' := by
  have HL := Lib.hid hn
  have HM := Lib.hid hA
  have HB := Lib.hid hB
  obtain ⟨⟨l1, l6⟩, h0, -⟩ := (chnB_iff cs).1 hB
  rw [hn] at l1 l6
  obtain ⟨m, hm⟩ := some_at (l := cs) (k := 0) (by rw [hn]; omega)
  have hG0 : Gr w (w.alloc (.cells #[.int .i64 0, .int .i64 0] 32)) := (by repeat (first | with_reducible exact Gr.refl _ | with_reducible refine Gr.alloc ?_ _ | with_reducible refine Gr.gr ?_ _ _ | with_reducible refine Gr.drew ?_ | with_reducible refine Gr.drewN ?_ _))
  obtain ⟨g, o, rfl, hg, x0, x1, x2⟩ := (hA.gr hG0).att hm
  have hf := chnB_fg hB hm
  have e0 : m.2.2 = false := by
    cases cs with
    | nil => cases hm
    | cons x r => simp at hm; subst hm; exact h0
  obtain ⟨d, t, b⟩ := m
  simp only [Nat.zero_mul, Nat.add_zero] at x0 x1 x2 hf e0
  subst e0
  have HT := Lib.hid (show chLg (cs.take 1) = flg d t by
    have := chLg_take hm
    rw [List.take_zero] at this
    rw [this, ← chLg_one]; rfl)
  have HF := Lib.hid (fun W => figure_spec3 d t W hf)
  clear hm hf h0 hn hA hB
  rw [← HT.out] at HF
  have P0 := Blk.new w 32 #[.int .i64 0, .int .i64 0]
  go_enter Try.func53, Try.ntmps53
  go_wp2_with fail
  generalize w.alloc (.cells #[.int .i64 0, .int .i64 0] 32) = w0 at *
  refine (HF.out _).mono ?_
  rintro e w1 ⟨rfl, hg1⟩
  have hG1 := hG0.trans hg1
  replace P0 := P0.gr hg1
  have hs0 := P0.lt
  clear hg1 hG0 x0 x1 x2
  go_wp2_with fail
  have P1 := Blk.new w1 32 #[.int .i64 (chLg (cs.take 1)).1, .int .i64 (chLg (cs.take 1)).2]
  replace P0 := P0.alloc (.cells #[.int .i64 (chLg (cs.take 1)).1, .int .i64 (chLg (cs.take 1)).2] 32)
  have hB1 : Below w.heap.size w (w1.alloc (.cells #[.int .i64 (chLg (cs.take 1)).1, .int .i64 (chLg (cs.take 1)).2] 32)) := (hG1.alloc _).below
  generalize w1.alloc (.cells #[.int .i64 (chLg (cs.take 1)).1, .int .i64 (chLg (cs.take 1)).2] 32) = v1 at *
  have hlt1 := P1.lt
  go_loopw [4] (fun i wr => ∃ k : Nat, 1 ≤ k ∧ k ≤ n ∧ i = .int .i64 k ∧ Blk wr w.heap.size 32 #[.int .i64 0, .int .i64 0] ∧ Blk wr w1.heap.size 32 #[.int .i64 (chLg (cs.take k)).1, .int .i64 (chLg (cs.take k)).2] ∧ Below w.heap.size w wr) (fun i _ => n - (intOf i).toNat)
  case atStart => exact ⟨1, by omega, by omega, rfl, P0, P1, hB1⟩
  case round =>
    clear P0 P1 hB1
    obtain ⟨k, hk1, hk, rfl, Q0, Q1, hB⟩ := hrel
    by_cases hlt : k < n
    · obtain ⟨m, hm⟩ := some_at (l := cs) (k := k) (by rw [HL.out]; exact hlt)
      obtain ⟨g', o', e', hg', x0, x1, x2⟩ := (HM.out.below hB).att hm
      injection e' with e'
      injection e' with ea eb
      subst ea eb
      have hf := chnB_fg HB.out hm
      have HT := Lib.hid (chLg_take hm)
      obtain ⟨⟨b1, b2⟩, b3, b4⟩ := chLg_bdt HB.out k
      obtain ⟨d, t, b⟩ := m
      simp only at x0 x1 x2 hf
      have HF2 := Lib.hid (fun W => figure_spec3 d t W hf)
      obtain ⟨f1, f2, f3, f4⟩ := flg_bd d t hf
      have HX : Hid (∀ W, Calls Try.prog (if b = true then 77 else 78) #[.agg #[.int .i64 (chLg (cs.take k)).1, .int .i64 (chLg (cs.take k)).2], .agg #[.int .i64 (flg d t).1, .int .i64 (flg d t).2]] W fun e w' => e = .returned (.agg #[.int .i64 (chLg (cs.take (k + 1))).1, .int .i64 (chLg (cs.take (k + 1))).2]) ∧ Gr W w') := Lib.hid (fun W => by
        rw [HT.out]
        cases b
        · rw [tmA_mul]
          exact add_spec _ _ _ _ W (by omega) (by omega) (by omega) (by omega) (by omega) (by omega) (by omega) (by omega)
        · rw [tmA_div]
          exact sub_spec _ _ _ _ W (by omega) (by omega) (by omega) (by omega) (by omega) (by omega) (by omega) (by omega))
      clear hm hf HT b1 b2 b3 b4 f1 f2 f3 f4
      generalize chLg (cs.take k) = z at *
      generalize hz' : chLg (cs.take (k + 1)) = z' at *
      have HZ := Lib.hid hz'
      clear hz'
      generalize (flg d t).1 = p at *
      generalize (flg d t).2 = q at *
      have hbs := hB.size
      go_wp2_with fail
      refine (HF2.out _).mono ?_
      rintro e w2 ⟨rfl, hg2⟩
      replace Q0 := Q0.gr hg2
      replace Q1 := Q1.gr hg2
      have y2 := (hg2.below.cell (p := ⟨g, o + k * 3 + 2, none⟩) (by show g < wr.heap.size; omega)).trans x2
      have hB2 := hB.trans (hg2.below.mono hB.size)
      have ql := Q1.lt
      have hgl : g < w2.heap.size := by have := hg2.below.size; omega
      clear x0 x1 x2 hB hbs
      obtain ⟨c0, c1, -⟩ := Q1.two
      cases b
      all_goals
        simp only [if_true, if_false, Bool.false_eq_true] at HX
        go_wp2_with fail
        have R0 := Q0.alloc (.cells #[.int .i64 p, .int .i64 q] 32)
        have R1 := Q1.alloc (.cells #[.int .i64 p, .int .i64 q] 32)
        have hB3 := hB2.alloc hB2.size (.cells #[.int .i64 p, .int .i64 q] 32)
        clear c0 c1 Q0 Q1 hB2 ql y2
        generalize w2.alloc (.cells #[.int .i64 p, .int .i64 q] 32) = v2 at *
        refine (HX.out _).mono ?_
        rintro e w3 ⟨rfl, hg3⟩
        replace R0 := R0.gr hg3
        replace R1 := R1.gr hg3
        have hB4 := hB3.trans (hg3.below.mono hB3.size)
        obtain ⟨c0, c1, cf⟩ := R1.two
        have rl := R1.lt
        clear hg3 hB3
        have S1 : Blk _ _ _ #[.int .i64 z'.1, .int .i64 z'.2] := (R1.set 0 (.int .i64 z'.1)).set 1 (.int .i64 z'.2)
        have S0 := (R0.far (a := ⟨w1.heap.size, 0, none⟩) (by show w1.heap.size ≠ w.heap.size; omega) (.int .i64 z'.1)).far (a := ⟨w1.heap.size, 1, none⟩) (by show w1.heap.size ≠ w.heap.size; omega) (.int .i64 z'.2)
        have hB5 := (hB4.setCell (p := ⟨w1.heap.size, 0, none⟩) (by show w.heap.size ≤ w1.heap.size; omega) (.int .i64 z'.1)).setCell (p := ⟨w1.heap.size, 1, none⟩) (by show w.heap.size ≤ w1.heap.size; omega) (.int .i64 z'.2)
        go_wp2_with fail
        go_roundw
        case rel => exact ⟨k + 1, by omega, by omega, by go_num, S0, by rw [HZ.out]; exact S1, hB5⟩
        case measure => simp [intOf]; omega
    · obtain rfl : k = n := by omega
      have HE := Lib.hid (show cs.take k = cs from List.take_of_length_le (by rw [HL.out]; omega))
      rw [HE.out] at Q1
      obtain ⟨c0, c1, -⟩ := Q1.two
      obtain ⟨d0, d1, df⟩ := Q0.two
      go_wp2
      ((try simp only [Exit.inBlock, Exit.then]); refine bodyPost_ret (v := .agg #[.int .i64 (chLg cs).1, .int .i64 (chLg cs).2]) (by simp [results, Try.results53, go_sem, c0, c1, d0, d1, World.cell?_setCell_same']) rfl ?_)
      exact ⟨rfl, Gr.of_below ((hB.setCell (p := ⟨w.heap.size, 0, none⟩) (Nat.le_refl _) _).setCell (p := ⟨w.heap.size, 1, none⟩) (Nat.le_refl _) _)⟩
theorem clR_spec (A : Option Addr) (n c : Nat) (cs : List Tm) (w : World) (hn : cs.length = n) (hN : n ≤ 16777216) (hA : Reads w w.heap.size A (tcells cs)) :
    Calls Try.prog 21 #[.slice A n c] w fun e w' => e = .returned (.tuple #[.agg #[.int .i64 (clR cs).1.1, .int .i64 (clR cs).1.2], .int .i64 (clR cs).2]) ∧ Gr w w' := by
  have HI := Lib.hid (fun W h => isChain_spec A n c cs W hn hN h)
  have HM := Lib.hid hA
  rcases chnB_tf cs with hb | hb
  rotate_left
  · rw [hb] at HI
    have HR := Lib.hid (clR_no hb)
    clear hb hn hA
    go_enter Try.func21, Try.ntmps21
    go_wp2_with (go_at_call 36; (with_reducible refine (HI.out _ (HM.out.gr (by repeat (first | with_reducible exact Gr.refl _ | with_reducible refine Gr.alloc ?_ _ | with_reducible refine Gr.gr ?_ _ _ | with_reducible refine Gr.drew ?_ | with_reducible refine Gr.drewN ?_ _)))).mono ?_); rintro e w' ⟨rfl, k, os, rfl⟩)
    ((try simp only [Exit.inBlock, Exit.then]); refine bodyPost_ret (v := .tuple #[.agg #[.int .i64 0, .int .i64 0], .int .i64 1]) (by simp [results, Try.results21, go_sem]) rfl ?_)
    exact ⟨ret_fig (by rw [HR.out]) (by rw [HR.out]) (by rw [HR.out]), (by repeat (first | with_reducible exact Gr.refl _ | with_reducible refine Gr.alloc ?_ _ | with_reducible refine Gr.gr ?_ _ _ | with_reducible refine Gr.drew ?_ | with_reducible refine Gr.drewN ?_ _))⟩
  rw [hb] at HI
  have HR := Lib.hid (clR_ok hb)
  have HS := Lib.hid (fun W h => log13_spec A n c cs W hn h hb)
  clear hb hn hA
  go_enter Try.func21, Try.ntmps21
  go_wp2_with (first | (go_at_call 36; (with_reducible refine (HI.out _ (HM.out.gr (by repeat (first | with_reducible exact Gr.refl _ | with_reducible refine Gr.alloc ?_ _ | with_reducible refine Gr.gr ?_ _ _ | with_reducible refine Gr.drew ?_ | with_reducible refine Gr.drewN ?_ _)))).mono ?_); rintro e w' ⟨rfl, kk, os, rfl⟩) | (go_at_call 53; (with_reducible refine (HS.out _ (HM.out.gr (by repeat (first | with_reducible exact Gr.refl _ | with_reducible refine Gr.alloc ?_ _ | with_reducible refine Gr.gr ?_ _ _ | with_reducible refine Gr.drew ?_ | with_reducible refine Gr.drewN ?_ _)))).mono ?_); rintro e w' ⟨rfl, k2, os2, rfl⟩))
  ((try simp only [Exit.inBlock, Exit.then]); refine bodyPost_ret (v := .tuple #[.agg #[.int .i64 (chLg cs).1, .int .i64 (chLg cs).2], .int .i64 0]) (by simp [results, Try.results21, go_sem]) rfl ?_)
  exact ⟨ret_fig (by rw [HR.out]) (by rw [HR.out]) (by rw [HR.out]), (by repeat (first | with_reducible exact Gr.refl _ | with_reducible refine Gr.alloc ?_ _ | with_reducible refine Gr.gr ?_ _ _ | with_reducible refine Gr.drew ?_ | with_reducible refine Gr.drewN ?_ _))⟩
theorem chSpan_spec (A : Option Addr) (n c : Nat) (cs : List Tm) (w : World) (hn : cs.length = n) (hN : n ≤ 16777216) (hA : Reads w w.heap.size A (tcells cs)) :
    Calls Try.prog 26 #[.slice A n c] w fun e w' => e = .returned (.tuple #[.agg #[.int .i64 (csR13 cs).a, .int .i64 (csR13 cs).s], .agg #[.int .i64 (csR13 cs).b, .int .i64 (csR13 cs).t], .int .i64 (csR13 cs).c]) ∧ Gr w w' := by
  have HI := Lib.hid (fun W h => isChain_spec A n c cs W hn hN h)
  have HM := Lib.hid hA
  rcases chnB_tf cs with hb | hb
  rotate_left
  · rw [hb] at HI
    have HR := Lib.hid (csR13_no hb)
    clear hb hn hA
    go_enter Try.func26, Try.ntmps26
    go_wp2_with (go_at_call 36; (with_reducible refine (HI.out _ (HM.out.gr (by repeat (first | with_reducible exact Gr.refl _ | with_reducible refine Gr.alloc ?_ _ | with_reducible refine Gr.gr ?_ _ _ | with_reducible refine Gr.drew ?_ | with_reducible refine Gr.drewN ?_ _)))).mono ?_); rintro e w' ⟨rfl, k, os, rfl⟩)
    ((try simp only [Exit.inBlock, Exit.then]); refine bodyPost_ret (v := .tuple #[.agg #[.int .i64 0, .int .i64 0], .agg #[.int .i64 0, .int .i64 0], .int .i64 1]) (by simp [results, Try.results26, go_sem]) rfl ?_)
    exact ⟨ret_sp (by rw [HR.out]), (by repeat (first | with_reducible exact Gr.refl _ | with_reducible refine Gr.alloc ?_ _ | with_reducible refine Gr.gr ?_ _ _ | with_reducible refine Gr.drew ?_ | with_reducible refine Gr.drewN ?_ _))⟩
  rw [hb] at HI
  have HR := Lib.hid (csR13_ok hb)
  have HS := Lib.hid (fun W h => log13_spec A n c cs W hn h hb)
  have HU := Lib.hid (fun W => spU_spec (chLg cs).1 (chLg cs).2 W)
  clear hb hn hA
  generalize spU (chLg cs).1 (chLg cs).2 = z at *
  go_enter Try.func26, Try.ntmps26
  go_wp2_with (first | (go_at_call 36; (with_reducible refine (HI.out _ (HM.out.gr (by repeat (first | with_reducible exact Gr.refl _ | with_reducible refine Gr.alloc ?_ _ | with_reducible refine Gr.gr ?_ _ _ | with_reducible refine Gr.drew ?_ | with_reducible refine Gr.drewN ?_ _)))).mono ?_); rintro e w' ⟨rfl, kk, os, rfl⟩) | (go_at_call 53; (with_reducible refine (HS.out _ (HM.out.gr (by repeat (first | with_reducible exact Gr.refl _ | with_reducible refine Gr.alloc ?_ _ | with_reducible refine Gr.gr ?_ _ _ | with_reducible refine Gr.drew ?_ | with_reducible refine Gr.drewN ?_ _)))).mono ?_); rintro e w' ⟨rfl, k2, os2, rfl⟩) | (go_at_call 57; (with_reducible refine (HU.out _).mono ?_); rintro e w' ⟨rfl, k3, os3, rfl⟩))
  ((try simp only [Exit.inBlock, Exit.then]); refine bodyPost_ret (v := .tuple #[.agg #[.int .i64 (z).a, .int .i64 (z).s], .agg #[.int .i64 (z).b, .int .i64 (z).t], .int .i64 (z).c]) (by simp [results, Try.results26, go_sem]) rfl ?_)
  exact ⟨ret_sp' HR.out, (by repeat (first | with_reducible exact Gr.refl _ | with_reducible refine Gr.alloc ?_ _ | with_reducible refine Gr.gr ?_ _ _ | with_reducible refine Gr.drew ?_ | with_reducible refine Gr.drewN ?_ _))⟩
theorem chSpan_impl (A : Option Addr) (n c : Nat) (cs : List Tm) (w : World) (hn : cs.length = n) (hN : n ≤ 16777216) (hA : Reads w w.heap.size A (tcells cs)) :
    Calls Try.prog 25 #[.slice A n c] w fun e w' => e = .returned (.tuple #[.agg #[.int .i64 (csR13 cs).a, .int .i64 (csR13 cs).s], .agg #[.int .i64 (csR13 cs).b, .int .i64 (csR13 cs).t], .int .i64 (csR13 cs).c]) ∧ Gr w w' := by
  have HI := Lib.hid (fun W h => clR_impl A n c cs W hn hN h)
  have HM := Lib.hid hA
  rcases chnB_tf cs with hb | hb
  rotate_left
  · rw [clR_no hb] at HI
    have HR := Lib.hid (csR13_no hb)
    clear hb hn hA
    go_enter Try.func25, Try.ntmps25
    go_wp2_with (go_at_call 20; (with_reducible refine (HI.out _ (HM.out.gr (by repeat (first | with_reducible exact Gr.refl _ | with_reducible refine Gr.alloc ?_ _ | with_reducible refine Gr.gr ?_ _ _ | with_reducible refine Gr.drew ?_ | with_reducible refine Gr.drewN ?_ _)))).mono ?_); rintro e w' ⟨rfl, k, os, rfl⟩)
    ((try simp only [Exit.inBlock, Exit.then]); refine bodyPost_ret (v := .tuple #[.agg #[.int .i64 0, .int .i64 0], .agg #[.int .i64 0, .int .i64 0], .int .i64 1]) (by simp [results, Try.results25, go_sem]) rfl ?_)
    exact ⟨ret_sp (by rw [HR.out]), (by repeat (first | with_reducible exact Gr.refl _ | with_reducible refine Gr.alloc ?_ _ | with_reducible refine Gr.gr ?_ _ _ | with_reducible refine Gr.drew ?_ | with_reducible refine Gr.drewN ?_ _))⟩
  rw [clR_ok hb] at HI
  have hiv : iv (chLg cs).1 (chLg cs).2 = true := by
    have h1 := chLg_bdt hb cs.length
    rw [List.take_length] at h1
    have h2 := chLg_le cs ((chnB_iff cs).1 hb).2.2
    exact (iv_iff _ _).2 ⟨by omega, by omega, h2⟩
  have HR := Lib.hid (csR13_ok hb)
  have HU := Lib.hid (fun W => spR_impl (chLg cs).1 (chLg cs).2 W)
  rw [spR_ok _ _ hiv] at HU
  clear hb hn hA hiv
  generalize spU (chLg cs).1 (chLg cs).2 = z at *
  go_enter Try.func25, Try.ntmps25
  go_wp2_with (first | (go_at_call 20; (with_reducible refine (HI.out _ (HM.out.gr (by repeat (first | with_reducible exact Gr.refl _ | with_reducible refine Gr.alloc ?_ _ | with_reducible refine Gr.gr ?_ _ _ | with_reducible refine Gr.drew ?_ | with_reducible refine Gr.drewN ?_ _)))).mono ?_); rintro e w' ⟨rfl, kk, os, rfl⟩) | (go_at_call 56; (with_reducible refine (HU.out _).mono ?_); rintro e w' ⟨rfl, k3, os3, rfl⟩))
  ((try simp only [Exit.inBlock, Exit.then]); refine bodyPost_ret (v := .tuple #[.agg #[.int .i64 (z).a, .int .i64 (z).s], .agg #[.int .i64 (z).b, .int .i64 (z).t], .int .i64 (z).c]) (by simp [results, Try.results25, go_sem]) rfl ?_)
  exact ⟨ret_sp' HR.out, (by repeat (first | with_reducible exact Gr.refl _ | with_reducible refine Gr.alloc ?_ _ | with_reducible refine Gr.gr ?_ _ _ | with_reducible refine Gr.drew ?_ | with_reducible refine Gr.drewN ?_ _))⟩
end Go.Proofs.Ytphebmbapllinaa
