/- Contracts of chapter 6, the program's: the best reading. -/
import Derived.Test.YtgadkpkpdpphbaaGreatDoorC06i
namespace Go.Proofs.YtgadkpkpdpphbaaGreatDoor
open Go.RowKit Go.Maps
set_option linter.unusedVariables false
set_option linter.unusedSimpArgs false

set_option maxHeartbeats 1000000 in
theorem best_no (s l p : Int) (w : World) (h : ok6 s l p 0 = false) :
    Calls Tryz.prog 6 #[.int .i64 s, .int .i64 l, .int .i64 p] w fun e' w' => e' = .returned (.tuple #[.agg #[.int .i64 0, .int .i64 0], .int .i64 2]) ∧ Gr w w' := by
  have h4' : decide ((0 : Int) ≤ 0 ∧ (0 : Int) ≤ 200) = true := by decide
  rcases ok6_no s l p 0 h with h1 | ⟨h1, h2⟩ | ⟨h1, h2, h3⟩ | ⟨-, -, -, h4⟩
  rotate_right
  · rw [h4'] at h4; cases h4
  all_goals
    clear h h4'
    have E1 := Lib.hid h1
    (try have E2 := Lib.hid h2)
    (try have E3 := Lib.hid h3)
    (try clear h1); (try clear h2); (try clear h3)
    go_enter Tryz.func6, Tryz.ntmps6
    go_wp2_with (first
      | (go_at_call 19; refine (isScale_impl _ _).mono ?_; rw [E1.out]; rintro e' w' ⟨rfl, rfl⟩)
      | (go_at_call 20; refine (isLength_impl _ _).mono ?_; rw [E2.out]; rintro e' w' ⟨rfl, rfl⟩)
      | (go_at_call 21; refine (isPoint_any _ _ _).mono ?_; rw [E3.out]; rintro e' w' ⟨rfl, rfl⟩))
    ((try simp only [Exit.inBlock, Exit.then]); refine bodyPost_ret (v := .tuple #[.agg #[.int .i64 0, .int .i64 0], .int .i64 2]) (by simp [results, Tryz.results6, go_sem]) rfl ?_)
    exact ⟨rfl, (by repeat (first | with_reducible exact Gr.refl _ | with_reducible refine Gr.alloc ?_ _ | with_reducible refine Gr.gr ?_ _ _ | with_reducible refine Gr.drew ?_ | with_reducible refine Gr.drewN ?_ _))⟩

theorem Blk.gb {w w' : World} {mb g : Nat} {t : TypeId} {cs : Array Value} (h : Blk w g t cs) (hg : Gb mb w w') (hne : g ≠ mb) : Blk w' g t cs := (hg.block g h.lt (fun e => hne (by cases e; rfl))).trans h
theorem one_two_new (w : World) (T U : TypeId) (x a b : Value) :
    ((w.alloc (.cells #[x] T)).alloc (.cells #[a, b] U)).cell? ⟨w.heap.size, 0, none⟩ = some x ∧ Blk ((w.alloc (.cells #[x] T)).alloc (.cells #[a, b] U)) (w.heap.size + 1) U #[a, b] ∧ Gr w ((w.alloc (.cells #[x] T)).alloc (.cells #[a, b] U)) := by
  have B0 := (Blk.new w T #[x]).alloc (.cells #[a, b] U)
  have B1 := Blk.new (w.alloc (.cells #[x] T)) U #[a, b]
  rw [World.size_alloc] at B1
  exact ⟨by rw [cell_of_row _ _ 0 _ _ _ B0]; rfl, B1, ((Gr.refl w).alloc _).alloc _⟩

set_option maxRecDepth 100000 in
set_option maxHeartbeats 4000000 in
theorem best_ok (s l p : Int) (w : World) (hD : Dcs w) (h : ok6 s l p 0 = true) :
    Calls Tryz.prog 6 #[.int .i64 s, .int .i64 l, .int .i64 p] w fun e' w' => e' = .returned (.tuple #[.agg #[.int .i64 (atD (bstN s l p).toNat), .int .i64 (atT (bstN s l p).toNat)], .int .i64 0]) ∧ Gr w w' := by
  obtain ⟨hs, hl, ⟨hp1, hp2⟩, -⟩ := (ok6_iff _ _ _ _).1 h
  have l12 := (ln_iff l).1 hl
  have hp3 : p ≤ 100000 := by omega
  have E1 := Lib.hid hs
  have E2 := Lib.hid hl
  have E3 := Lib.hid (decide_eq_true (show 0 ≤ p ∧ p ≤ l from ⟨hp1, hp2⟩))
  have HD := Lib.hid hD
  have HL := Lib.hid (fun W (sb mb : Nat) (h : Sht W sb mb s l) => leastDifference_any sb mb s l (2 * p) W h hs hl (by omega))
  have ob : 0 ≤ offR s l (2 * p) ∧ offR s l (2 * p) ≤ 10000000 := by
    obtain ⟨-, i, hi, eo⟩ := off_least s l (2 * p) hs hl
    have := plF_bd s l hs hl i hi
    rw [eo]
    unfold gap smF
    omega
  have HN := Lib.hid (ne_some s l (2 * p) hs hl)
  have HB := Lib.hid (ne_best s l p hs hl)
  have hle := ne_le s l (2 * p) (offR s l (2 * p))
  have hf := figs_bd s
  generalize offR s l (2 * p) = o at *
  obtain ⟨o1, o2⟩ := ob
  have HW := Lib.hid (fun W (sb mb bp bo : Nat) (h : Sht W sb mb s l) (hc : W.cell? ⟨bp, 0, none⟩ = some (.int .i64 p)) (hc' : W.cell? ⟨bo, 0, none⟩ = some (.int .i64 o)) =>
    show Calls Tryz.prog 24 #[.pointer (some ⟨sb, 0, none⟩), .func (.func 25) #[] #[.pointer (some ⟨bp, 0, none⟩), .pointer (some ⟨bo, 0, none⟩)], .func (.func 26) #[] #[.pointer (some ⟨bp, 0, none⟩), .pointer (some ⟨bo, 0, none⟩)]] W
      (fun en w' => (∃ v, en = .returned v ∧ Figs w' W.heap.size v (neB s l (2 * p) o - neA s l (2 * p) o) (fun k => atD (onF s (neA s l (2 * p) o + k))) (fun k => atT (onF s (neA s l (2 * p) o + k)))) ∧ Gb mb W w' ∧ Sht w' sb mb s l) from
    midFigs_any _ _ _ _ (fun i => decide (2 * p - o ≤ smF s l i)) (fun i => decide (2 * p + o < smF s l i)) sb mb s l W h hs hl (fun _ _ => by kernel_rfl) (fun _ _ => by kernel_rfl)
      (fun W' hg hs' i hi => by
        have := plF_bd s l hs hl i hi
        have sm := Same.of h hs' hg
        exact cond4_any bp bo p o (loF s l i) (hiF s l i) W' ((sm.cell _ _ (World.block_lt_of_cell? W _ hc)).trans hc) ((sm.cell _ _ (World.block_lt_of_cell? W _ hc')).trans hc') (by omega) (by omega) (by omega) (by omega) hp1 hp3 o1 o2)
      (fun W' hg hs' i hi => by
        have := plF_bd s l hs hl i hi
        have sm := Same.of h hs' hg
        exact cond5_any bp bo p o (loF s l i) (hiF s l i) W' ((sm.cell _ _ (World.block_lt_of_cell? W _ hc)).trans hc) ((sm.cell _ _ (World.block_lt_of_cell? W _ hc')).trans hc') (by omega) (by omega) (by omega) (by omega) hp1 hp3 o1 o2)
      (fun a b x y z => by
        have := sm_mono s l hs hl a b x y
        have z := of_decide_eq_true z
        exact decide_eq_true (by omega))
      (fun a b x y z => by
        have := sm_mono s l hs hl a b x y
        have z := of_decide_eq_true z
        exact decide_eq_true (by omega)))
  generalize neA s l (2 * p) o = a at *
  generalize neB s l (2 * p) o = b at *
  have HBd := Lib.hid (show ∀ k, k < b - a → (-1000000 ≤ atD (onF s (a + k)) ∧ atD (onF s (a + k)) ≤ 1000000) ∧ (-1000000 ≤ atT (onF s (a + k)) ∧ atT (onF s (a + k)) ≤ 1000000) from fun k hk => by
    have := at_bd (onF s (a + k)) (by have := onF_lt s (a + k) (by omega); omega)
    omega)
  have h1 : 1 ≤ b - a := by have := HN.out; omega
  have h2 : b - a ≤ 1000000 := by omega
  generalize bstN s l p = f at *
  clear h hs hl hp2 l12 hD hle hf o1 o2 HN
  go_enter Tryz.func6, Tryz.ntmps6
  go_wp2_with (first
    | (go_at_call 19; refine (isScale_impl _ _).mono ?_; rw [E1.out]; rintro e' w' ⟨rfl, rfl⟩)
    | (go_at_call 20; refine (isLength_impl _ _).mono ?_; rw [E2.out]; rintro e' w' ⟨rfl, rfl⟩)
    | (go_at_call 21; refine (isPoint_any _ _ _).mono ?_; rw [E3.out]; rintro e' w' ⟨rfl, rfl⟩))
  obtain ⟨cp, B1, G0⟩ := one_two_new w 2 27 (.int .i64 p) (.int .i64 0) (.int .i64 0)
  generalize (w.alloc (.cells #[.int .i64 p] 2)).alloc (.cells #[.int .i64 0, .int .i64 0] 27) = v at *
  refine (newSheet_any s l v (HD.out.gr G0)).mono ?_
  rintro e' w1 ⟨rfl, hg1, hs1⟩
  have cp1 := cell_gr hg1 cp
  have D1 := Lib.hid (B1.gr hg1)
  have HG1 := Lib.hid (G0.trans hg1)
  have hnm := Lib.hid (show w.heap.size + 1 ≠ v.heap.size by have := B1.lt; omega)
  have hwm := Lib.hid G0.below.size
  have HS1 := Lib.hid hs1
  clear cp B1 G0 hg1 hs1 HD E1 E2 E3
  have hr1 : -9223372036854775808 ≤ 2 * p ∧ 2 * p ≤ 9223372036854775807 := by omega
  go_wp2_with (first
    | (go_at_call 23; refine (HL.out w1 _ _ HS1.out).mono ?_; rintro e' w2 ⟨rfl, hg2, hs2⟩; have cp2 := ((Same.of HS1.out hs2 hg2).cell _ _ (World.block_lt_of_cell? w1 _ cp1)).trans cp1; have HG2 := Lib.hid hg2; have HS2 := Lib.hid hs2; have D2 := Lib.hid (D1.out.gb hg2 hnm.out); have lp2 := World.block_lt_of_cell? w2 _ cp2; clear hg2 hs2)
    | (go_at_call 24; refine (HW.out _ _ _ _ _ (HS2.out.alloc _) ((World.cell?_of_block (Below.heap_alloc _ _ _ lp2)).trans cp2) (by rw [cell_of_row _ _ 0 _ _ _ (Blk.new w2 2 #[.int .i64 o])]; rfl)).mono ?_; rintro e' w4 ⟨⟨v', rfl, hf⟩, hg4, hs4⟩; obtain ⟨gb, c, rfl, hrow⟩ := hf.row h1; have HM := Lib.hid (minF_any gb 0 _ c _ _ w4 h1 h2 hrow HBd.out); have D4 := Lib.hid ((D2.out.alloc _).gb hg4 hnm.out); have HG4 := Lib.hid hg4; clear hf hrow hg4 hs4)
    | (go_at_call 27; refine HM.out.mono ?_; rintro en w5 ⟨⟨m, hm, rfl, hmin⟩, hg5⟩; have HMin := Lib.hid (And.intro hm hmin); have D5 := D4.out.gr hg5; obtain ⟨x0, x1, xf⟩ := D5.two; have lx := D5.lt; have HG5 := Lib.hid hg5; clear hm hmin hg5))
  have hF : f = onF s (a + m) := HB.out (a + m) (by have := HMin.out.1; omega) (fun j j1 j2 => rank_on (by
    have := HMin.out.2 (j - a) (by omega)
    rwa [show a + (j - a) = j by omega] at this))
  rw [hF]
  simp only [Int.toNat_natCast]
  generalize atD (onF s (a + m)) = d1 at *
  generalize atT (onF s (a + m)) = t1 at *
  ((try simp only [Exit.inBlock, Exit.then]); refine bodyPost_ret (v := .tuple #[.agg #[.int .i64 d1, .int .i64 t1], .int .i64 0]) (by simp [results, Tryz.results6, go_sem, x0, x1, World.cell?_setCell_same']) rfl ?_)
  have GA : Gr w w5 := (gr_gb (gr_gb HG1.out (HG2.out.trans (Gb.of ((by repeat (first | with_reducible exact Gr.refl _ | with_reducible refine Gr.alloc ?_ _ | with_reducible refine Gr.gr ?_ _ _ | with_reducible refine Gr.drew ?_ | with_reducible refine Gr.drewN ?_ _)) : Gr w2 (w2.alloc (.cells #[.int .i64 o] 2))))) hwm.out) HG4.out hwm.out).trans HG5.out
  exact ⟨rfl, Gr.of_below (((GA.below).setCell (by simp) _).setCell (by simp) _)⟩

theorem brR_impl (s l p : Int) (w : World) (hD : Dcs w) :
    Calls Tryz.prog 6 #[.int .i64 s, .int .i64 l, .int .i64 p] w fun e' w' => e' = .returned (.tuple #[.agg #[.int .i64 (brR s l p).1.1, .int .i64 (brR s l p).1.2], .int .i64 (brR s l p).2]) ∧ Gr w w' := by
  rcases ok6_tf s l p 0 with h | h
  · exact (best_ok s l p w hD h).mono fun e' w' ⟨h1, h2⟩ => ⟨h1.trans (ps_yes _ _ _ (brR_ok _ _ _ h)), h2⟩
  · exact (best_no s l p w h).mono fun e' w' ⟨h1, h2⟩ => ⟨h1.trans (ps_no _ _ (brR_rg _ _ _ h)), h2⟩
end Go.Proofs.YtgadkpkpdpphbaaGreatDoor
