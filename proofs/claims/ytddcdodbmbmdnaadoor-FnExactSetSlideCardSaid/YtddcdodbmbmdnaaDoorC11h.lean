/- Contracts of chapter 11: the program's ReadStock, ReadSlide, SetCursor, SetSlide. -/
import Derived.Test.YtddcdodbmbmdnaaDoorC11g
namespace Go.Proofs.YtddcdodbmbmdnaaDoor
open Go.RowKit
set_option linter.unusedVariables false
set_option linter.unusedSimpArgs false

theorem part_of (b : Bool) (w : World) (A B : Option Addr) (n c m d : Nat) (xs ys : List Int) (hx : xs.length = n) (hy : ys.length = m) (hn : n ≤ 16777216) (hm : m ≤ 16777216) (hX : Reads w w.heap.size A (xs.map vi)) (hY : Reads w w.heap.size B (ys.map vi)) :
    ∃ (C : Option Addr) (k r : Nat), (if b = true then Value.slice B m d else .slice A n c) = .slice C k r ∧ (onP b xs ys).length = k ∧ k ≤ 16777216 ∧ Reads w w.heap.size C ((onP b xs ys).map vi) := by
  cases b
  · exact ⟨A, n, c, rfl, hx, hn, hX⟩
  · exact ⟨B, m, d, rfl, hy, hm, hY⟩
theorem ret_fc (a b c : Int) (x : (Int × Int) × Int) (h : x = ((a, b), c)) : Ending.returned (.tuple #[.agg #[.int .i64 a, .int .i64 b], .int .i64 c]) = .returned (.tuple #[.agg #[.int .i64 x.1.1, .int .i64 x.1.2], .int .i64 x.2]) := by rw [h]
theorem and_ff {x y : Bool} (h : (x && y) = false) : x = false ∨ (x = true ∧ y = false) := by cases x <;> cases y <;> simp_all
set_option maxRecDepth 100000 in
set_option maxHeartbeats 2000000 in
theorem ruc_any (b : Bool) (a q s : Int) (L : Int) (A B : Option Addr) (n c m d : Nat) (xs ys : List Int) (w : World) (hx : xs.length = n) (hy : ys.length = m) (hn : n ≤ 16777216) (hm : m ≤ 16777216) (hnc : n ≤ c) (hmd : m ≤ d) (hX : Reads w w.heap.size A (xs.map vi)) (hY : Reads w w.heap.size B (ys.map vi)) (hD : Dcs w) :
    Calls Tryd.prog 41 #[.agg #[.int .i64 L, .slice A n c, .slice B m d], .agg #[.int .i64 (a), .int .i64 (q)], pmet b, .int .i64 s] w fun e w' => e = .returned (.tuple #[.agg #[.int .i64 (rfR L xs ys a q b s).1.1, .int .i64 (rfR L xs ys a q b s).1.2], .int .i64 (rfR L xs ys a q b s).2]) ∧ Gr w w' := by
  have HM := Lib.hid (fun W h h' => newMachine_any a q L A B n c m d xs ys W hx hy hn hm hnc hmd h h')
  obtain ⟨C, k, r, hC, hzl, hk, hZ⟩ := part_of b w A B n c m d xs ys hx hy hn hm hX hY
  have HB := Lib.hid (fun st W h => partHas_any C k r (onP b xs ys) st s W hzl hk h)
  have HPt := Lib.hid (fun g W h => wpart b g L A B n c m d a q W h)
  rw [hC] at HPt
  have HMe := Lib.hid (show pmet b = .func (.func (if b = true then 45 else 42)) #[] #[] by cases b <;> rfl)
  have hcf : ∀ args w, (callFunc (if b = true then 45 else 42) args).run Tryd.prog w = .ok (.enter (if b = true then 45 else 42) args) w := by cases b <;> exact fun _ _ => by kernel_rfl
  have RX := Lib.hid hX
  have RY := Lib.hid hY
  have RZ := Lib.hid hZ
  have HD := Lib.hid hD
  have HA := Lib.hid (fun p W => above_impl p W)
  rw [HMe.out]
  have hmem := fun h => onP_mem (b := b) (L := L) (xs := xs) (ys := ys) (s := s) h
  have hcs := rcd_cases L xs ys a q b s
  have hrf := rfC_cases L xs ys a q b s
  have hok := rfR_ok L xs ys a q b s
  have hno := rfR_no L xs ys a q b s
  clear hx hy hX hY hZ hzl hC hD HMe
  generalize (if b = true then 45 else 42) = gf at *
  by_cases hg : (rlB L xs ys && sgB a q) = false
  · have H := Lib.hid (show rfR L xs ys a q b s = ((0, 0), 1) from by
      have e : rcd L xs ys a q b s = 1 := by unfold rcd; rw [if_pos hg]
      rcases hrf with ⟨-, e'⟩ | ⟨e', -⟩ | ⟨e', -⟩
      · rw [hno (by omega), e', e]
      · omega
      · omega)
    generalize rfR L xs ys a q b s = R at *
    rw [hg] at HM
    clear hcs hrf hok hno hg hmem
    go_enter Tryd.func41, Tryd.ntmps41
    go_wp2_with fail
    refine (HM.out _ (RX.out.gr (by repeat (first | with_reducible exact Gr.refl _ | with_reducible refine Gr.alloc ?_ _ | with_reducible refine Gr.gr ?_ _ _ | with_reducible refine Gr.drew ?_ | with_reducible refine Gr.drewN ?_ _))) (RY.out.gr (by repeat (first | with_reducible exact Gr.refl _ | with_reducible refine Gr.alloc ?_ _ | with_reducible refine Gr.gr ?_ _ _ | with_reducible refine Gr.drew ?_ | with_reducible refine Gr.drewN ?_ _)))).mono ?_
    rintro e w1 ⟨g, rfl, -, -, hG⟩
    have R1 := ((Blk.new ((w.alloc (.cells #[.int .i64 L, .slice A n c, .slice B m d] 37)).alloc (.cells #[.int .i64 a, .int .i64 q] 39)) 26 #[.int .i64 0, .int .i64 0])).gr hG
    simp only [World.size_alloc] at R1
    have hW := ((show Gr w _ from (by repeat (first | with_reducible exact Gr.refl _ | with_reducible refine Gr.alloc ?_ _ | with_reducible refine Gr.gr ?_ _ _ | with_reducible refine Gr.drew ?_ | with_reducible refine Gr.drewN ?_ _))).trans hG).below
    obtain ⟨r0, r1, rf⟩ := R1.two
    have rl := R1.lt
    clear R1 hG
    go_wp2_with fail
    ((try simp only [Exit.inBlock, Exit.then]); refine bodyPost_ret (v := .tuple #[.agg #[.int .i64 0, .int .i64 0], .int .i64 1]) (by simp [results, Tryd.results41, go_sem, r0, r1, World.cell?_setCell_same']) rfl ?_)
    exact ⟨ret_fc _ _ _ _ H.out, Gr.of_below ((hW.setCell (p := ⟨w.heap.size + 1 + 1, 0, none⟩) (by simp; omega) _).setCell (p := ⟨w.heap.size + 1 + 1, 1, none⟩) (by simp; omega) _)⟩
  have hg' : (rlB L xs ys && sgB a q) = true := by simpa using hg
  rw [hg'] at HM
  obtain ⟨hr, hsg⟩ := Bool.and_eq_true_iff.1 hg'
  have hsg' := (sgB_iff a q).1 hsg
  have hsb : -1048576 ≤ stP b a ∧ stP b a ≤ 1048576 := by cases b <;> simp [stP] <;> omega
  generalize hst : stP b a = st at *
  rcases hasI_tf (onP b xs ys) s with hs | hs
  rotate_left
  · have H := Lib.hid (show rfR L xs ys a q b s = ((0, 0), 2) from by
      have e : rcd L xs ys a q b s = 2 := by unfold rcd; rw [if_neg hg, if_pos hs]
      rcases hrf with ⟨-, e'⟩ | ⟨e', -⟩ | ⟨e', -⟩
      · rw [hno (by omega), e', e]
      · omega
      · omega)
    generalize rfR L xs ys a q b s = R at *
    rw [hs] at HB
    clear hcs hrf hok hno hg hmem hg' hr hsg hs hst
    obtain ⟨⟨a1, a2⟩, q1, q2⟩ := hsg'
    obtain ⟨s1, s2⟩ := hsb
    go_enter Tryd.func41, Tryd.ntmps41
    go_wp2_with fail
    refine (HM.out _ (RX.out.gr (by repeat (first | with_reducible exact Gr.refl _ | with_reducible refine Gr.alloc ?_ _ | with_reducible refine Gr.gr ?_ _ _ | with_reducible refine Gr.drew ?_ | with_reducible refine Gr.drewN ?_ _))) (RY.out.gr (by repeat (first | with_reducible exact Gr.refl _ | with_reducible refine Gr.alloc ?_ _ | with_reducible refine Gr.gr ?_ _ _ | with_reducible refine Gr.drew ?_ | with_reducible refine Gr.drewN ?_ _)))).mono ?_
    rintro e w1 ⟨g, rfl, hgw, hB1, hG⟩
    have R1 := ((Blk.new ((w.alloc (.cells #[.int .i64 L, .slice A n c, .slice B m d] 37)).alloc (.cells #[.int .i64 a, .int .i64 q] 39)) 26 #[.int .i64 0, .int .i64 0])).gr hG
    simp only [World.size_alloc] at R1
    have hW1 := (show Gr w _ from (by repeat (first | with_reducible exact Gr.refl _ | with_reducible refine Gr.alloc ?_ _ | with_reducible refine Gr.gr ?_ _ _ | with_reducible refine Gr.drew ?_ | with_reducible refine Gr.drewN ?_ _))).trans hG
    clear hG
    go_wp2_with fail
    refine (HPt.out g w1 hB1).mono ?_
    rintro e w2 ⟨rfl, hg2⟩
    have P2 := Blk.new w2 107 #[.slice C k r, .int .i64 st]
    have hG2 : Gr w1 (w2.alloc (.cells #[.slice C k r, .int .i64 st] 107)) := hg2.alloc _
    have hwp : w.heap.size ≤ w2.heap.size := by have := hW1.below.size; have := hg2.below.size; omega
    go_wp2_with fail
    generalize w2.alloc (.cells #[.slice C k r, .int .i64 st] 107) = v2 at *
    generalize w2.heap.size = pb at *
    have B2 := hB1.gr hG2
    have R2 := R1.gr hG2
    have hW2 := hW1.trans hG2
    obtain ⟨b0, b1, b2, b3, b4, -⟩ := B2.five
    obtain ⟨p0, p1, -⟩ := P2.two
    have bl := B2.lt
    have pl := P2.lt
    clear hB1 R1 hW1 hg2 hG2 B2
    go_quiet (fail)
    have hq : Gr v2 (v2.drewN nq) := (Gr.refl _).drewN _
    replace P2 := P2.gr hq
    replace R2 := R2.gr hq
    have hW3 := Lib.hid (hW2.trans hq)
    clear b0 b1 b2 b3 b4 p0 p1 bl pl hW2
    generalize v2.drewN nq = v3 at *
    clear hq
    obtain ⟨p0, p1, -⟩ := P2.two
    have HR := Lib.hid R2
    clear P2 R2
    go_wp2_with (go_at_call 81; refine (HB.out _ _ (RZ.out.gr hW3.out)).mono ?_; rintro e w4 ⟨rfl, hg4⟩; have R4 := HR.out.gr hg4; obtain ⟨r0, r1, rf⟩ := R4.two; have rl := R4.lt; clear R4)
    ((try simp only [Exit.inBlock, Exit.then]); refine bodyPost_ret (v := .tuple #[.agg #[.int .i64 0, .int .i64 0], .int .i64 2]) (by simp [results, Tryd.results41, go_sem, r0, r1, World.cell?_setCell_same']) rfl ?_)
    exact ⟨ret_fc _ _ _ _ H.out, Gr.of_below (((hW3.out.trans hg4).below.setCell (p := ⟨w.heap.size + 1 + 1, 0, none⟩) (by simp; omega) _).setCell (p := ⟨w.heap.size + 1 + 1, 1, none⟩) (by simp; omega) _)⟩
  have hcd : rcd L xs ys a q b s = 0 := by unfold rcd; rw [if_neg hg, if_neg (by rw [hs]; simp)]
  have hls := hmem hr hs
  rcases abv_tf (q - st) with hv | hv
  rotate_left
  · have H := Lib.hid (show rfR L xs ys a q b s = ((0, 0), 5) from by
      rcases hrf with ⟨e', -⟩ | ⟨-, -, e'⟩ | ⟨-, e', -⟩
      · exact absurd hcd e'
      · rw [hno (by omega), e']
      · rw [hv] at e'; cases e')
    generalize rfR L xs ys a q b s = R at *
    rw [hs] at HB
    have HV := Lib.hid (HA.out (q - st))
    rw [hv] at HV
    clear hcs hrf hok hno hg hmem hg' hr hsg hs hst hcd hls hv HA
    obtain ⟨⟨a1, a2⟩, q1, q2⟩ := hsg'
    obtain ⟨s1, s2⟩ := hsb
    go_enter Tryd.func41, Tryd.ntmps41
    go_wp2_with fail
    refine (HM.out _ (RX.out.gr (by repeat (first | with_reducible exact Gr.refl _ | with_reducible refine Gr.alloc ?_ _ | with_reducible refine Gr.gr ?_ _ _ | with_reducible refine Gr.drew ?_ | with_reducible refine Gr.drewN ?_ _))) (RY.out.gr (by repeat (first | with_reducible exact Gr.refl _ | with_reducible refine Gr.alloc ?_ _ | with_reducible refine Gr.gr ?_ _ _ | with_reducible refine Gr.drew ?_ | with_reducible refine Gr.drewN ?_ _)))).mono ?_
    rintro e w1 ⟨g, rfl, hgw, hB1, hG⟩
    have R1 := ((Blk.new ((w.alloc (.cells #[.int .i64 L, .slice A n c, .slice B m d] 37)).alloc (.cells #[.int .i64 a, .int .i64 q] 39)) 26 #[.int .i64 0, .int .i64 0])).gr hG
    simp only [World.size_alloc] at R1
    have hW1 := (show Gr w _ from (by repeat (first | with_reducible exact Gr.refl _ | with_reducible refine Gr.alloc ?_ _ | with_reducible refine Gr.gr ?_ _ _ | with_reducible refine Gr.drew ?_ | with_reducible refine Gr.drewN ?_ _))).trans hG
    clear hG
    go_wp2_with fail
    refine (HPt.out g w1 hB1).mono ?_
    rintro e w2 ⟨rfl, hg2⟩
    have P2 := Blk.new w2 107 #[.slice C k r, .int .i64 st]
    have hG2 : Gr w1 (w2.alloc (.cells #[.slice C k r, .int .i64 st] 107)) := hg2.alloc _
    have hwp : w.heap.size ≤ w2.heap.size := by have := hW1.below.size; have := hg2.below.size; omega
    go_wp2_with fail
    generalize w2.alloc (.cells #[.slice C k r, .int .i64 st] 107) = v2 at *
    generalize w2.heap.size = pb at *
    have B2 := hB1.gr hG2
    have R2 := R1.gr hG2
    have hW2 := hW1.trans hG2
    obtain ⟨b0, b1, b2, b3, b4, -⟩ := B2.five
    obtain ⟨p0, p1, -⟩ := P2.two
    have bl := B2.lt
    have pl := P2.lt
    clear hB1 R1 hW1 hg2 hG2 B2
    go_quiet (fail)
    have hq : Gr v2 (v2.drewN nq) := (Gr.refl _).drewN _
    replace P2 := P2.gr hq
    replace R2 := R2.gr hq
    have hW3 := Lib.hid (hW2.trans hq)
    clear b0 b1 b2 b3 b4 p0 p1 bl pl hW2
    generalize v2.drewN nq = v3 at *
    clear hq
    obtain ⟨p0, p1, -⟩ := P2.two
    have HR := Lib.hid R2
    clear P2 R2
    go_wp2_with (first | (go_at_call 81; refine (HB.out _ _ (RZ.out.gr hW3.out)).mono ?_; rintro e w4 ⟨rfl, hg4⟩; have R4 := HR.out.gr hg4; obtain ⟨r0, r1, rf⟩ := R4.two; have rl := R4.lt; clear R4) | (go_at_call 82; (with_reducible refine (HV.out _).mono ?_); rintro e w5 ⟨rfl, rfl⟩))
    ((try simp only [Exit.inBlock, Exit.then]); refine bodyPost_ret (v := .tuple #[.agg #[.int .i64 0, .int .i64 0], .int .i64 5]) (by simp [results, Tryd.results41, go_sem, r0, r1, World.cell?_setCell_same']) rfl ?_)
    exact ⟨ret_fc _ _ _ _ H.out, Gr.of_below (((hW3.out.trans hg4).below.setCell (p := ⟨w.heap.size + 1 + 1, 0, none⟩) (by simp; omega) _).setCell (p := ⟨w.heap.size + 1 + 1, 1, none⟩) (by simp; omega) _)⟩
  · have hv' := (abv_iff _).1 hv
    have H := Lib.hid (show rfR L xs ys a q b s = ((gD (rdN s (q - st)), gT (rdN s (q - st))), 0) from by
      rcases hrf with ⟨e', -⟩ | ⟨-, e', -⟩ | ⟨-, -, e'⟩
      · exact absurd hcd e'
      · rw [hv] at e'; cases e'
      · exact hok e')
    have HF := Lib.hid (fun W h => figureAt_any s (q - st) W h hls (by omega))
    generalize rfR L xs ys a q b s = R at *
    generalize gD (rdN s (q - st)) = fd at *
    generalize gT (rdN s (q - st)) = ft at *
    rw [hs] at HB
    have HV := Lib.hid (HA.out (q - st))
    rw [hv] at HV
    clear hcs hrf hok hno hg hmem hg' hr hsg hs hst hcd hls hv HA hv'
    obtain ⟨⟨a1, a2⟩, q1, q2⟩ := hsg'
    obtain ⟨s1, s2⟩ := hsb
    go_enter Tryd.func41, Tryd.ntmps41
    go_wp2_with fail
    refine (HM.out _ (RX.out.gr (by repeat (first | with_reducible exact Gr.refl _ | with_reducible refine Gr.alloc ?_ _ | with_reducible refine Gr.gr ?_ _ _ | with_reducible refine Gr.drew ?_ | with_reducible refine Gr.drewN ?_ _))) (RY.out.gr (by repeat (first | with_reducible exact Gr.refl _ | with_reducible refine Gr.alloc ?_ _ | with_reducible refine Gr.gr ?_ _ _ | with_reducible refine Gr.drew ?_ | with_reducible refine Gr.drewN ?_ _)))).mono ?_
    rintro e w1 ⟨g, rfl, hgw, hB1, hG⟩
    have R1 := ((Blk.new ((w.alloc (.cells #[.int .i64 L, .slice A n c, .slice B m d] 37)).alloc (.cells #[.int .i64 a, .int .i64 q] 39)) 26 #[.int .i64 0, .int .i64 0])).gr hG
    simp only [World.size_alloc] at R1
    have hW1 := (show Gr w _ from (by repeat (first | with_reducible exact Gr.refl _ | with_reducible refine Gr.alloc ?_ _ | with_reducible refine Gr.gr ?_ _ _ | with_reducible refine Gr.drew ?_ | with_reducible refine Gr.drewN ?_ _))).trans hG
    clear hG
    go_wp2_with fail
    refine (HPt.out g w1 hB1).mono ?_
    rintro e w2 ⟨rfl, hg2⟩
    have P2 := Blk.new w2 107 #[.slice C k r, .int .i64 st]
    have hG2 : Gr w1 (w2.alloc (.cells #[.slice C k r, .int .i64 st] 107)) := hg2.alloc _
    have hwp : w.heap.size ≤ w2.heap.size := by have := hW1.below.size; have := hg2.below.size; omega
    go_wp2_with fail
    generalize w2.alloc (.cells #[.slice C k r, .int .i64 st] 107) = v2 at *
    generalize w2.heap.size = pb at *
    have B2 := hB1.gr hG2
    have R2 := R1.gr hG2
    have hW2 := hW1.trans hG2
    obtain ⟨b0, b1, b2, b3, b4, -⟩ := B2.five
    obtain ⟨p0, p1, -⟩ := P2.two
    have bl := B2.lt
    have pl := P2.lt
    clear hB1 R1 hW1 hg2 hG2 B2
    go_quiet (fail)
    have hq : Gr v2 (v2.drewN nq) := (Gr.refl _).drewN _
    replace P2 := P2.gr hq
    replace R2 := R2.gr hq
    have hW3 := Lib.hid (hW2.trans hq)
    clear b0 b1 b2 b3 b4 p0 p1 bl pl hW2
    generalize v2.drewN nq = v3 at *
    clear hq
    obtain ⟨p0, p1, -⟩ := P2.two
    have HR := Lib.hid R2
    clear P2 R2
    go_wp2_with (first | (go_at_call 81; refine (HB.out _ _ (RZ.out.gr hW3.out)).mono ?_; rintro e w4 ⟨rfl, hg4⟩) | (go_at_call 82; (with_reducible refine (HV.out _).mono ?_); rintro e w5 ⟨rfl, rfl⟩) | (go_at_call 83; refine (HF.out w4 (HD.out.gr (hW3.out.trans hg4))).mono ?_; rintro e w6 ⟨rfl, hg6⟩; have R4 := HR.out.gr (hg4.trans hg6); obtain ⟨r0, r1, rf⟩ := R4.two; have rl := R4.lt; clear R4))
    ((try simp only [Exit.inBlock, Exit.then]); refine bodyPost_ret (v := .tuple #[.agg #[.int .i64 fd, .int .i64 ft], .int .i64 0]) (by simp [results, Tryd.results41, go_sem, r0, r1, World.cell?_setCell_same']) rfl ?_)
    exact ⟨ret_fc _ _ _ _ H.out, Gr.of_below (((hW3.out.trans (hg4.trans hg6)).below.setCell (p := ⟨w.heap.size + 1 + 1, 0, none⟩) (by simp; omega) _).setCell (p := ⟨w.heap.size + 1 + 1, 1, none⟩) (by simp; omega) _)⟩

theorem rstock_impl (a q s : Int) (L : Int) (A B : Option Addr) (n c m d : Nat) (xs ys : List Int) (w : World) (hx : xs.length = n) (hy : ys.length = m) (hn : n ≤ 16777216) (hm : m ≤ 16777216) (hnc : n ≤ c) (hmd : m ≤ d) (hX : Reads w w.heap.size A (xs.map vi)) (hY : Reads w w.heap.size B (ys.map vi)) (hD : Dcs w) :
    Calls Tryd.prog 17 #[.agg #[.int .i64 L, .slice A n c, .slice B m d], .agg #[.int .i64 (a), .int .i64 (q)], .int .i64 s] w fun e w' => e = .returned (.tuple #[.agg #[.int .i64 (rfR L xs ys a q false s).1.1, .int .i64 (rfR L xs ys a q false s).1.2], .int .i64 (rfR L xs ys a q false s).2]) ∧ Gr w w' := by
  have HR := Lib.hid (fun W h h' hd => ruc_any false a q s L A B n c m d xs ys W hx hy hn hm hnc hmd h h' hd)
  rw [pmet_f] at HR
  have RX := Lib.hid hX
  have RY := Lib.hid hY
  have HD := Lib.hid hD
  clear hx hy hX hY hD
  generalize (rfR L xs ys a q false s).1.1 = x at *
  generalize (rfR L xs ys a q false s).1.2 = y at *
  generalize (rfR L xs ys a q false s).2 = z at *
  go_enter Tryd.func17, Tryd.ntmps17
  go_wp2_with (go_at_call 41; (with_reducible refine (HR.out _ (RX.out.gr (by repeat (first | with_reducible exact Gr.refl _ | with_reducible refine Gr.alloc ?_ _ | with_reducible refine Gr.gr ?_ _ _ | with_reducible refine Gr.drew ?_ | with_reducible refine Gr.drewN ?_ _))) (RY.out.gr (by repeat (first | with_reducible exact Gr.refl _ | with_reducible refine Gr.alloc ?_ _ | with_reducible refine Gr.gr ?_ _ _ | with_reducible refine Gr.drew ?_ | with_reducible refine Gr.drewN ?_ _))) (HD.out.gr (by repeat (first | with_reducible exact Gr.refl _ | with_reducible refine Gr.alloc ?_ _ | with_reducible refine Gr.gr ?_ _ _ | with_reducible refine Gr.drew ?_ | with_reducible refine Gr.drewN ?_ _)))).mono ?_); rintro e w' ⟨rfl, k, os, rfl⟩)
  ((try simp only [Exit.inBlock, Exit.then]); refine bodyPost_ret (v := .tuple #[.agg #[.int .i64 x, .int .i64 y], .int .i64 z]) (by simp [results, Tryd.results17, go_sem]) rfl ?_)
  exact ⟨rfl, (by repeat (first | with_reducible exact Gr.refl _ | with_reducible refine Gr.alloc ?_ _ | with_reducible refine Gr.gr ?_ _ _ | with_reducible refine Gr.drew ?_ | with_reducible refine Gr.drewN ?_ _))⟩
theorem rslide_impl (a q s : Int) (L : Int) (A B : Option Addr) (n c m d : Nat) (xs ys : List Int) (w : World) (hx : xs.length = n) (hy : ys.length = m) (hn : n ≤ 16777216) (hm : m ≤ 16777216) (hnc : n ≤ c) (hmd : m ≤ d) (hX : Reads w w.heap.size A (xs.map vi)) (hY : Reads w w.heap.size B (ys.map vi)) (hD : Dcs w) :
    Calls Tryd.prog 21 #[.agg #[.int .i64 L, .slice A n c, .slice B m d], .agg #[.int .i64 (a), .int .i64 (q)], .int .i64 s] w fun e w' => e = .returned (.tuple #[.agg #[.int .i64 (rfR L xs ys a q true s).1.1, .int .i64 (rfR L xs ys a q true s).1.2], .int .i64 (rfR L xs ys a q true s).2]) ∧ Gr w w' := by
  have HR := Lib.hid (fun W h h' hd => ruc_any true a q s L A B n c m d xs ys W hx hy hn hm hnc hmd h h' hd)
  rw [pmet_t] at HR
  have RX := Lib.hid hX
  have RY := Lib.hid hY
  have HD := Lib.hid hD
  clear hx hy hX hY hD
  generalize (rfR L xs ys a q true s).1.1 = x at *
  generalize (rfR L xs ys a q true s).1.2 = y at *
  generalize (rfR L xs ys a q true s).2 = z at *
  go_enter Tryd.func21, Tryd.ntmps21
  go_wp2_with (go_at_call 41; (with_reducible refine (HR.out _ (RX.out.gr (by repeat (first | with_reducible exact Gr.refl _ | with_reducible refine Gr.alloc ?_ _ | with_reducible refine Gr.gr ?_ _ _ | with_reducible refine Gr.drew ?_ | with_reducible refine Gr.drewN ?_ _))) (RY.out.gr (by repeat (first | with_reducible exact Gr.refl _ | with_reducible refine Gr.alloc ?_ _ | with_reducible refine Gr.gr ?_ _ _ | with_reducible refine Gr.drew ?_ | with_reducible refine Gr.drewN ?_ _))) (HD.out.gr (by repeat (first | with_reducible exact Gr.refl _ | with_reducible refine Gr.alloc ?_ _ | with_reducible refine Gr.gr ?_ _ _ | with_reducible refine Gr.drew ?_ | with_reducible refine Gr.drewN ?_ _)))).mono ?_); rintro e w' ⟨rfl, k, os, rfl⟩)
  ((try simp only [Exit.inBlock, Exit.then]); refine bodyPost_ret (v := .tuple #[.agg #[.int .i64 x, .int .i64 y], .int .i64 z]) (by simp [results, Tryd.results21, go_sem]) rfl ?_)
  exact ⟨rfl, (by repeat (first | with_reducible exact Gr.refl _ | with_reducible refine Gr.alloc ?_ _ | with_reducible refine Gr.gr ?_ _ _ | with_reducible refine Gr.drew ?_ | with_reducible refine Gr.drewN ?_ _))⟩
end Go.Proofs.YtddcdodbmbmdnaaDoor
