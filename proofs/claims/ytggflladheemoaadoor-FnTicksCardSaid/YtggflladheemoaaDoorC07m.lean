/- Contracts of chapter 7: the model's least distance. -/
import Derived.Test.YtggflladheemoaaDoorC07d
import Derived.Test.YtggflladheemoaaDoorMC
import Derived.Test.YtggflladheemoaaDoorC05d
import Derived.Test.YtggflladheemoaaDoorC05a
namespace Go.Proofs.YtggflladheemoaaDoor
open Go.RowKit
set_option linter.unusedVariables false
set_option linter.unusedSimpArgs false

set_option maxHeartbeats 1000000 in
theorem middle_spec (s y l : Int) (w : World) (hs : sc s = true) (hl : ln l = true) (y1 : 1000 ≤ y) (y2 : y ≤ 9999) :
    Calls Tryd.prog 108 #[.int .i64 s, .int .i64 y, .int .i64 l] w fun e w' => e = .returned (.int .i64 (mdl s l y)) ∧ Gr w w' := by
  have hfg : fg y 0 = true := (fg_iff _ _).2 ⟨⟨y1, y2⟩, by omega⟩
  obtain ⟨p1, p2, p3, p4, -⟩ := pl_bd s y 0 l hfg hl
  obtain ⟨r1, r2, r3, r4⟩ := psn_bd s y 0 hfg
  obtain ⟨l1, l2⟩ := (ln_iff l).1 hl
  have HP := Lib.hid (fun W => position_spec s y 0 W hfg hs (lgb_ok hfg))
  have HC := Lib.hid (fun W => place_spec (psn s y 0).1 (psn s y 0).2 l W r1 r2 r3 r4 l1 l2)
  have HE := Lib.hid (show plc (psn s y 0).1 (psn s y 0).2 l = pl s y 0 l from rfl)
  rw [HE.out] at HC
  have HMd := Lib.hid (show mdl s l y = ((pl s y 0 l).1 + (pl s y 0 l).2).fdiv 2 from rfl)
  clear HE r1 r2 r3 r4
  generalize (psn s y 0).1 = q1 at *
  generalize (psn s y 0).2 = q2 at *
  generalize (pl s y 0 l).1 = a at *
  generalize (pl s y 0 l).2 = b at *
  have HF := Lib.hid (fun W => floor_any (a + b) 2 W (by omega) (by omega) (by omega) (by omega) (by omega))
  rw [← HMd.out] at HF
  go_enter Tryd.func108, Tryd.ntmps108
  go_wp2_with (first
    | (go_at_call 157; refine (HP.out _).mono ?_; rintro e w' ⟨rfl, kk, os, rfl⟩)
    | (go_at_call 156; refine (HC.out _).mono ?_; rintro e w' ⟨rfl, kk2, os2, rfl⟩)
    | (go_at_call 158; refine (HF.out _).mono ?_; rintro e w' ⟨rfl, rfl⟩))
  ((try simp only [Exit.inBlock, Exit.then]); refine bodyPost_ret (v := .int .i64 (mdl s l y)) (by simp [results, Tryd.results108, go_sem]) rfl ?_)
  exact ⟨rfl, (by repeat (first | with_reducible exact Gr.refl _ | with_reducible refine Gr.alloc ?_ _ | with_reducible refine Gr.gr ?_ _ _ | with_reducible refine Gr.drew ?_ | with_reducible refine Gr.drewN ?_ _))⟩

theorem mdl_bd (s y l : Int) (hl : ln l = true) (y1 : 1000 ≤ y) (y2 : y ≤ 9999) : -400000 ≤ mdl s l y ∧ mdl s l y ≤ 620000 := by
  obtain ⟨p1, p2, p3, p4, -⟩ := pl_bd s y 0 l ((fg_iff _ _).2 ⟨⟨y1, y2⟩, by omega⟩) hl
  unfold mdl
  rw [Int.fdiv_eq_ediv_of_nonneg _ (by omega)]
  omega
theorem take_snoc7 {L : List Int} {k : Nat} {x : Int} (h : L[k]? = some x) : L.take (k + 1) = L.take k ++ [x] := by
  obtain ⟨hk, e⟩ := List.getElem?_eq_some_iff.1 h
  rw [List.take_succ_eq_append_getElem hk, e]
theorem lmM7_snoc (s l : Int) (L : List Int) (y : Int) : (if L ++ [y] = [] then 0 else mdl s l (lst0 (L ++ [y]))) = mdl s l y := by rw [if_neg (by simp), lst0_snoc]

set_option maxHeartbeats 4000000 in
theorem least_spec (g cp : Nat) (L : List Int) (s l : Int) (w : World) (hlen : L.length ≤ 9000) (hg : g < w.heap.size) (hcs : ∀ k x, L[k]? = some x → w.cell? ⟨g, k, none⟩ = some (vi x)) (hM : ∀ x ∈ L, 1000 ≤ x ∧ x < 10000) (hs : sc s = true) (hl : ln l = true) :
    Calls Tryd.prog 91 #[.slice (some ⟨g, 0, none⟩) L.length cp, .int .i64 s, .int .i64 l] w fun e w' => e = .returned (.int .i64 (leG (gapsL s l L))) ∧ Gr w w' := by
  have HCS := Lib.hid hcs
  have HM := Lib.hid hM
  have HMI := Lib.hid (fun y W y1 y2 => middle_spec s y l W hs hl y1 y2)
  have HBD := Lib.hid (fun y y1 y2 => mdl_bd s y l hl y1 y2)
  have HT := Lib.hid (fun (k : Nat) (x : Int) (h : L[k]? = some x) => take_snoc7 h)
  clear hcs hM hs hl
  go_enter Tryd.func91, Tryd.ntmps91
  go_wp2
  go_loopw [7, 8, 9] (fun m b i wr => ∃ k : Nat, i = .int .i64 k ∧ k ≤ L.length ∧ m = .int .i64 (leG (gapsL s l (L.take k))) ∧ b = .int .i64 (if L.take k = [] then 0 else mdl s l (lst0 (L.take k))) ∧ Gr w wr) (fun _ _ i _ => L.length - (intOf i).toNat)
  case atStart => exact ⟨0, rfl, by omega, by simp [gapsL, leG], by simp, Gr.refl _⟩
  case round =>
    obtain ⟨k, rfl, hk, rfl, rfl, hG⟩ := hrel
    by_cases hlt : k < L.length
    · obtain ⟨x, hx⟩ := some_at (l := L) (k := k) hlt
      have hgl : g < wr.heap.size := Nat.lt_of_lt_of_le hg hG.below.size
      have y0 : wr.cell? ⟨g, k, none⟩ = some (vi x) := (hG.below.cell (p := ⟨g, k, none⟩) hg).trans (HCS.out k x hx)
      have H1 := Lib.hid (HT.out k x hx)
      obtain ⟨x1, x2⟩ := HM.out x (List.mem_of_getElem? hx)
      have HX := Lib.hid (fun W => HMI.out x W x1 (by omega))
      obtain ⟨d1, d2⟩ := HBD.out x x1 (by omega)
      have HLM := Lib.hid (lmM7_snoc s l (L.take k) x)
      cases k with
      | zero =>
        have HG := Lib.hid (show leG (gapsL s l (L.take 1)) = leG (gapsL s l (L.take 0)) by rw [show L.take 1 = L.take 0 ++ [x] from H1.out]; simp [gapsL, gapF])
        have HB := Lib.hid (show (if L.take 1 = [] then 0 else mdl s l (lst0 (L.take 1))) = mdl s l x by rw [show L.take 1 = L.take 0 ++ [x] from H1.out]; exact HLM.out)
        clear hx H1 HLM
        generalize leG (gapsL s l (L.take 0)) = m0 at *
        generalize (if L.take 0 = [] then 0 else mdl s l (lst0 (L.take 0))) = b0 at *
        generalize mdl s l x = md at *
        go_wp2_with (go_at_call 108; refine (HX.out _).mono ?_; rintro e w' ⟨rfl, kk, os, rfl⟩)
        go_roundw
        case rel => exact ⟨1, by go_num, by omega, by rw [HG.out], by rw [HB.out], hG.trans (by repeat (first | with_reducible exact Gr.refl _ | with_reducible refine Gr.alloc ?_ _ | with_reducible refine Gr.gr ?_ _ _ | with_reducible refine Gr.drew ?_ | with_reducible refine Gr.drewN ?_ _))⟩
        case measure => simp [intOf]; omega
      | succ j =>
        obtain ⟨a, ha⟩ := some_at (l := L) (k := j) (by omega)
        have yp : wr.cell? ⟨g, j, none⟩ = some (vi a) := (hG.below.cell (p := ⟨g, j, none⟩) hg).trans (HCS.out j a ha)
        obtain ⟨a1, a2⟩ := HM.out a (List.mem_of_getElem? ha)
        obtain ⟨d3, d4⟩ := HBD.out a a1 (by omega)
        have HTA := Lib.hid (HT.out j a ha)
        have hne : L.take (j + 1) ≠ [] := by rw [HTA.out]; simp
        have hla : lst0 (L.take (j + 1)) = a := by rw [HTA.out, lst0_snoc]
        have HGS := Lib.hid (gapsL_snoc s l hne x)
        rw [← H1.out, hla] at HGS
        have HB := Lib.hid (show (if L.take (j + 1 + 1) = [] then 0 else mdl s l (lst0 (L.take (j + 1 + 1)))) = mdl s l x by rw [H1.out]; exact HLM.out)
        have HB2 : (if L.take (j + 1) = [] then 0 else mdl s l (lst0 (L.take (j + 1)))) = mdl s l a := by rw [if_neg hne, hla]
        rw [HB2]
        have HG1 := Lib.hid (show gap1 s l a x = if cnts s a x = true then [((mdl s l x - mdl s l a).natAbs : Int)] else [] from rfl)
        have HA := Lib.hid (fun W => abs_any (mdl s l x - mdl s l a) W (by omega) (by omega))
        clear hx ha hne hla HB2 HLM
        generalize gapsL s l (L.take (j + 1)) = G0 at *
        generalize hg1 : gapsL s l (L.take (j + 1 + 1)) = G1 at *
        have HGE := Lib.hid hg1
        clear hg1
        generalize mdl s l x = md at *
        generalize mdl s l a = ma at *
        by_cases hc : s = 4 ∧ a ≤ 3142 ∧ 3142 < x
        · have HE := Lib.hid (show G1 = G0 by rw [HGS.out, HG1.out, if_neg (by unfold cnts; simp; omega), List.append_nil])
          obtain ⟨rfl, c2, c3⟩ := hc
          go_wp2_with (go_at_call 108; refine (HX.out _).mono ?_; rintro e w' ⟨rfl, kk, os, rfl⟩)
          go_roundw
          case rel => exact ⟨j + 1 + 1, by go_num, by omega, by rw [HGE.out, HE.out], by rw [HB.out], hG.trans (by repeat (first | with_reducible exact Gr.refl _ | with_reducible refine Gr.alloc ?_ _ | with_reducible refine Gr.gr ?_ _ _ | with_reducible refine Gr.drew ?_ | with_reducible refine Gr.drewN ?_ _))⟩
          case measure => simp [intOf]; omega
        · have HE := Lib.hid (show leG G1 = lm (leG G0) ((md - ma).natAbs : Int) by rw [HGS.out, HG1.out, if_pos (by unfold cnts; simp; omega), leG_snoc])
          have hb1 : ((md - ma).natAbs : Int) ≤ 2000000 := by omega
          generalize ((md - ma).natAbs : Int) = dd at *
          generalize leG G0 = m0 at *
          generalize hl1 : leG G1 = m1 at *
          have HL1 := Lib.hid hl1
          clear hl1
          by_cases hm0 : m0 < 0
          · have HF := Lib.hid (show m1 = dd by rw [HE.out, lm_lo _ _ (.inl hm0)])
            by_cases e1 : s = 4
            · subst e1
              by_cases e2 : a ≤ 3142
              · have g3 : decide (3142 < x) = false := decide_eq_false (by omega)
                go_wp2_with (first | (go_at_call 108; refine (HX.out _).mono ?_; rintro e w' ⟨rfl, kk, os, rfl⟩) | (go_at_call 144; refine (HA.out _).mono ?_; rintro e w' ⟨rfl, rfl⟩))
                go_roundw
                case rel => exact ⟨j + 1 + 1, by go_num, by omega, by rw [HGE.out, HL1.out, HF.out], by rw [HB.out], hG.trans (by repeat (first | with_reducible exact Gr.refl _ | with_reducible refine Gr.alloc ?_ _ | with_reducible refine Gr.gr ?_ _ _ | with_reducible refine Gr.drew ?_ | with_reducible refine Gr.drewN ?_ _))⟩
                case measure => simp [intOf]; omega
              · have g2 : decide (a ≤ 3142) = false := decide_eq_false e2
                go_wp2_with (first | (go_at_call 108; refine (HX.out _).mono ?_; rintro e w' ⟨rfl, kk, os, rfl⟩) | (go_at_call 144; refine (HA.out _).mono ?_; rintro e w' ⟨rfl, rfl⟩))
                go_roundw
                case rel => exact ⟨j + 1 + 1, by go_num, by omega, by rw [HGE.out, HL1.out, HF.out], by rw [HB.out], hG.trans (by repeat (first | with_reducible exact Gr.refl _ | with_reducible refine Gr.alloc ?_ _ | with_reducible refine Gr.gr ?_ _ _ | with_reducible refine Gr.drew ?_ | with_reducible refine Gr.drewN ?_ _))⟩
                case measure => simp [intOf]; omega
            · have g1 : (s == 4) = false := by simpa using e1
              go_wp2_with (first | (go_at_call 108; refine (HX.out _).mono ?_; rintro e w' ⟨rfl, kk, os, rfl⟩) | (go_at_call 144; refine (HA.out _).mono ?_; rintro e w' ⟨rfl, rfl⟩))
              go_roundw
              case rel => exact ⟨j + 1 + 1, by go_num, by omega, by rw [HGE.out, HL1.out, HF.out], by rw [HB.out], hG.trans (by repeat (first | with_reducible exact Gr.refl _ | with_reducible refine Gr.alloc ?_ _ | with_reducible refine Gr.gr ?_ _ _ | with_reducible refine Gr.drew ?_ | with_reducible refine Gr.drewN ?_ _))⟩
              case measure => simp [intOf]; omega
          by_cases hm1 : dd < m0
          · have HF := Lib.hid (show m1 = dd by rw [HE.out, lm_lo _ _ (.inr hm1)])
            by_cases e1 : s = 4
            · subst e1
              by_cases e2 : a ≤ 3142
              · have g3 : decide (3142 < x) = false := decide_eq_false (by omega)
                go_wp2_with (first | (go_at_call 108; refine (HX.out _).mono ?_; rintro e w' ⟨rfl, kk, os, rfl⟩) | (go_at_call 144; refine (HA.out _).mono ?_; rintro e w' ⟨rfl, rfl⟩))
                go_roundw
                case rel => exact ⟨j + 1 + 1, by go_num, by omega, by rw [HGE.out, HL1.out, HF.out], by rw [HB.out], hG.trans (by repeat (first | with_reducible exact Gr.refl _ | with_reducible refine Gr.alloc ?_ _ | with_reducible refine Gr.gr ?_ _ _ | with_reducible refine Gr.drew ?_ | with_reducible refine Gr.drewN ?_ _))⟩
                case measure => simp [intOf]; omega
              · have g2 : decide (a ≤ 3142) = false := decide_eq_false e2
                go_wp2_with (first | (go_at_call 108; refine (HX.out _).mono ?_; rintro e w' ⟨rfl, kk, os, rfl⟩) | (go_at_call 144; refine (HA.out _).mono ?_; rintro e w' ⟨rfl, rfl⟩))
                go_roundw
                case rel => exact ⟨j + 1 + 1, by go_num, by omega, by rw [HGE.out, HL1.out, HF.out], by rw [HB.out], hG.trans (by repeat (first | with_reducible exact Gr.refl _ | with_reducible refine Gr.alloc ?_ _ | with_reducible refine Gr.gr ?_ _ _ | with_reducible refine Gr.drew ?_ | with_reducible refine Gr.drewN ?_ _))⟩
                case measure => simp [intOf]; omega
            · have g1 : (s == 4) = false := by simpa using e1
              go_wp2_with (first | (go_at_call 108; refine (HX.out _).mono ?_; rintro e w' ⟨rfl, kk, os, rfl⟩) | (go_at_call 144; refine (HA.out _).mono ?_; rintro e w' ⟨rfl, rfl⟩))
              go_roundw
              case rel => exact ⟨j + 1 + 1, by go_num, by omega, by rw [HGE.out, HL1.out, HF.out], by rw [HB.out], hG.trans (by repeat (first | with_reducible exact Gr.refl _ | with_reducible refine Gr.alloc ?_ _ | with_reducible refine Gr.gr ?_ _ _ | with_reducible refine Gr.drew ?_ | with_reducible refine Gr.drewN ?_ _))⟩
              case measure => simp [intOf]; omega
          · have HF := Lib.hid (show m1 = m0 by rw [HE.out, lm_hi _ _ (by omega)])
            have g4 : decide (m0 < 0) = false := decide_eq_false hm0
            by_cases e1 : s = 4
            · subst e1
              by_cases e2 : a ≤ 3142
              · have g3 : decide (3142 < x) = false := decide_eq_false (by omega)
                go_wp2_with (first | (go_at_call 108; refine (HX.out _).mono ?_; rintro e w' ⟨rfl, kk, os, rfl⟩) | (go_at_call 144; refine (HA.out _).mono ?_; rintro e w' ⟨rfl, rfl⟩))
                go_roundw
                case rel => exact ⟨j + 1 + 1, by go_num, by omega, by rw [HGE.out, HL1.out, HF.out], by rw [HB.out], hG.trans (by repeat (first | with_reducible exact Gr.refl _ | with_reducible refine Gr.alloc ?_ _ | with_reducible refine Gr.gr ?_ _ _ | with_reducible refine Gr.drew ?_ | with_reducible refine Gr.drewN ?_ _))⟩
                case measure => simp [intOf]; omega
              · have g2 : decide (a ≤ 3142) = false := decide_eq_false e2
                go_wp2_with (first | (go_at_call 108; refine (HX.out _).mono ?_; rintro e w' ⟨rfl, kk, os, rfl⟩) | (go_at_call 144; refine (HA.out _).mono ?_; rintro e w' ⟨rfl, rfl⟩))
                go_roundw
                case rel => exact ⟨j + 1 + 1, by go_num, by omega, by rw [HGE.out, HL1.out, HF.out], by rw [HB.out], hG.trans (by repeat (first | with_reducible exact Gr.refl _ | with_reducible refine Gr.alloc ?_ _ | with_reducible refine Gr.gr ?_ _ _ | with_reducible refine Gr.drew ?_ | with_reducible refine Gr.drewN ?_ _))⟩
                case measure => simp [intOf]; omega
            · have g1 : (s == 4) = false := by simpa using e1
              go_wp2_with (first | (go_at_call 108; refine (HX.out _).mono ?_; rintro e w' ⟨rfl, kk, os, rfl⟩) | (go_at_call 144; refine (HA.out _).mono ?_; rintro e w' ⟨rfl, rfl⟩))
              go_roundw
              case rel => exact ⟨j + 1 + 1, by go_num, by omega, by rw [HGE.out, HL1.out, HF.out], by rw [HB.out], hG.trans (by repeat (first | with_reducible exact Gr.refl _ | with_reducible refine Gr.alloc ?_ _ | with_reducible refine Gr.gr ?_ _ _ | with_reducible refine Gr.drew ?_ | with_reducible refine Gr.drewN ?_ _))⟩
              case measure => simp [intOf]; omega
    · have HF := Lib.hid (show L.take k = L from List.take_of_length_le (by omega))
      generalize hmm : leG (gapsL s l (L.take k)) = mm at *
      have HMM := Lib.hid hmm
      clear hmm
      generalize (if L.take k = [] then 0 else mdl s l (lst0 (L.take k))) = bb at *
      go_wp2
      go_ret
      exact ⟨ret_int (by rw [← HMM.out, HF.out]), hG⟩

set_option maxHeartbeats 2000000 in
theorem ld_spec (A : Option Addr) (n c : Nat) (zs : List P3) (s l : Int) (w : World) (hn : zs.length = n) (hN : n ≤ 16777216) (hA : Reads w w.heap.size A (cells3 zs)) :
    Calls Tryd.prog 20 #[.slice A n c, .int .i64 s, .int .i64 l] w fun e w' => e = .returned (.tuple #[.int .i64 (ldR s l zs).1, .int .i64 (ldR s l zs).2]) ∧ Below w.heap.size w w' := by
  have HG := Lib.hid (gd_spec A n c zs w hn hN hA)
  have HS := Lib.hid (fun W => isScale_spec s W)
  have HLn := Lib.hid (fun W => isLength_spec l W)
  rcases Bool.eq_false_or_eq_true (gd zs) with hv | hv
  rotate_left
  · have HC := Lib.hid (ldR_in s l zs hv)
    rw [hv] at HG
    clear hv hA hn
    go_enter Tryd.func20, Tryd.ntmps20
    go_wp2_with (go_at_call 90; refine (HG.out).mono ?_; rintro e w' ⟨rfl, kk, os, rfl⟩)
    ((try simp only [Exit.inBlock, Exit.then]); refine bodyPost_ret (v := .tuple #[.int .i64 0, .int .i64 1]) (by simp [results, Tryd.results20, go_sem]) rfl ?_)
    exact ⟨by rw [HC.out], Gr.below ⟨_, _, rfl⟩⟩
  rw [hv] at HG
  rcases sc_tf s with hs | hs
  rotate_left
  · have HC := Lib.hid (ldR_rg s l zs hv (by rw [hs]; rfl))
    rw [hs] at HS
    clear hv hA hn hs
    go_enter Tryd.func20, Tryd.ntmps20
    go_wp2_with (first | (go_at_call 90; refine (HG.out).mono ?_; rintro e w' ⟨rfl, kk, os, rfl⟩) | (go_at_call 77; refine (HS.out _).mono ?_; rintro e w' ⟨rfl, rfl⟩))
    ((try simp only [Exit.inBlock, Exit.then]); refine bodyPost_ret (v := .tuple #[.int .i64 0, .int .i64 2]) (by simp [results, Tryd.results20, go_sem]) rfl ?_)
    exact ⟨by rw [HC.out], Gr.below ⟨_, _, rfl⟩⟩
  rcases ln_tf l with hl | hl
  rotate_left
  · have HC := Lib.hid (ldR_rg s l zs hv (by rw [hs, hl]; rfl))
    rw [hs] at HS
    rw [hl] at HLn
    clear hv hA hn hs hl
    go_enter Tryd.func20, Tryd.ntmps20
    go_wp2_with (first | (go_at_call 90; refine (HG.out).mono ?_; rintro e w' ⟨rfl, kk, os, rfl⟩) | (go_at_call 77; refine (HS.out _).mono ?_; rintro e w' ⟨rfl, rfl⟩) | (go_at_call 78; refine (HLn.out _).mono ?_; rintro e w' ⟨rfl, rfl⟩))
    ((try simp only [Exit.inBlock, Exit.then]); refine bodyPost_ret (v := .tuple #[.int .i64 0, .int .i64 2]) (by simp [results, Tryd.results20, go_sem]) rfl ?_)
    exact ⟨by rw [HC.out], Gr.below ⟨_, _, rfl⟩⟩
  have h2 : (sc s && ln l) = true := by rw [hs, hl]; rfl
  have HF := Lib.hid (ldM_fold s l (mks zs))
  have HNO := Lib.hid (ldR_no s l zs hv h2)
  have HOK := Lib.hid (ldR_ok s l zs hv h2)
  obtain ⟨f0, f1, f2, f3⟩ := mks_facts hv
  have HM := Lib.hid (fun W hW => marks_row A n c zs w W hW hn hN hA hv)
  have HLe := Lib.hid (fun g cp W (hg : g < W.heap.size) hc => least_spec g cp (mks zs) s l W f3 hg hc f1 hs hl)
  rw [hs] at HS
  rw [hl] at HLn
  clear hv hA hn hs hl h2 f0 f1 f2
  generalize hL : (mks zs).length = len at *
  clear hL
  by_cases hneg : leG (gapsL s l (mks zs)) < 0
  · have HC := Lib.hid (HNO.out (by rw [HF.out]; exact hneg))
    generalize leG (gapsL s l (mks zs)) = mm at *
    go_enter Tryd.func20, Tryd.ntmps20
    go_wp2_with (first | (go_at_call 90; refine (HG.out).mono ?_; rintro e w' ⟨rfl, kk, os, rfl⟩) | (go_at_call 77; refine (HS.out _).mono ?_; rintro e w' ⟨rfl, rfl⟩) | (go_at_call 78; refine (HLn.out _).mono ?_; rintro e w' ⟨rfl, rfl⟩) | (go_at_call 92; refine (HM.out _ (by repeat (first | with_reducible exact Gr.refl _ | with_reducible refine Gr.alloc ?_ _ | with_reducible refine Gr.gr ?_ _ _ | with_reducible refine Gr.drew ?_ | with_reducible refine Gr.drewN ?_ _))).mono ?_; rintro e w2 ⟨g, cp, rfl, hg2, x0, HCS, HB⟩) | (go_at_call 91; refine (HLe.out _ _ _ hg2 HCS.out).mono ?_; rintro e w3 ⟨rfl, hg3⟩))
    ((try simp only [Exit.inBlock, Exit.then]); refine bodyPost_ret (v := .tuple #[.int .i64 0, .int .i64 4]) (by simp [results, Tryd.results20, go_sem]) rfl ?_)
    exact ⟨by rw [HC.out], HB.out.trans (hg3.below.mono HB.out.size)⟩
  · have HC := Lib.hid (HOK.out (by rw [HF.out]; exact hneg))
    rw [HF.out] at HC
    generalize leG (gapsL s l (mks zs)) = mm at *
    go_enter Tryd.func20, Tryd.ntmps20
    go_wp2_with (first | (go_at_call 90; refine (HG.out).mono ?_; rintro e w' ⟨rfl, kk, os, rfl⟩) | (go_at_call 77; refine (HS.out _).mono ?_; rintro e w' ⟨rfl, rfl⟩) | (go_at_call 78; refine (HLn.out _).mono ?_; rintro e w' ⟨rfl, rfl⟩) | (go_at_call 92; refine (HM.out _ (by repeat (first | with_reducible exact Gr.refl _ | with_reducible refine Gr.alloc ?_ _ | with_reducible refine Gr.gr ?_ _ _ | with_reducible refine Gr.drew ?_ | with_reducible refine Gr.drewN ?_ _))).mono ?_; rintro e w2 ⟨g, cp, rfl, hg2, x0, HCS, HB⟩) | (go_at_call 91; refine (HLe.out _ _ _ hg2 HCS.out).mono ?_; rintro e w3 ⟨rfl, hg3⟩))
    ((try simp only [Exit.inBlock, Exit.then]); refine bodyPost_ret (v := .tuple #[.int .i64 mm, .int .i64 0]) (by simp [results, Tryd.results20, go_sem]) rfl ?_)
    exact ⟨by rw [HC.out], HB.out.trans (hg3.below.mono HB.out.size)⟩
end Go.Proofs.YtggflladheemoaaDoor
