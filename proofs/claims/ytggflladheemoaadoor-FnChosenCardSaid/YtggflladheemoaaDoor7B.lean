/- Plain mathematics, merged. -/
import Derived.Test.YtggflladheemoaaDoorC07d
import Derived.Test.YtggflladheemoaaDoorMC
import Derived.Test.YtggflladheemoaaDoorC05d
import Derived.Test.YtggflladheemoaaDoorC05a
import Derived.Test.YtggflladheemoaaDoorC07b
import Derived.Test.YtggflladheemoaaDoorC07c
import Derived.Maps.AppendAt
import Derived.Test.YtggflladheemoaaDoorC05c
import Derived.Test.YtggflladheemoaaDoorLX
import Derived.Deep.RegionLaw
import Derived.Laws.AppendOwn
/- Contracts of chapter 7: the model's least distance. -/
namespace Go.Proofs.YtggflladheemoaaDoor
open Go.RowKit
set_option linter.unusedVariables false
set_option linter.unusedSimpArgs false

set_option maxHeartbeats 1000000 in
theorem middle_spec (s y l : Int) (w : World) (hs : sc s = true) (hl : ln l = true) (y1 : 1000 ≤ y) (y2 : y ≤ 9999) :
    Calls Tryd.prog 108 #[.int .i64 s, .int .i64 y, .int .i64 l] w fun e w' => e = .returned (.int .i64 (mdl s l y)) ∧ Gr w w' := by
  have hfg : fg y 0 = true := (fg_iff _ _).2 ⟨⟨y1, y2⟩, by omega⟩
  obtain ⟨p1, p2, p3, p4, -⟩ := pl_bd s y 0 l hfg hl
  obtain ⟨r1, r2, r3, r4⟩ := psn_bd s y 0 hfg
  obtain ⟨l1, l2⟩ := (ln_iff l).1 hl
  have HP := Lib.hid (fun W => position_spec s y 0 W hfg hs (lgb_ok hfg))
  have HC := Lib.hid (fun W => place_spec (psn s y 0).1 (psn s y 0).2 l W r1 r2 r3 r4 l1 l2)
  have HE := Lib.hid (show plc (psn s y 0).1 (psn s y 0).2 l = pl s y 0 l from rfl)
  rw [HE.out] at HC
  have HMd := Lib.hid (show mdl s l y = ((pl s y 0 l).1 + (pl s y 0 l).2).fdiv 2 from rfl)
  clear HE r1 r2 r3 r4
  generalize (psn s y 0).1 = q1 at *
  generalize (psn s y 0).2 = q2 at *
  generalize (pl s y 0 l).1 = a at *
  generalize (pl s y 0 l).2 = b at *
  have HF := Lib.hid (fun W => floor_any (a + b) 2 W (by omega) (by omega) (by omega) (by omega) (by omega))
  rw [← HMd.out] at HF
  go_enter Tryd.func108, Tryd.ntmps108
  go_wp2_with (first
    | (go_at_call 157; refine (HP.out _).mono ?_; rintro e w' ⟨rfl, kk, os, rfl⟩)
    | (go_at_call 156; refine (HC.out _).mono ?_; rintro e w' ⟨rfl, kk2, os2, rfl⟩)
    | (go_at_call 158; refine (HF.out _).mono ?_; rintro e w' ⟨rfl, rfl⟩))
  ((try simp only [Exit.inBlock, Exit.then]); refine bodyPost_ret (v := .int .i64 (mdl s l y)) (by simp [results, Tryd.results108, go_sem]) rfl ?_)
  exact ⟨rfl, (by repeat (first | with_reducible exact Gr.refl _ | with_reducible refine Gr.alloc ?_ _ | with_reducible refine Gr.gr ?_ _ _ | with_reducible refine Gr.drew ?_ | with_reducible refine Gr.drewN ?_ _))⟩

theorem mdl_bd (s y l : Int) (hl : ln l = true) (y1 : 1000 ≤ y) (y2 : y ≤ 9999) : -400000 ≤ mdl s l y ∧ mdl s l y ≤ 620000 := by
  obtain ⟨p1, p2, p3, p4, -⟩ := pl_bd s y 0 l ((fg_iff _ _).2 ⟨⟨y1, y2⟩, by omega⟩) hl
  unfold mdl
  rw [Int.fdiv_eq_ediv_of_nonneg _ (by omega)]
  omega
theorem take_snoc7 {L : List Int} {k : Nat} {x : Int} (h : L[k]? = some x) : L.take (k + 1) = L.take k ++ [x] := by
  obtain ⟨hk, e⟩ := List.getElem?_eq_some_iff.1 h
  rw [List.take_succ_eq_append_getElem hk, e]
theorem lmM7_snoc (s l : Int) (L : List Int) (y : Int) : (if L ++ [y] = [] then 0 else mdl s l (lst0 (L ++ [y]))) = mdl s l y := by rw [if_neg (by simp), lst0_snoc]

set_option maxHeartbeats 4000000 in
theorem least_spec (g cp : Nat) (L : List Int) (s l : Int) (w : World) (hlen : L.length ≤ 9000) (hg : g < w.heap.size) (hcs : ∀ k x, L[k]? = some x → w.cell? ⟨g, k, none⟩ = some (vi x)) (hM : ∀ x ∈ L, 1000 ≤ x ∧ x < 10000) (hs : sc s = true) (hl : ln l = true) :
    Calls Tryd.prog 91 #[.slice (some ⟨g, 0, none⟩) L.length cp, .int .i64 s, .int .i64 l] w fun e w' => e = .returned (.int .i64 (leG (gapsL s l L))) ∧ Gr w w' := by
  have HCS := Lib.hid hcs
  have HM := Lib.hid hM
  have HMI := Lib.hid (fun y W y1 y2 => middle_spec s y l W hs hl y1 y2)
  have HBD := Lib.hid (fun y y1 y2 => mdl_bd s y l hl y1 y2)
  have HT := Lib.hid (fun (k : Nat) (x : Int) (h : L[k]? = some x) => take_snoc7 h)
  clear hcs hM hs hl
  go_enter Tryd.func91, Tryd.ntmps91
  go_wp2
  go_loopw [7, 8, 9] (fun m b i wr => ∃ k : Nat, i = .int .i64 k ∧ k ≤ L.length ∧ m = .int .i64 (leG (gapsL s l (L.take k))) ∧ b = .int .i64 (if L.take k = [] then 0 else mdl s l (lst0 (L.take k))) ∧ Gr w wr) (fun _ _ i _ => L.length - (intOf i).toNat)
  case atStart => exact ⟨0, rfl, by omega, by simp [gapsL, leG], by simp, Gr.refl _⟩
  case round =>
    obtain ⟨k, rfl, hk, rfl, rfl, hG⟩ := hrel
    by_cases hlt : k < L.length
    · obtain ⟨x, hx⟩ := some_at (l := L) (k := k) hlt
      have hgl : g < wr.heap.size := Nat.lt_of_lt_of_le hg hG.below.size
      have y0 : wr.cell? ⟨g, k, none⟩ = some (vi x) := (hG.below.cell (p := ⟨g, k, none⟩) hg).trans (HCS.out k x hx)
      have H1 := Lib.hid (HT.out k x hx)
      obtain ⟨x1, x2⟩ := HM.out x (List.mem_of_getElem? hx)
      have HX := Lib.hid (fun W => HMI.out x W x1 (by omega))
      obtain ⟨d1, d2⟩ := HBD.out x x1 (by omega)
      have HLM := Lib.hid (lmM7_snoc s l (L.take k) x)
      cases k with
      | zero =>
        have HG := Lib.hid (show leG (gapsL s l (L.take 1)) = leG (gapsL s l (L.take 0)) by rw [show L.take 1 = L.take 0 ++ [x] from H1.out]; simp [gapsL, gapF])
        have HB := Lib.hid (show (if L.take 1 = [] then 0 else mdl s l (lst0 (L.take 1))) = mdl s l x by rw [show L.take 1 = L.take 0 ++ [x] from H1.out]; exact HLM.out)
        clear hx H1 HLM
        generalize leG (gapsL s l (L.take 0)) = m0 at *
        generalize (if L.take 0 = [] then 0 else mdl s l (lst0 (L.take 0))) = b0 at *
        generalize mdl s l x = md at *
        go_wp2_with (go_at_call 108; refine (HX.out _).mono ?_; rintro e w' ⟨rfl, kk, os, rfl⟩)
        go_roundw
        case rel => exact ⟨1, by go_num, by omega, by rw [HG.out], by rw [HB.out], hG.trans (by repeat (first | with_reducible exact Gr.refl _ | with_reducible refine Gr.alloc ?_ _ | with_reducible refine Gr.gr ?_ _ _ | with_reducible refine Gr.drew ?_ | with_reducible refine Gr.drewN ?_ _))⟩
        case measure => simp [intOf]; omega
      | succ j =>
        obtain ⟨a, ha⟩ := some_at (l := L) (k := j) (by omega)
        have yp : wr.cell? ⟨g, j, none⟩ = some (vi a) := (hG.below.cell (p := ⟨g, j, none⟩) hg).trans (HCS.out j a ha)
        obtain ⟨a1, a2⟩ := HM.out a (List.mem_of_getElem? ha)
        obtain ⟨d3, d4⟩ := HBD.out a a1 (by omega)
        have HTA := Lib.hid (HT.out j a ha)
        have hne : L.take (j + 1) ≠ [] := by rw [HTA.out]; simp
        have hla : lst0 (L.take (j + 1)) = a := by rw [HTA.out, lst0_snoc]
        have HGS := Lib.hid (gapsL_snoc s l hne x)
        rw [← H1.out, hla] at HGS
        have HB := Lib.hid (show (if L.take (j + 1 + 1) = [] then 0 else mdl s l (lst0 (L.take (j + 1 + 1)))) = mdl s l x by rw [H1.out]; exact HLM.out)
        have HB2 : (if L.take (j + 1) = [] then 0 else mdl s l (lst0 (L.take (j + 1)))) = mdl s l a := by rw [if_neg hne, hla]
        rw [HB2]
        have HG1 := Lib.hid (show gap1 s l a x = if cnts s a x = true then [((mdl s l x - mdl s l a).natAbs : Int)] else [] from rfl)
        have HA := Lib.hid (fun W => abs_any (mdl s l x - mdl s l a) W (by omega) (by omega))
        clear hx ha hne hla HB2 HLM
        generalize gapsL s l (L.take (j + 1)) = G0 at *
        generalize hg1 : gapsL s l (L.take (j + 1 + 1)) = G1 at *
        have HGE := Lib.hid hg1
        clear hg1
        generalize mdl s l x = md at *
        generalize mdl s l a = ma at *
        by_cases hc : s = 4 ∧ a ≤ 3142 ∧ 3142 < x
        · have HE := Lib.hid (show G1 = G0 by rw [HGS.out, HG1.out, if_neg (by unfold cnts; simp; omega), List.append_nil])
          obtain ⟨rfl, c2, c3⟩ := hc
          go_wp2_with (go_at_call 108; refine (HX.out _).mono ?_; rintro e w' ⟨rfl, kk, os, rfl⟩)
          go_roundw
          case rel => exact ⟨j + 1 + 1, by go_num, by omega, by rw [HGE.out, HE.out], by rw [HB.out], hG.trans (by repeat (first | with_reducible exact Gr.refl _ | with_reducible refine Gr.alloc ?_ _ | with_reducible refine Gr.gr ?_ _ _ | with_reducible refine Gr.drew ?_ | with_reducible refine Gr.drewN ?_ _))⟩
          case measure => simp [intOf]; omega
        · have HE := Lib.hid (show leG G1 = lm (leG G0) ((md - ma).natAbs : Int) by rw [HGS.out, HG1.out, if_pos (by unfold cnts; simp; omega), leG_snoc])
          have hb1 : ((md - ma).natAbs : Int) ≤ 2000000 := by omega
          generalize ((md - ma).natAbs : Int) = dd at *
          generalize leG G0 = m0 at *
          generalize hl1 : leG G1 = m1 at *
          have HL1 := Lib.hid hl1
          clear hl1
          by_cases hm0 : m0 < 0
          · have HF := Lib.hid (show m1 = dd by rw [HE.out, lm_lo _ _ (.inl hm0)])
            by_cases e1 : s = 4
            · subst e1
              by_cases e2 : a ≤ 3142
              · have g3 : decide (3142 < x) = false := decide_eq_false (by omega)
                go_wp2_with (first | (go_at_call 108; refine (HX.out _).mono ?_; rintro e w' ⟨rfl, kk, os, rfl⟩) | (go_at_call 144; refine (HA.out _).mono ?_; rintro e w' ⟨rfl, rfl⟩))
                go_roundw
                case rel => exact ⟨j + 1 + 1, by go_num, by omega, by rw [HGE.out, HL1.out, HF.out], by rw [HB.out], hG.trans (by repeat (first | with_reducible exact Gr.refl _ | with_reducible refine Gr.alloc ?_ _ | with_reducible refine Gr.gr ?_ _ _ | with_reducible refine Gr.drew ?_ | with_reducible refine Gr.drewN ?_ _))⟩
                case measure => simp [intOf]; omega
              · have g2 : decide (a ≤ 3142) = false := decide_eq_false e2
                go_wp2_with (first | (go_at_call 108; refine (HX.out _).mono ?_; rintro e w' ⟨rfl, kk, os, rfl⟩) | (go_at_call 144; refine (HA.out _).mono ?_; rintro e w' ⟨rfl, rfl⟩))
                go_roundw
                case rel => exact ⟨j + 1 + 1, by go_num, by omega, by rw [HGE.out, HL1.out, HF.out], by rw [HB.out], hG.trans (by repeat (first | with_reducible exact Gr.refl _ | with_reducible refine Gr.alloc ?_ _ | with_reducible refine Gr.gr ?_ _ _ | with_reducible refine Gr.drew ?_ | with_reducible refine Gr.drewN ?_ _))⟩
                case measure => simp [intOf]; omega
            · have g1 : (s == 4) = false := by simpa using e1
              go_wp2_with (first | (go_at_call 108; refine (HX.out _).mono ?_; rintro e w' ⟨rfl, kk, os, rfl⟩) | (go_at_call 144; refine (HA.out _).mono ?_; rintro e w' ⟨rfl, rfl⟩))
              go_roundw
              case rel => exact ⟨j + 1 + 1, by go_num, by omega, by rw [HGE.out, HL1.out, HF.out], by rw [HB.out], hG.trans (by repeat (first | with_reducible exact Gr.refl _ | with_reducible refine Gr.alloc ?_ _ | with_reducible refine Gr.gr ?_ _ _ | with_reducible refine Gr.drew ?_ | with_reducible refine Gr.drewN ?_ _))⟩
              case measure => simp [intOf]; omega
          by_cases hm1 : dd < m0
          · have HF := Lib.hid (show m1 = dd by rw [HE.out, lm_lo _ _ (.inr hm1)])
            by_cases e1 : s = 4
            · subst e1
              by_cases e2 : a ≤ 3142
              · have g3 : decide (3142 < x) = false := decide_eq_false (by omega)
                go_wp2_with (first | (go_at_call 108; refine (HX.out _).mono ?_; rintro e w' ⟨rfl, kk, os, rfl⟩) | (go_at_call 144; refine (HA.out _).mono ?_; rintro e w' ⟨rfl, rfl⟩))
                go_roundw
                case rel => exact ⟨j + 1 + 1, by go_num, by omega, by rw [HGE.out, HL1.out, HF.out], by rw [HB.out], hG.trans (by repeat (first | with_reducible exact Gr.refl _ | with_reducible refine Gr.alloc ?_ _ | with_reducible refine Gr.gr ?_ _ _ | with_reducible refine Gr.drew ?_ | with_reducible refine Gr.drewN ?_ _))⟩
                case measure => simp [intOf]; omega
              · have g2 : decide (a ≤ 3142) = false := decide_eq_false e2
                go_wp2_with (first | (go_at_call 108; refine (HX.out _).mono ?_; rintro e w' ⟨rfl, kk, os, rfl⟩) | (go_at_call 144; refine (HA.out _).mono ?_; rintro e w' ⟨rfl, rfl⟩))
                go_roundw
                case rel => exact ⟨j + 1 + 1, by go_num, by omega, by rw [HGE.out, HL1.out, HF.out], by rw [HB.out], hG.trans (by repeat (first | with_reducible exact Gr.refl _ | with_reducible refine Gr.alloc ?_ _ | with_reducible refine Gr.gr ?_ _ _ | with_reducible refine Gr.drew ?_ | with_reducible refine Gr.drewN ?_ _))⟩
                case measure => simp [intOf]; omega
            · have g1 : (s == 4) = false := by simpa using e1
              go_wp2_with (first | (go_at_call 108; refine (HX.out _).mono ?_; rintro e w' ⟨rfl, kk, os, rfl⟩) | (go_at_call 144; refine (HA.out _).mono ?_; rintro e w' ⟨rfl, rfl⟩))
              go_roundw
              case rel => exact ⟨j + 1 + 1, by go_num, by omega, by rw [HGE.out, HL1.out, HF.out], by rw [HB.out], hG.trans (by repeat (first | with_reducible exact Gr.refl _ | with_reducible refine Gr.alloc ?_ _ | with_reducible refine Gr.gr ?_ _ _ | with_reducible refine Gr.drew ?_ | with_reducible refine Gr.drewN ?_ _))⟩
              case measure => simp [intOf]; omega
          · have HF := Lib.hid (show m1 = m0 by rw [HE.out, lm_hi _ _ (by omega)])
            have g4 : decide (m0 < 0) = false := decide_eq_false hm0
            by_cases e1 : s = 4
            · subst e1
              by_cases e2 : a ≤ 3142
              · have g3 : decide (3142 < x) = false := decide_eq_false (by omega)
                go_wp2_with (first | (go_at_call 108; refine (HX.out _).mono ?_; rintro e w' ⟨rfl, kk, os, rfl⟩) | (go_at_call 144; refine (HA.out _).mono ?_; rintro e w' ⟨rfl, rfl⟩))
                go_roundw
                case rel => exact ⟨j + 1 + 1, by go_num, by omega, by rw [HGE.out, HL1.out, HF.out], by rw [HB.out], hG.trans (by repeat (first | with_reducible exact Gr.refl _ | with_reducible refine Gr.alloc ?_ _ | with_reducible refine Gr.gr ?_ _ _ | with_reducible refine Gr.drew ?_ | with_reducible refine Gr.drewN ?_ _))⟩
                case measure => simp [intOf]; omega
              · have g2 : decide (a ≤ 3142) = false := decide_eq_false e2
                go_wp2_with (first | (go_at_call 108; refine (HX.out _).mono ?_; rintro e w' ⟨rfl, kk, os, rfl⟩) | (go_at_call 144; refine (HA.out _).mono ?_; rintro e w' ⟨rfl, rfl⟩))
                go_roundw
                case rel => exact ⟨j + 1 + 1, by go_num, by omega, by rw [HGE.out, HL1.out, HF.out], by rw [HB.out], hG.trans (by repeat (first | with_reducible exact Gr.refl _ | with_reducible refine Gr.alloc ?_ _ | with_reducible refine Gr.gr ?_ _ _ | with_reducible refine Gr.drew ?_ | with_reducible refine Gr.drewN ?_ _))⟩
                case measure => simp [intOf]; omega
            · have g1 : (s == 4) = false := by simpa using e1
              go_wp2_with (first | (go_at_call 108; refine (HX.out _).mono ?_; rintro e w' ⟨rfl, kk, os, rfl⟩) | (go_at_call 144; refine (HA.out _).mono ?_; rintro e w' ⟨rfl, rfl⟩))
              go_roundw
              case rel => exact ⟨j + 1 + 1, by go_num, by omega, by rw [HGE.out, HL1.out, HF.out], by rw [HB.out], hG.trans (by repeat (first | with_reducible exact Gr.refl _ | with_reducible refine Gr.alloc ?_ _ | with_reducible refine Gr.gr ?_ _ _ | with_reducible refine Gr.drew ?_ | with_reducible refine Gr.drewN ?_ _))⟩
              case measure => simp [intOf]; omega
    · have HF := Lib.hid (show L.take k = L from List.take_of_length_le (by omega))
      generalize hmm : leG (gapsL s l (L.take k)) = mm at *
      have HMM := Lib.hid hmm
      clear hmm
      generalize (if L.take k = [] then 0 else mdl s l (lst0 (L.take k))) = bb at *
      go_wp2
      go_ret
      exact ⟨ret_int (by rw [← HMM.out, HF.out]), hG⟩

set_option maxHeartbeats 2000000 in
theorem ld_spec (A : Option Addr) (n c : Nat) (zs : List P3) (s l : Int) (w : World) (hn : zs.length = n) (hN : n ≤ 16777216) (hA : Reads w w.heap.size A (cells3 zs)) :
    Calls Tryd.prog 20 #[.slice A n c, .int .i64 s, .int .i64 l] w fun e w' => e = .returned (.tuple #[.int .i64 (ldR s l zs).1, .int .i64 (ldR s l zs).2]) ∧ Below w.heap.size w w' := by
  have HG := Lib.hid (gd_spec A n c zs w hn hN hA)
  have HS := Lib.hid (fun W => isScale_spec s W)
  have HLn := Lib.hid (fun W => isLength_spec l W)
  rcases Bool.eq_false_or_eq_true (gd zs) with hv | hv
  rotate_left
  · have HC := Lib.hid (ldR_in s l zs hv)
    rw [hv] at HG
    clear hv hA hn
    go_enter Tryd.func20, Tryd.ntmps20
    go_wp2_with (go_at_call 90; refine (HG.out).mono ?_; rintro e w' ⟨rfl, kk, os, rfl⟩)
    ((try simp only [Exit.inBlock, Exit.then]); refine bodyPost_ret (v := .tuple #[.int .i64 0, .int .i64 1]) (by simp [results, Tryd.results20, go_sem]) rfl ?_)
    exact ⟨by rw [HC.out], Gr.below ⟨_, _, rfl⟩⟩
  rw [hv] at HG
  rcases sc_tf s with hs | hs
  rotate_left
  · have HC := Lib.hid (ldR_rg s l zs hv (by rw [hs]; rfl))
    rw [hs] at HS
    clear hv hA hn hs
    go_enter Tryd.func20, Tryd.ntmps20
    go_wp2_with (first | (go_at_call 90; refine (HG.out).mono ?_; rintro e w' ⟨rfl, kk, os, rfl⟩) | (go_at_call 77; refine (HS.out _).mono ?_; rintro e w' ⟨rfl, rfl⟩))
    ((try simp only [Exit.inBlock, Exit.then]); refine bodyPost_ret (v := .tuple #[.int .i64 0, .int .i64 2]) (by simp [results, Tryd.results20, go_sem]) rfl ?_)
    exact ⟨by rw [HC.out], Gr.below ⟨_, _, rfl⟩⟩
  rcases ln_tf l with hl | hl
  rotate_left
  · have HC := Lib.hid (ldR_rg s l zs hv (by rw [hs, hl]; rfl))
    rw [hs] at HS
    rw [hl] at HLn
    clear hv hA hn hs hl
    go_enter Tryd.func20, Tryd.ntmps20
    go_wp2_with (first | (go_at_call 90; refine (HG.out).mono ?_; rintro e w' ⟨rfl, kk, os, rfl⟩) | (go_at_call 77; refine (HS.out _).mono ?_; rintro e w' ⟨rfl, rfl⟩) | (go_at_call 78; refine (HLn.out _).mono ?_; rintro e w' ⟨rfl, rfl⟩))
    ((try simp only [Exit.inBlock, Exit.then]); refine bodyPost_ret (v := .tuple #[.int .i64 0, .int .i64 2]) (by simp [results, Tryd.results20, go_sem]) rfl ?_)
    exact ⟨by rw [HC.out], Gr.below ⟨_, _, rfl⟩⟩
  have h2 : (sc s && ln l) = true := by rw [hs, hl]; rfl
  have HF := Lib.hid (ldM_fold s l (mks zs))
  have HNO := Lib.hid (ldR_no s l zs hv h2)
  have HOK := Lib.hid (ldR_ok s l zs hv h2)
  obtain ⟨f0, f1, f2, f3⟩ := mks_facts hv
  have HM := Lib.hid (fun W hW => marks_row A n c zs w W hW hn hN hA hv)
  have HLe := Lib.hid (fun g cp W (hg : g < W.heap.size) hc => least_spec g cp (mks zs) s l W f3 hg hc f1 hs hl)
  rw [hs] at HS
  rw [hl] at HLn
  clear hv hA hn hs hl h2 f0 f1 f2
  generalize hL : (mks zs).length = len at *
  clear hL
  by_cases hneg : leG (gapsL s l (mks zs)) < 0
  · have HC := Lib.hid (HNO.out (by rw [HF.out]; exact hneg))
    generalize leG (gapsL s l (mks zs)) = mm at *
    go_enter Tryd.func20, Tryd.ntmps20
    go_wp2_with (first | (go_at_call 90; refine (HG.out).mono ?_; rintro e w' ⟨rfl, kk, os, rfl⟩) | (go_at_call 77; refine (HS.out _).mono ?_; rintro e w' ⟨rfl, rfl⟩) | (go_at_call 78; refine (HLn.out _).mono ?_; rintro e w' ⟨rfl, rfl⟩) | (go_at_call 92; refine (HM.out _ (by repeat (first | with_reducible exact Gr.refl _ | with_reducible refine Gr.alloc ?_ _ | with_reducible refine Gr.gr ?_ _ _ | with_reducible refine Gr.drew ?_ | with_reducible refine Gr.drewN ?_ _))).mono ?_; rintro e w2 ⟨g, cp, rfl, hg2, x0, HCS, HB⟩) | (go_at_call 91; refine (HLe.out _ _ _ hg2 HCS.out).mono ?_; rintro e w3 ⟨rfl, hg3⟩))
    ((try simp only [Exit.inBlock, Exit.then]); refine bodyPost_ret (v := .tuple #[.int .i64 0, .int .i64 4]) (by simp [results, Tryd.results20, go_sem]) rfl ?_)
    exact ⟨by rw [HC.out], HB.out.trans (hg3.below.mono HB.out.size)⟩
  · have HC := Lib.hid (HOK.out (by rw [HF.out]; exact hneg))
    rw [HF.out] at HC
    generalize leG (gapsL s l (mks zs)) = mm at *
    go_enter Tryd.func20, Tryd.ntmps20
    go_wp2_with (first | (go_at_call 90; refine (HG.out).mono ?_; rintro e w' ⟨rfl, kk, os, rfl⟩) | (go_at_call 77; refine (HS.out _).mono ?_; rintro e w' ⟨rfl, rfl⟩) | (go_at_call 78; refine (HLn.out _).mono ?_; rintro e w' ⟨rfl, rfl⟩) | (go_at_call 92; refine (HM.out _ (by repeat (first | with_reducible exact Gr.refl _ | with_reducible refine Gr.alloc ?_ _ | with_reducible refine Gr.gr ?_ _ _ | with_reducible refine Gr.drew ?_ | with_reducible refine Gr.drewN ?_ _))).mono ?_; rintro e w2 ⟨g, cp, rfl, hg2, x0, HCS, HB⟩) | (go_at_call 91; refine (HLe.out _ _ _ hg2 HCS.out).mono ?_; rintro e w3 ⟨rfl, hg3⟩))
    ((try simp only [Exit.inBlock, Exit.then]); refine bodyPost_ret (v := .tuple #[.int .i64 mm, .int .i64 0]) (by simp [results, Tryd.results20, go_sem]) rfl ?_)
    exact ⟨by rw [HC.out], HB.out.trans (hg3.below.mono HB.out.size)⟩
end Go.Proofs.YtggflladheemoaaDoor

/- Contracts of chapter 7: the model's finest step. -/
namespace Go.Proofs.YtggflladheemoaaDoor
open Go.RowKit
set_option linter.unusedVariables false
set_option linter.unusedSimpArgs false

def stpObj : Obj := .cells #[.int .i64 1, .int .i64 2, .int .i64 5, .int .i64 10, .int .i64 20, .int .i64 50, .int .i64 100, .int .i64 200, .int .i64 500] 2
theorem steps_spec (w : World) :
    Calls Tryd.prog 140 #[] w fun e w' => e = .returned (.slice (some ⟨w.heap.size, 0, none⟩) 9 9) ∧ w' = w.alloc stpObj := by
  go_enter Tryd.func140, Tryd.ntmps140
  go_wp2
  go_ret
  exact ⟨rfl, rfl⟩
theorem stpObj_cell (w : World) (i : Nat) (x : Int) (h : usual[i]? = some x) : (w.alloc stpObj).cell? ⟨w.heap.size, i, none⟩ = some (.int .i64 x) := by
  have hi : i < 9 := by
    obtain ⟨hk, -⟩ := List.getElem?_eq_some_iff.1 h
    exact hk
  have hr := cell_of_row (w.alloc stpObj) w.heap.size i _ _ _ (World.alloc_heap_new w stpObj)
  rw [hr]
  rcases (show i = 0 ∨ i = 1 ∨ i = 2 ∨ i = 3 ∨ i = 4 ∨ i = 5 ∨ i = 6 ∨ i = 7 ∨ i = 8 by omega) with rfl | rfl | rfl | rfl | rfl | rfl | rfl | rfl | rfl <;> (simp [usual] at h; subst h; rfl)
theorem find_at {p : Int → Bool} {k : Nat} {x : Int} (h : usual[k]? = some x) (h0 : (usual.take k).find? p = none) :
    (p x = true → usual.find? p = some x) ∧ (p x = false → (usual.take (k + 1)).find? p = none) := by
  obtain ⟨hk, e⟩ := List.getElem?_eq_some_iff.1 h
  have e4 : usual = usual.take k ++ (x :: usual.drop (k + 1)) := by rw [← e, ← List.drop_eq_getElem_cons hk, List.take_append_drop]
  refine ⟨fun hp => ?_, fun hp => ?_⟩
  · rw [e4, List.find?_append, h0]
    simp [hp]
  · rw [List.take_succ_eq_append_getElem hk, e, List.find?_append, h0]
    simp [hp]

set_option maxRecDepth 100000 in
set_option maxHeartbeats 4000000 in
theorem fin_spec (s l f t lim : Int) (w : World) (hs : sc s = true) (hl : ln l = true) (h1 : 1000 ≤ f) (h2 : f < t) (h3 : t ≤ 10000) :
    Calls Tryd.prog 80 #[.int .i64 s, .int .i64 l, .int .i64 f, .int .i64 t, .int .i64 lim] w fun e w' => e = .returned (.int .i64 (fnS s l f t lim)) ∧ Below w.heap.size w w' := by
  have HLe := Lib.hid (fun g cp L W h4 hg hc hM => least_spec g cp L s l W h4 hg hc hM hs hl)
  have HCELL := Lib.hid (fun i x h => stpObj_cell w i x h)
  have HPOS := Lib.hid usual_pos
  have HFN := Lib.hid (show fnS s l f t lim = (usual.find? (stOk s l f t lim)).getD 0 from rfl)
  have HFA := Lib.hid (fun (k : Nat) (x : Int) (h : usual[k]? = some x) h0 => find_at (p := stOk s l f t lim) h h0)
  have HUL : Hid (usual.length = 9) := Lib.hid rfl
  obtain ⟨i0, hi, hz0, hz1, hz2⟩ := info_parts info_i7
  have hBW : Below w.heap.size w (w.alloc stpObj) := (Below.refl _ _).alloc (Nat.le_refl _) _
  have hszW : (w.alloc stpObj).heap.size = w.heap.size + 1 := by simp
  go_enter Tryd.func80, Tryd.ntmps80
  go_wp2_with (go_at_call 140; refine (steps_spec _).mono ?_; rintro e w' ⟨rfl, rfl⟩)
  generalize w.alloc stpObj = w1 at *
  obtain ⟨gs, egs⟩ : ∃ gs, w.heap.size = gs := ⟨_, rfl⟩
  rw [egs] at hszW HCELL ⊢
  have HBW := Lib.hid hBW
  have HEG := Lib.hid egs
  clear hBW egs
  go_loopw [12] (fun i wr => ∃ k : Nat, i = .int .i64 k ∧ k ≤ 9 ∧ Hid ((usual.take k).find? (stOk s l f t lim) = none) ∧ Below w1.heap.size w1 wr) (fun i _ => 9 - (intOf i).toNat)
  case atStart => exact ⟨0, rfl, by omega, Lib.hid (by simp), Below.refl _ _⟩
  case round =>
    obtain ⟨k, rfl, hk, HN, hb⟩ := hrel
    by_cases hlt : k < 9
    · have hk9 : decide ((k : Int) < 9) = true := decide_eq_true (by omega)
      obtain ⟨st, hst⟩ := some_at (l := usual) (k := k) (by rw [HUL.out]; exact hlt)
      obtain ⟨st1, st2⟩ := HPOS.out st (List.mem_of_getElem? hst)
      have HA := Lib.hid (HFA.out k st hst HN.out)
      have HST := Lib.hid (show stOk s l f t lim st = (decide ((t - f).tmod st = 0) && decide (ldM s l (prM (f, t, st)) < 0 ∨ lim ≤ ldM s l (prM (f, t, st)))) from rfl)
      have HC := Lib.hid (HCELL.out k st hst)
      have y0 : wr.cell? ⟨gs, k, none⟩ = some (.int .i64 st) := (hb.cell (p := ⟨gs, k, none⟩) (show gs < w1.heap.size by omega)).trans HC.out
      have hz0' : (st == 0) = false := by simp; omega
      have hw1 : IntKind.i64.wrap (t - f) = t - f := IntWalk.i64_in _ (by omega)
      have hb1 := Int.emod_lt_of_pos (t - f) (show 0 < st by omega)
      have hb0 := Int.emod_nonneg (t - f) (show st ≠ 0 by omega)
      have he : (t - f).tmod st = (t - f) % st := Int.tmod_eq_emod_of_nonneg (by omega)
      clear hst
      by_cases hq : (t - f) % st = 0
      rotate_left
      · have HQ := Lib.hid (HA.out.2 (by rw [HST.out, he, decide_eq_false hq]; rfl))
        have q5 : ((t - f) % st != 0) = true := by simpa using hq
        clear he
        go_wp2
        go_roundw
        case rel => exact ⟨k + 1, by go_num, by omega, HQ, hb⟩
        case measure => simp [intOf]; omega
      have q5 : ((t - f) % st != 0) = false := by simpa using hq
      have hpt : ptOk f (f, t, st) = true := (ptOk_iff _ _).2 ⟨rfl, show f + 1 ≤ t by omega, h3, st1, by rw [← he] at hq; exact hq⟩
      rw [he, decide_eq_true hq, Bool.true_and] at HST
      obtain ⟨e1, e2⟩ := prN_is hpt
      have HMEM := Lib.hid (fun x (hx : x ∈ prM (f, t, st)) => show 1000 ≤ x ∧ x < 10000 by
        have := (mem_prM hpt x).1 hx
        simp only at this
        omega)
      have HLN := Lib.hid (prM_len (f, t, st))
      have HALL := Lib.hid (frs_all (f, t, st))
      simp only at e1
      have hNl : (prN (f, t, st) : Int) ≤ 9000 := by
        have hm := Int.mul_le_mul_of_nonneg_right (show (1 : Int) ≤ st by omega) (show (0 : Int) ≤ (prN (f, t, st) : Int) by omega)
        omega
      have HE1 := Lib.hid e1
      have HB := Lib.hid hb
      have hbs := hb.size
      have O1 : Lst (wr.alloc (.cells #[] 2)) w1.heap.size (.slice (some ⟨wr.heap.size, 0, none⟩) 0 0) [] := World.ownsRow_made wr #[] 0 hbs (Nat.zero_le _) rfl
      have B1 : Below w1.heap.size w1 (wr.alloc (.cells #[] 2)) := hb.alloc hbs _
      clear e1 hb he hpt hq
      generalize hNp : prN (f, t, st) = N at *
      have HNp := Lib.hid hNp
      clear hNp
      go_wp2
      go_loopw [13, 14] (fun v m wr2 => ∃ j : Nat, m = .int .i64 (f + st * (j : Int)) ∧ j ≤ N ∧ Hid (Lst wr2 w1.heap.size v (frs (f, t, st) j)) ∧ Below w1.heap.size w1 wr2) (fun _ m _ => (t - intOf m).toNat)
      case atStart => exact ⟨0, by simp, by omega, Lib.hid (by simpa [frs] using O1), B1⟩
      case round =>
        obtain ⟨j, rfl, hj, hown2, hb2⟩ := hrel
        have y1 : wr.cell? ⟨gs, k, none⟩ = some (.int .i64 st) := (hb2.cell (p := ⟨gs, k, none⟩) (show gs < w1.heap.size by omega)).trans HC.out
        have hbs2 := hb2.size
        have hl2 : (frs (f, t, st) j).length ≤ 9000 := by rw [frs_len]; omega
        clear O1 B1
        by_cases hltj : j < N
        · have hm := Int.mul_le_mul_of_nonneg_left (show ((j : Int) + 1) ≤ (N : Int) by omega) (show 0 ≤ st by omega)
          rw [Int.mul_add, Int.mul_one] at hm
          have h0 : 0 ≤ st * (j : Int) := Int.mul_nonneg (by omega) (by omega)
          have hq2 : f + st * (j : Int) + st ≤ t := by have := HE1.out; omega
          have HS := Lib.hid (frs_succ (f, t, st) j)
          have HJ := Lib.hid (show f + st * ((j + 1 : Nat) : Int) = f + st * (j : Int) + st by rw [Int.natCast_add, Int.mul_add]; simp; omega)
          have HB2 := Lib.hid hb2
          simp only at HS
          generalize hxs : frs (f, t, st) j = xs at *
          have HXS := Lib.hid hxs
          generalize st * (j : Int) = q at *
          clear hm hb2 hxs
          go_wp2_with (at_builtin; refine wpList_append_own _ rfl _ _ 52 rfl w1.heap.size 2 i0 (.int .i64 0) 1 8 Tryd.underlying52 hi hz0 hz1 hz2 rfl (by decide) _ _ _ rfl (hown2.out.alloc _) ⟨wr.heap.size, 0, none⟩ 1 1 [.int .i64 (f + q)] rfl rfl (one_cell_new _ _ _) (by simp [Value.oneCell']) (by unfold maxLen; omega) (by omega) (by simp; omega) ?_; intro v' w4 hown' hgrow _; obtain ⟨hA1, hA2⟩ := Lst.app (x := f + q) HB2.out hbs2 (hown2.out.alloc _) (by simpa using hown') hgrow; have y3 := (hA2.cell (p := ⟨gs, k, none⟩) (show gs < w1.heap.size by omega)).trans HC.out; have HA1 := Lib.hid hA1; have HA2 := Lib.hid hA2; clear hA1 hA2 hown' hgrow)
          go_roundw
          case rel => exact ⟨j + 1, by rw [HJ.out], by omega, by rw [HS.out]; exact HA1, HA2.out⟩
          case measure => simp [intOf]; omega
        · obtain rfl : j = N := by omega
          have hq2 : ¬ f + st * (j : Int) < t := by have := HE1.out; omega
          rw [HALL.out] at hown2
          have hpl : 0 < (prM (f, t, st)).length := by rw [HLN.out]; omega
          have hpl2 : (prM (f, t, st)).length ≤ 9000 := by rw [HLN.out]; omega
          obtain ⟨g2, c2, rfl, hg3, hg4, hcs⟩ := Lst.form hown2.out hpl
          have HLE := Lib.hid (HLe.out g2 c2 (prM (f, t, st)) wr hpl2 hg4 hcs HMEM.out)
          have HB2 := Lib.hid hb2
          rw [ldM_fold] at HST
          clear hb2 hcs hpl hpl2 hl2
          generalize (prM (f, t, st)).length = len at *
          generalize leG (gapsL s l (prM (f, t, st))) = m0 at *
          have hgsl : gs < wr.heap.size := by omega
          by_cases hm0 : m0 < 0
          · have HQ := Lib.hid (HA.out.1 (by rw [HST.out]; exact decide_eq_true (.inl hm0)))
            go_wp2_with (go_at_call 91; refine (HLE.out).mono ?_; rintro e w3 ⟨rfl, kk, os, rfl⟩)
            go_ret
            exact ⟨ret_int (by rw [HFN.out, HQ.out]; rfl), HBW.out.trans ((HB2.out.trans ((Gr.below ⟨kk, os, rfl⟩).mono hbs2)).mono HBW.out.size)⟩
          by_cases hm1 : lim ≤ m0
          · have HQ := Lib.hid (HA.out.1 (by rw [HST.out]; exact decide_eq_true (.inr hm1)))
            have g4 : decide (m0 < 0) = false := decide_eq_false hm0
            go_wp2_with (go_at_call 91; refine (HLE.out).mono ?_; rintro e w3 ⟨rfl, kk, os, rfl⟩)
            go_ret
            exact ⟨ret_int (by rw [HFN.out, HQ.out]; rfl), HBW.out.trans ((HB2.out.trans ((Gr.below ⟨kk, os, rfl⟩).mono hbs2)).mono HBW.out.size)⟩
          · have HQ := Lib.hid (HA.out.2 (by rw [HST.out]; exact decide_eq_false (by omega)))
            have g4 : decide (m0 < 0) = false := decide_eq_false hm0
            go_wp2_with (go_at_call 91; refine (HLE.out).mono ?_; rintro e w3 ⟨rfl, kk, os, rfl⟩)
            go_roundw
            case rel => exact ⟨k + 1, by go_num, by omega, HQ, HB2.out.trans ((Gr.below ⟨kk, os, rfl⟩).mono hbs2)⟩
            case measure => simp [intOf]; omega
    · obtain rfl : k = 9 := by omega
      have HQ := Lib.hid (show fnS s l f t lim = 0 by rw [HFN.out]; have := HN.out; rw [show usual.take 9 = usual from rfl] at this; rw [this]; rfl)
      go_wp2
      go_ret
      exact ⟨ret_int HQ.out.symm, HBW.out.trans (hb.mono HBW.out.size)⟩
end Go.Proofs.YtggflladheemoaaDoor

/- Contracts of chapter 7: the chosen graduation, in the model. -/
namespace Go.Proofs.YtggflladheemoaaDoor
open Go.RowKit
set_option linter.unusedVariables false
set_option linter.unusedSimpArgs false

theorem info_part : (Tryd.prog.info? 39).map (fun i => (i.zero, i.size, i.bytes)) = some (some (.agg #[.int .i64 0, .int .i64 0, .int .i64 0]), 3, 24) := by kernel_rfl
/-- What is answered: the chosen graduation, or nothing. -/
def coL (s l lim : Int) : List P3 := if chC s l lim = 0 then chG s l lim else []
theorem coL_ok {s l lim : Int} (h : chC s l lim = 0) : coL s l lim = chG s l lim := if_pos h
theorem coL_no {s l lim : Int} (h : chC s l lim ≠ 0) : coL s l lim = [] := if_neg h
theorem chC_rg {s l lim : Int} (h : okC s l lim = false) : chC s l lim = 2 ∧ coL s l lim = [] := by
  have e : chC s l lim = 2 := if_pos h
  exact ⟨e, coL_no (by omega)⟩
/-- The parts' ends, by number. -/
def cut4 : List Int := [1000, 2000, 5000, 10000]
theorem chC_no {s l lim : Int} (h : okC s l lim = true) (h0 : fnS s l 1000 2000 lim = 0 ∨ fnS s l 2000 5000 lim = 0 ∨ fnS s l 5000 10000 lim = 0) : chC s l lim = 4 ∧ coL s l lim = [] := by
  have e : chC s l lim = 4 := by unfold chC; rw [if_neg (by rw [h]; simp), if_pos h0]
  exact ⟨e, coL_no (by omega)⟩
theorem chC_yes {s l lim : Int} (h : okC s l lim = true) (h1 : fnS s l 1000 2000 lim ≠ 0) (h2 : fnS s l 2000 5000 lim ≠ 0) (h3 : fnS s l 5000 10000 lim ≠ 0) : chC s l lim = 0 ∧ coL s l lim = chG s l lim := by
  have e : chC s l lim = 0 := by unfold chC; rw [if_neg (by rw [h]; simp), if_neg (by intro h4; rcases h4 with h4 | h4 | h4; exact h1 h4; exact h2 h4; exact h3 h4)]
  exact ⟨e, coL_ok e⟩

/-- append to a row of the call's own, as one step of a region that draws. -/
theorem step_append_own {P : Program} {ops : Array Oper} {o : Oper} {a : Act} {w : World} {K : Act → World → Prop} {Q : Exit → Act → World → Prop} {E : Prop} (hgd : o.guard = none) (s x : Operand) (t : TypeId)
    (ho : o.op = .call { callee := .builtin .append, args := #[s, x], argTypes := #[t, t] })
    (base : Nat) (e : TypeId) (i : TypeInfo) (z : Value) (size bytes : Nat) (ht : P.underlying t = some (.slice e)) (hi : P.info? e = some i) (hz : i.zero = some z)
    (hsize : i.size = size) (hby : i.bytes = bytes) (hzs : z.cells.size = size) (hsz : 0 < size)
    (v : Value) (n : Nat) (xs : List Value) (hs : a.eval s = v) (hown : w.ownsRow base e size v n xs)
    (ad : Addr) (m c : Nat) (news : List Value) (hx : a.eval x = .slice (some ad) m c) (hl : news.length = m * size) (hnews : ∀ j u, news[j]? = some u → w.cell? (ad.add j) = some u) (h1 : ∀ u ∈ news, u.oneCell' = true)
    (h63 : n + m ≤ maxLen) (hbytes : (n + m) * bytes ≤ 140737488355328) (hbase : base ≤ w.heap.size)
    (h : ∀ v' w', w'.ownsRow base e size v' (n + m) (xs ++ news) → w.grownBy w' v.ownBlock → (v' = .slice none 0 0 ↔ v = .slice none 0 0 ∧ m = 0) → K (a.put o.dst v') w') :
    if Region.wanted o (yielded ops a.tmps) = true then Oper.wp P o a w K Q else E := by
  have hw : Region.wanted o (yielded ops a.tmps) = true := by simp [Region.wanted, hgd]
  rw [if_pos hw]
  exact wp_append_own w s x t ho base e i z size bytes ht hi hz hsize hby hzs hsz v n xs hs hown ad m c news hx hl hnews h1 h63 hbytes hbase h

/-- One round: a step was found, the part is appended. -/
theorem round_app {T : TypeId} {w1 w2 w3 : World} {S : Nat} {v v' : Value} {xs : List P3} {a b c : Int} {o : Obj} (hb : Below S w1 w2) (hB : S ≤ w2.heap.size) (hx : Lst3 T w2 S v xs) (h' : w3.ownsRow S T 3 v' (xs.length + 1) (cells3 xs ++ [vi a, vi b, vi c])) (hg : (w2.alloc o).grownBy w3 v.ownBlock) :
    Lst3 T w3 S v' (xs ++ [(a, b, c)]) ∧ Below S w1 w3 := Lst3.app hb hB (hx.alloc _) h' hg

set_option maxRecDepth 100000 in
set_option maxHeartbeats 8000000 in
theorem co_spec1 (s l lim : Int) (w : World) (hs : sc s = true) (hl : ln l = true) (hm : 0 ≤ lim ∧ lim ≤ 100000) :
    Calls Tryd.prog 14 #[.int .i64 s, .int .i64 l, .int .i64 lim] w fun e w' => (∃ v, e = .returned (.tuple #[v, .int .i64 (chC s l lim)]) ∧ Lst3 39 w' w.heap.size v (coL s l lim)) ∧ Below w.heap.size w w' := by
  have HS := Lib.hid (fun W => isScale_spec s W)
  have HLn := Lib.hid (fun W => isLength_spec l W)
  have HM := Lib.hid (fun W => in_any lim 0 100000 W)
  rw [hs] at HS
  rw [hl] at HLn
  rw [decide_eq_true hm] at HM
  have hok : okC s l lim = true := by unfold okC; rw [hs, hl, decide_eq_true hm]; rfl
  have HNO := Lib.hid (chC_no hok)
  have HYES := Lib.hid (chC_yes hok)
  have HF0 := Lib.hid (fun W => fin_spec s l 1000 2000 lim W hs hl (by omega) (by omega) (by omega))
  have HF1 := Lib.hid (fun W => fin_spec s l 2000 5000 lim W hs hl (by omega) (by omega) (by omega))
  have HF2 := Lib.hid (fun W => fin_spec s l 5000 10000 lim W hs hl (by omega) (by omega) (by omega))
  obtain ⟨i0, hi, hz0, hz1, hz2⟩ := info_parts info_part
  have HR : Hid (Row (w.alloc (.cells #[.int .i64 1000, .int .i64 2000, .int .i64 5000, .int .i64 10000] 2)) w.heap.size 2 (cut4.map vi)) := Lib.hid (Row.new w _ _)
  have HG : Hid (Below w.heap.size w (w.alloc (.cells #[.int .i64 1000, .int .i64 2000, .int .i64 5000, .int .i64 10000] 2))) := Lib.hid (Gr.below (by repeat (first | with_reducible exact Gr.refl _ | with_reducible refine Gr.alloc ?_ _ | with_reducible refine Gr.gr ?_ _ _ | with_reducible refine Gr.drew ?_ | with_reducible refine Gr.drewN ?_ _)))
  clear hs hl hok
  go_enter Tryd.func14, Tryd.ntmps14
  go_wp2_with (first | (go_at_call 77; refine (HS.out _).mono ?_; rintro e w' ⟨rfl, rfl⟩) | (go_at_call 78; refine (HLn.out _).mono ?_; rintro e w' ⟨rfl, rfl⟩) | (go_at_call 79; refine (HM.out _).mono ?_; rintro e w' ⟨rfl, rfl⟩))
  have hs1 : (w.alloc (.cells #[.int .i64 1000, .int .i64 2000, .int .i64 5000, .int .i64 10000] 2)).heap.size = w.heap.size + 1 := by simp
  generalize w.alloc (.cells #[.int .i64 1000, .int .i64 2000, .int .i64 5000, .int .i64 10000] 2) = w1 at *
  have HO1 := Lib.hid (Lst3.new 39 w1 w1.heap.size (Nat.le_refl _))
  have HB1 : Hid (Below w1.heap.size w1 (w1.alloc (.cells #[] 39))) := Lib.hid (Gr.below (by repeat (first | with_reducible exact Gr.refl _ | with_reducible refine Gr.alloc ?_ _ | with_reducible refine Gr.gr ?_ _ _ | with_reducible refine Gr.drew ?_ | with_reducible refine Gr.drewN ?_ _)))
  generalize w1.alloc (.cells #[] 39) = w2 at *
  rw [hs1] at HO1 HB1
  have hw1s : w.heap.size + 1 ≤ w1.heap.size := by omega
  have q0 : IntKind.i64.wrap 0 = 0 := by decide
  have q1 : IntKind.i64.wrap 1 = 1 := by decide
  have q2 : IntKind.i64.wrap 2 = 2 := by decide
  go_loopw [9, 10] (fun v i wr => ∃ k : Nat, k ≤ 3 ∧ i = .int .i64 ((k : Int) + 1) ∧ Lst3 39 wr (w.heap.size + 1) v ((chG s l lim).take k) ∧ Below (w.heap.size + 1) w1 wr ∧ Hid ((0 < k → fnS s l 1000 2000 lim ≠ 0) ∧ (1 < k → fnS s l 2000 5000 lim ≠ 0) ∧ (2 < k → fnS s l 5000 10000 lim ≠ 0))) (fun _ i _ => 4 - (intOf i).toNat)
  case atStart => exact ⟨0, by omega, rfl, HO1.out, HB1.out, Lib.hid ⟨fun h => absurd h (by omega), fun h => absurd h (by omega), fun h => absurd h (by omega)⟩⟩
  case round =>
    obtain ⟨k, hk, rfl, hO, hB, hN⟩ := hrel
    have hsz : w.heap.size + 1 ≤ wr.heap.size := by have := hB.size; omega
    have hcell : ∀ j x, cut4[j]? = some x → wr.cell? ⟨w.heap.size, j, none⟩ = some (vi x) := fun j x hx => by
      have h1 := HR.out.cell j
      rw [List.getElem?_map, hx] at h1
      exact (hB.cell (p := ⟨w.heap.size, j, none⟩) (by simp)).trans h1
    have c0 := hcell 0 1000 rfl
    have c1 := hcell 1 2000 rfl
    have c2 := hcell 2 5000 rfl
    have c3 := hcell 3 10000 rfl
    have hlt : w.heap.size < wr.heap.size := by omega
    have HO := Lib.hid hO
    have HB := Lib.hid hB
    clear hcell hO hB
    rcases (show k = 0 ∨ k = 1 ∨ k = 2 ∨ k = 3 by omega) with rfl | rfl | rfl | rfl
    · have HX : Hid ((chG s l lim).take (0 + 1) = (chG s l lim).take 0 ++ [(1000, 2000, fnS s l 1000 2000 lim)]) := Lib.hid rfl
      have hxl : ((chG s l lim).take 0).length ≤ 3 := by simp [chG]
      generalize (chG s l lim).take 0 = xs at *
      go_wp2
      ((first | refine region_gr_on (by kernel_rfl) (by kernel_rfl) ?_ | refine region_gr (by kernel_rfl) (by kernel_rfl) ?_); (repeat (quiet_step (exact Calls.gr_of ((HF0.out _).mono fun e w' h => ⟨h.1, Gr.of_below h.2⟩)))); refine wpQuiet_nil ?_; intro _ hw'; obtain ⟨⟨kq, oq⟩, hw''⟩ := hw'; subst hw'')
      have hgq : Gr wr (gr wr kq oq) := ⟨kq, oq, rfl⟩
      replace c0 := (hgq.below.cell (p := ⟨w.heap.size, 0, none⟩) hlt).trans c0
      replace c1 := (hgq.below.cell (p := ⟨w.heap.size, 1, none⟩) hlt).trans c1
      have HO3 := Lib.hid (HO.out.below hgq.below)
      have HB3 := Lib.hid (HB.out.trans (hgq.below.mono hsz))
      have hsz3 : w.heap.size + 1 ≤ (gr wr kq oq).heap.size := by have := HB3.out.size; omega
      have hlt3 : w.heap.size < (gr wr kq oq).heap.size := by omega
      clear c2 c3 hlt HO HB hgq hsz
      generalize gr wr kq oq = w3 at *
      by_cases hq : fnS s l 1000 2000 lim = 0
      · have HC := Lib.hid (HNO.out (.inl hq))
        have hq1 : (fnS s l 1000 2000 lim == 0) = true := by simpa using hq
        go_wp2
        ((try simp only [Exit.inBlock, Exit.then]); refine bodyPost_ret (v := .tuple #[.slice none 0 0, .int .i64 4]) (by simp [results, Tryd.results14, go_sem]) rfl ?_)
        exact ⟨⟨_, by rw [HC.out.1], by rw [HC.out.2]; exact Lst3.nil _ _ _⟩, HG.out.trans (HB3.out.mono (by omega))⟩
      · have hq1 : (fnS s l 1000 2000 lim == 0) = false := by simpa using hq
        have HQ := Lib.hid hq
        clear hq
        generalize hx : fnS s l 1000 2000 lim = x at *
        have HXE := Lib.hid hx
        clear hx
        go_wp2
        have HO4 := Lib.hid (HO3.out.below (Gr.below ((Gr.refl w3).drew)))
        have HB4 := Lib.hid (HB3.out.trans ((Gr.below ((Gr.refl w3).drew)).mono hsz3))
        have hsz4 : w.heap.size + 1 ≤ w3.drew.heap.size := hsz3
        go_region_law (refine step_append_own rfl (.tmp 48) (.tmp 60) 26 rfl (w.heap.size + 1) 39 i0 (.agg #[.int .i64 0, .int .i64 0, .int .i64 0]) 3 24 Tryd.underlying26 hi hz0 hz1 hz2 rfl (by decide) _ _ _ rfl (HO4.out.alloc _) _ 1 1 [.int .i64 1000, .int .i64 2000, .int .i64 x] rfl rfl (three_cells_new _ _ _ _ _) (by simp [Value.oneCell']) (by unfold maxLen; omega) (by omega) (by simp; omega) ?_; intro v' w5 hown' hgrow _; obtain ⟨hA1, hA2⟩ := Lst3.app HB4.out hsz4 (HO4.out.alloc _) hown' hgrow; have HA1 := Lib.hid hA1; have HA2 := Lib.hid hA2; clear hA1 hA2 hown' hgrow)
        all_goals
          go_wp2
          go_roundw
          case rel => exact ⟨0 + 1, by omega, by simp, by rw [HX.out]; exact HA1.out, HA2.out, Lib.hid ⟨fun _ => by rw [HXE.out]; exact HQ.out, fun h => absurd h (by omega), fun h => absurd h (by omega)⟩⟩
          case measure => simp [intOf]
    · have HX : Hid ((chG s l lim).take (1 + 1) = (chG s l lim).take 1 ++ [(2000, 5000, fnS s l 2000 5000 lim)]) := Lib.hid rfl
      have hxl : ((chG s l lim).take 1).length ≤ 3 := by simp [chG]
      generalize (chG s l lim).take 1 = xs at *
      go_wp2
      ((first | refine region_gr_on (by kernel_rfl) (by kernel_rfl) ?_ | refine region_gr (by kernel_rfl) (by kernel_rfl) ?_); (repeat (quiet_step (exact Calls.gr_of ((HF1.out _).mono fun e w' h => ⟨h.1, Gr.of_below h.2⟩)))); refine wpQuiet_nil ?_; intro _ hw'; obtain ⟨⟨kq, oq⟩, hw''⟩ := hw'; subst hw'')
      have hgq : Gr wr (gr wr kq oq) := ⟨kq, oq, rfl⟩
      replace c1 := (hgq.below.cell (p := ⟨w.heap.size, 1, none⟩) hlt).trans c1
      replace c2 := (hgq.below.cell (p := ⟨w.heap.size, 2, none⟩) hlt).trans c2
      have HO3 := Lib.hid (HO.out.below hgq.below)
      have HB3 := Lib.hid (HB.out.trans (hgq.below.mono hsz))
      have hsz3 : w.heap.size + 1 ≤ (gr wr kq oq).heap.size := by have := HB3.out.size; omega
      have hlt3 : w.heap.size < (gr wr kq oq).heap.size := by omega
      clear c0 c3 hlt HO HB hgq hsz
      generalize gr wr kq oq = w3 at *
      by_cases hq : fnS s l 2000 5000 lim = 0
      · have HC := Lib.hid (HNO.out (.inr (.inl hq)))
        have hq1 : (fnS s l 2000 5000 lim == 0) = true := by simpa using hq
        go_wp2
        ((try simp only [Exit.inBlock, Exit.then]); refine bodyPost_ret (v := .tuple #[.slice none 0 0, .int .i64 4]) (by simp [results, Tryd.results14, go_sem]) rfl ?_)
        exact ⟨⟨_, by rw [HC.out.1], by rw [HC.out.2]; exact Lst3.nil _ _ _⟩, HG.out.trans (HB3.out.mono (by omega))⟩
      · have hq1 : (fnS s l 2000 5000 lim == 0) = false := by simpa using hq
        have HQ := Lib.hid hq
        clear hq
        generalize hx : fnS s l 2000 5000 lim = x at *
        have HXE := Lib.hid hx
        clear hx
        go_wp2
        have HO4 := Lib.hid (HO3.out.below (Gr.below ((Gr.refl w3).drew)))
        have HB4 := Lib.hid (HB3.out.trans ((Gr.below ((Gr.refl w3).drew)).mono hsz3))
        have hsz4 : w.heap.size + 1 ≤ w3.drew.heap.size := hsz3
        go_region_law (refine step_append_own rfl (.tmp 48) (.tmp 60) 26 rfl (w.heap.size + 1) 39 i0 (.agg #[.int .i64 0, .int .i64 0, .int .i64 0]) 3 24 Tryd.underlying26 hi hz0 hz1 hz2 rfl (by decide) _ _ _ rfl (HO4.out.alloc _) _ 1 1 [.int .i64 2000, .int .i64 5000, .int .i64 x] rfl rfl (three_cells_new _ _ _ _ _) (by simp [Value.oneCell']) (by unfold maxLen; omega) (by omega) (by simp; omega) ?_; intro v' w5 hown' hgrow _; obtain ⟨hA1, hA2⟩ := Lst3.app HB4.out hsz4 (HO4.out.alloc _) hown' hgrow; have HA1 := Lib.hid hA1; have HA2 := Lib.hid hA2; clear hA1 hA2 hown' hgrow)
        all_goals
          go_wp2
          go_roundw
          case rel => exact ⟨1 + 1, by omega, by simp, by rw [HX.out]; exact HA1.out, HA2.out, Lib.hid ⟨fun _ => hN.out.1 (by omega), fun h => by rw [HXE.out]; exact HQ.out, fun h => absurd h (by omega)⟩⟩
          case measure => simp [intOf]
    · have HX : Hid ((chG s l lim).take (2 + 1) = (chG s l lim).take 2 ++ [(5000, 10000, fnS s l 5000 10000 lim)]) := Lib.hid rfl
      have hxl : ((chG s l lim).take 2).length ≤ 3 := by simp [chG]
      generalize (chG s l lim).take 2 = xs at *
      go_wp2
      ((first | refine region_gr_on (by kernel_rfl) (by kernel_rfl) ?_ | refine region_gr (by kernel_rfl) (by kernel_rfl) ?_); (repeat (quiet_step (exact Calls.gr_of ((HF2.out _).mono fun e w' h => ⟨h.1, Gr.of_below h.2⟩)))); refine wpQuiet_nil ?_; intro _ hw'; obtain ⟨⟨kq, oq⟩, hw''⟩ := hw'; subst hw'')
      have hgq : Gr wr (gr wr kq oq) := ⟨kq, oq, rfl⟩
      replace c2 := (hgq.below.cell (p := ⟨w.heap.size, 2, none⟩) hlt).trans c2
      replace c3 := (hgq.below.cell (p := ⟨w.heap.size, 3, none⟩) hlt).trans c3
      have HO3 := Lib.hid (HO.out.below hgq.below)
      have HB3 := Lib.hid (HB.out.trans (hgq.below.mono hsz))
      have hsz3 : w.heap.size + 1 ≤ (gr wr kq oq).heap.size := by have := HB3.out.size; omega
      have hlt3 : w.heap.size < (gr wr kq oq).heap.size := by omega
      clear c0 c1 hlt HO HB hgq hsz
      generalize gr wr kq oq = w3 at *
      by_cases hq : fnS s l 5000 10000 lim = 0
      · have HC := Lib.hid (HNO.out (.inr (.inr hq)))
        have hq1 : (fnS s l 5000 10000 lim == 0) = true := by simpa using hq
        go_wp2
        ((try simp only [Exit.inBlock, Exit.then]); refine bodyPost_ret (v := .tuple #[.slice none 0 0, .int .i64 4]) (by simp [results, Tryd.results14, go_sem]) rfl ?_)
        exact ⟨⟨_, by rw [HC.out.1], by rw [HC.out.2]; exact Lst3.nil _ _ _⟩, HG.out.trans (HB3.out.mono (by omega))⟩
      · have hq1 : (fnS s l 5000 10000 lim == 0) = false := by simpa using hq
        have HQ := Lib.hid hq
        clear hq
        generalize hx : fnS s l 5000 10000 lim = x at *
        have HXE := Lib.hid hx
        clear hx
        go_wp2
        have HO4 := Lib.hid (HO3.out.below (Gr.below ((Gr.refl w3).drew)))
        have HB4 := Lib.hid (HB3.out.trans ((Gr.below ((Gr.refl w3).drew)).mono hsz3))
        have hsz4 : w.heap.size + 1 ≤ w3.drew.heap.size := hsz3
        go_region_law (refine step_append_own rfl (.tmp 48) (.tmp 60) 26 rfl (w.heap.size + 1) 39 i0 (.agg #[.int .i64 0, .int .i64 0, .int .i64 0]) 3 24 Tryd.underlying26 hi hz0 hz1 hz2 rfl (by decide) _ _ _ rfl (HO4.out.alloc _) _ 1 1 [.int .i64 5000, .int .i64 10000, .int .i64 x] rfl rfl (three_cells_new _ _ _ _ _) (by simp [Value.oneCell']) (by unfold maxLen; omega) (by omega) (by simp; omega) ?_; intro v' w5 hown' hgrow _; obtain ⟨hA1, hA2⟩ := Lst3.app HB4.out hsz4 (HO4.out.alloc _) hown' hgrow; have HA1 := Lib.hid hA1; have HA2 := Lib.hid hA2; clear hA1 hA2 hown' hgrow)
        all_goals
          go_wp2
          go_roundw
          case rel => exact ⟨2 + 1, by omega, by simp, by rw [HX.out]; exact HA1.out, HA2.out, Lib.hid ⟨fun _ => hN.out.1 (by omega), fun h => hN.out.2.1 (by omega), fun h => by rw [HXE.out]; exact HQ.out⟩⟩
          case measure => simp [intOf]
    · have HC := Lib.hid (HYES.out (hN.out.1 (by omega)) (hN.out.2.1 (by omega)) (hN.out.2.2 (by omega)))
      go_wp2
      ((try simp only [Exit.inBlock, Exit.then]); refine bodyPost_ret (v := .tuple #[u9, .int .i64 0]) (by simp [results, Tryd.results14, go_sem]) rfl ?_)
      exact ⟨⟨_, by rw [HC.out.1], by rw [HC.out.2]; exact HO.out.mono (by omega)⟩, HG.out.trans (HB.out.mono (by omega))⟩

set_option maxHeartbeats 2000000 in
theorem co_spec (s l lim : Int) (w : World) :
    Calls Tryd.prog 14 #[.int .i64 s, .int .i64 l, .int .i64 lim] w fun e w' => (∃ v, e = .returned (.tuple #[v, .int .i64 (chC s l lim)]) ∧ Lst3 39 w' w.heap.size v (coL s l lim)) ∧ Below w.heap.size w w' := by
  have HS := Lib.hid (fun W => isScale_spec s W)
  have HLn := Lib.hid (fun W => isLength_spec l W)
  have HM := Lib.hid (fun W => in_any lim 0 100000 W)
  rcases sc_tf s with hs | hs
  rotate_left
  · have HC := Lib.hid (chC_rg (s := s) (l := l) (lim := lim) (by unfold okC; rw [hs]; rfl))
    rw [hs] at HS
    clear hs
    go_enter Tryd.func14, Tryd.ntmps14
    go_wp2_with (go_at_call 77; refine (HS.out _).mono ?_; rintro e w' ⟨rfl, rfl⟩)
    ((try simp only [Exit.inBlock, Exit.then]); refine bodyPost_ret (v := .tuple #[.slice none 0 0, .int .i64 2]) (by simp [results, Tryd.results14, go_sem]) rfl ?_)
    exact ⟨⟨_, by rw [HC.out.1], by rw [HC.out.2]; exact Lst3.nil _ _ _⟩, Below.refl _ _⟩
  rcases ln_tf l with hl | hl
  rotate_left
  · have HC := Lib.hid (chC_rg (s := s) (l := l) (lim := lim) (by unfold okC; rw [hs, hl]; rfl))
    rw [hs] at HS
    rw [hl] at HLn
    clear hs hl
    go_enter Tryd.func14, Tryd.ntmps14
    go_wp2_with (first | (go_at_call 77; refine (HS.out _).mono ?_; rintro e w' ⟨rfl, rfl⟩) | (go_at_call 78; refine (HLn.out _).mono ?_; rintro e w' ⟨rfl, rfl⟩))
    ((try simp only [Exit.inBlock, Exit.then]); refine bodyPost_ret (v := .tuple #[.slice none 0 0, .int .i64 2]) (by simp [results, Tryd.results14, go_sem]) rfl ?_)
    exact ⟨⟨_, by rw [HC.out.1], by rw [HC.out.2]; exact Lst3.nil _ _ _⟩, Below.refl _ _⟩
  by_cases hm : 0 ≤ lim ∧ lim ≤ 100000
  rotate_left
  · have HC := Lib.hid (chC_rg (s := s) (l := l) (lim := lim) (by unfold okC; rw [hs, hl, decide_eq_false hm]; rfl))
    rw [hs] at HS
    rw [hl] at HLn
    rw [decide_eq_false hm] at HM
    clear hs hl
    go_enter Tryd.func14, Tryd.ntmps14
    go_wp2_with (first | (go_at_call 77; refine (HS.out _).mono ?_; rintro e w' ⟨rfl, rfl⟩) | (go_at_call 78; refine (HLn.out _).mono ?_; rintro e w' ⟨rfl, rfl⟩) | (go_at_call 79; refine (HM.out _).mono ?_; rintro e w' ⟨rfl, rfl⟩))
    ((try simp only [Exit.inBlock, Exit.then]); refine bodyPost_ret (v := .tuple #[.slice none 0 0, .int .i64 2]) (by simp [results, Tryd.results14, go_sem]) rfl ?_)
    exact ⟨⟨_, by rw [HC.out.1], by rw [HC.out.2]; exact Lst3.nil _ _ _⟩, Below.refl _ _⟩
  exact co_spec1 s l lim w hs hl hm
end Go.Proofs.YtggflladheemoaaDoor
