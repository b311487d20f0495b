/- For every code of bytes the marks of the drawn graduations are as the law FnMarks says, and it returns true. No condition. -/
import Derived.Test.YtggflladheemoaaC07i
import Derived.Test.YtggflladheemoaaC07h
import Derived.Test.YtggflladheemoaaC07f
import Derived.Test.YtggflladheemoaaC07d
import Derived.Test.YtggflladheemoaaD19
import Derived.Test.YtggflladheemoaaLi
import Derived.Test.YtggflladheemoaaBig
import Derived.Test.YtggflladheemoaaFr
import Derived.Test.YtggflladheemoaaRows
import Derived.WalkKit
import Derived.ProofKit
import Derived.OpenShut
namespace Go.Proofs.Ytggflladheemoaa.fnMarks
open Go.ChangeShapes Go.WideShapes Go.ChangeAt Go.RowKit
set_option linter.unusedVariables false
set_option linter.unusedSimpArgs false

theorem own : ownKnob Try.prog.godebug = none := by kernel_rfl


theorem moL_len (zs : List P3) (f t : Int) : (moL zs f t).length ≤ 200 := by
  unfold moL
  split
  · rename_i h
    unfold mrC at h
    split at h
    · omega
    split at h
    · omega
    split at h
    · omega
    · omega
  · simp
/-- The nearest mark is a mark, and a number is one exactly if it is its own nearest one. -/
theorem nm_facts (zs : List P3) (k : Int) : nmE zs k = 0 → cmE zs = 0 ∧ imV zs k = decide (nmV zs k = k) ∧ imV zs (nmV zs k) = true := by
  intro h
  have hg : gd zs = true := by
    unfold nmE at h
    cases e : gd zs
    · rw [e] at h; simp at h
    · rfl
  have hd : nmV zs k = nrM zs k := by
    unfold nmE at h
    unfold nmV
    rw [hg] at h ⊢
    cases e : inD k
    · rw [e] at h; simp at h
    · rfl
  obtain ⟨h1, h2⟩ := nrM_facts zs k hg
  refine ⟨by unfold cmE; rw [if_pos hg], ?_, ?_⟩
  · unfold imV
    rw [hg, hd, Bool.true_and]
    cases e : isM zs k
    · rw [eq_comm, decide_eq_false_iff_not, ← h2, e]; simp
    · rw [eq_comm, decide_eq_true_eq, ← h2, e]
  · unfold imV
    rw [hg, hd, h1]; rfl
theorem mo_facts (zs : List P3) (f t : Int) : mrC zs f t = 0 → cmE zs = 0 ∧ moL zs f t = mrL zs f t ∧ (mrL zs f t).Pairwise (· < ·) ∧ ∀ n ∈ mrL zs f t, imV zs n = true ∧ f ≤ n ∧ n ≤ t := by
  intro h
  have hg : gd zs = true := by
    unfold mrC at h
    cases e : gd zs
    · rw [if_pos e] at h; omega
    · rfl
  obtain ⟨h1, h2⟩ := mrL_facts zs f t hg
  refine ⟨by unfold cmE; rw [if_pos hg], by unfold moL; rw [if_pos h], h1, fun n hn => ⟨?_, (h2 n hn).2⟩⟩
  unfold imV
  rw [hg, (h2 n hn).1]; rfl
theorem cm_facts (zs : List P3) : cmE zs = 0 → cmV zs ≤ 200 → mrC zs 1000 9999 = 0 ∧ moL zs 1000 9999 = mrL zs 1000 9999 ∧ ((mrL zs 1000 9999).length : Int) = cmV zs := by
  intro h h2
  have hg : gd zs = true := by
    unfold cmE at h
    split at h
    · assumption
    · omega
  unfold cmV at h2 ⊢
  rw [if_pos hg] at h2 ⊢
  obtain ⟨a, b⟩ := mr_count zs hg h2
  exact ⟨a, by unfold moL; rw [if_pos a], b⟩

set_option maxHeartbeats 8000000 in
set_option maxRecDepth 100000 in
/-- The walk of a code that is not too long. -/
theorem walk1 (w : World) (A0 : Option Addr) (n0 c0 : Nat) (hB0 : Bytes w w.heap.size A0 n0) (hbig : ¬ 4096 < n0) :
    Calls Try.prog 3 #[.slice A0 n0 c0] w (LawDone w) := by
  have hd : decide ((4096 : Int) < n0) = false := by simp; omega
  go_enter Try.func3, Try.ntmps3
  go_wp2_with fail
  refine (big_any A0 n0 c0 w).mono ?_
  rw [hd]
  rintro e w1 ⟨rfl, rfl⟩
  clear hd
  go_wp2_with fail
  refine (drawCM_any A0 n0 c0 w (by omega) hB0).mono ?_
  rintro e w1 ⟨v, zsg, rfl, hL, hP, hO, hX⟩
  have B1 := hX
  clear  hX
  obtain ⟨Ag, cg, rfl, Rg1⟩ := Lst3.slice hO
  have HWg := Lib.hid (ptb_wf hP)
  obtain ⟨ng, hn⟩ : ∃ q, zsg.length = q := ⟨_, rfl⟩
  rw [hn] at hL ⊢
  have HNg := Lib.hid hn
  have Lg := hL
  clear hn hO hP hL
  go_wp2_with fail
  refine (cm_impl Ag ng cg zsg w1 HNg.out (by omega) Rg1 HWg.out).mono ?_
  rintro e w2 ⟨rfl, hX⟩
  have Rg2 := Rg1.gr hX
  have B2 := B1.trans ((hX.below).mono B1.size)
  clear Rg1 B1 hX
  go_wp2_with fail
  refine (cm_spec Ag ng cg zsg w2 HNg.out (by omega) Rg2).mono ?_
  rintro e w3 ⟨rfl, hX⟩
  have Rg3 := Rg2.gr hX
  have B3 := B2.trans ((hX.below).mono B2.size)
  clear Rg2 B2 hX
  go_wp2_with fail
  refine (drawMO_any A0 n0 c0 w3 (by omega) (hB0.later B3)).mono ?_
  rintro e w4 ⟨v, zsa, f, t, rfl, hL, hP, hf, ht, hO, hX⟩
  have Rg4 := Rg3.below hX
  have B4 := B3.trans (hX.mono B3.size)
  clear Rg3 B3 hX
  obtain ⟨Aa, ca, rfl, Ra4⟩ := Lst3.slice hO
  have HWa := Lib.hid (ptb_wf hP)
  obtain ⟨na, hn⟩ : ∃ q, zsa.length = q := ⟨_, rfl⟩
  rw [hn] at hL ⊢
  have HNa := Lib.hid hn
  have La := hL
  clear hn hO hP hL
  go_wp2_with fail
  refine (mo_impl Aa na ca zsa f t w4 HNa.out (by omega) Ra4 HWa.out).mono ?_
  rintro e w5 ⟨⟨v, rfl, hv⟩, hX⟩
  have hX0 := hX
  have Rg5 := Rg4.below hX
  have Ra5 := Ra4.below hX
  have B5 := B4.trans (hX.mono B4.size)
  clear Rg4 Ra4 B4 hX
  have hlen := moL_len zsa f t
  obtain ⟨Al, cl, rfl, Rl5⟩ := Lst.slice hv
  clear hv hX0
  go_wp2_with fail
  refine (mo_spec Aa na ca zsa f t w5 HNa.out (by omega) Ra5).mono ?_
  rintro e w6 ⟨⟨v, rfl, hv⟩, hX⟩
  have hX0 := hX
  have Rg6 := Rg5.below hX
  have Ra6 := Ra5.below hX
  have Rl6 := Rl5.below hX
  have B6 := B5.trans (hX.mono B5.size)
  clear Rg5 Ra5 Rl5 B5 hX
  obtain ⟨Am, cm, rfl, Rm6⟩ := Lst.slice hv
  obtain ⟨nl, hnl⟩ : ∃ q, (moL zsa f t).length = q := ⟨_, rfl⟩
  rw [hnl] at hlen ⊢
  have HNL := Lib.hid hnl
  clear hv hX0 hnl
  go_wp2_with fail
  refine (drawNM_any A0 n0 c0 w6 (by omega) (hB0.later B6)).mono ?_
  rintro e w7 ⟨v, zsb, k, rfl, hL, hP, hk, hO, hX⟩
  have Rg7 := Rg6.below hX
  have Ra7 := Ra6.below hX
  have Rl7 := Rl6.below hX
  have Rm7 := Rm6.below hX
  have B7 := B6.trans (hX.mono B6.size)
  clear Rg6 Ra6 Rl6 Rm6 B6 hX
  obtain ⟨Ab, cb, rfl, Rb7⟩ := Lst3.slice hO
  have HWb := Lib.hid (ptb_wf hP)
  obtain ⟨nb, hn⟩ : ∃ q, zsb.length = q := ⟨_, rfl⟩
  rw [hn] at hL ⊢
  have HNb := Lib.hid hn
  have Lb := hL
  clear hn hO hP hL
  go_wp2_with fail
  refine (nm_impl Ab nb cb zsb k w7 HNb.out (by omega) Rb7 HWb.out).mono ?_
  rintro e w8 ⟨rfl, hX⟩
  have Rg8 := Rg7.below hX
  have Ra8 := Ra7.below hX
  have Rl8 := Rl7.below hX
  have Rm8 := Rm7.below hX
  have Rb8 := Rb7.below hX
  have B8 := B7.trans (hX.mono B7.size)
  clear Rg7 Ra7 Rl7 Rm7 Rb7 B7 hX
  go_wp2_with fail
  refine (nm_spec Ab nb cb zsb k w8 HNb.out (by omega) Rb8).mono ?_
  rintro e w9 ⟨rfl, hX⟩
  have Rg9 := Rg8.below hX
  have Ra9 := Ra8.below hX
  have Rl9 := Rl8.below hX
  have Rm9 := Rm8.below hX
  have Rb9 := Rb8.below hX
  have B9 := B8.trans (hX.mono B8.size)
  clear Rg8 Ra8 Rl8 Rm8 Rb8 B8 hX
  go_wp2_with fail
  refine (drawIM_any A0 n0 c0 w9 (by omega) (hB0.later B9)).mono ?_
  rintro e w10 ⟨v, zsc, m, rfl, hL, hP, hm, hO, hX⟩
  have Rg10 := Rg9.below hX
  have Ra10 := Ra9.below hX
  have Rl10 := Rl9.below hX
  have Rm10 := Rm9.below hX
  have Rb10 := Rb9.below hX
  have B10 := B9.trans (hX.mono B9.size)
  clear Rg9 Ra9 Rl9 Rm9 Rb9 B9 hX
  obtain ⟨Ac, cc, rfl, Rc10⟩ := Lst3.slice hO
  have HWc := Lib.hid (ptb_wf hP)
  obtain ⟨nc, hn⟩ : ∃ q, zsc.length = q := ⟨_, rfl⟩
  rw [hn] at hL ⊢
  have HNc := Lib.hid hn
  have Lc := hL
  clear hn hO hP hL
  go_wp2_with fail
  refine (im_impl Ac nc cc zsc m w10 HNc.out (by omega) Rc10 HWc.out).mono ?_
  rintro e w11 ⟨rfl, hX⟩
  have Rg11 := Rg10.gr hX
  have Ra11 := Ra10.gr hX
  have Rl11 := Rl10.gr hX
  have Rm11 := Rm10.gr hX
  have Rb11 := Rb10.gr hX
  have Rc11 := Rc10.gr hX
  have B11 := B10.trans ((hX.below).mono B10.size)
  clear Rg10 Ra10 Rl10 Rm10 Rb10 Rc10 B10 hX
  go_wp2_with fail
  refine (im_spec Ac nc cc zsc m w11 HNc.out (by omega) Rc11).mono ?_
  rintro e w12 ⟨rfl, hX⟩
  have Rg12 := Rg11.gr hX
  have Ra12 := Ra11.gr hX
  have Rl12 := Rl11.gr hX
  have Rm12 := Rm11.gr hX
  have Rb12 := Rb11.gr hX
  have Rc12 := Rc11.gr hX
  have B12 := B11.trans ((hX.below).mono B11.size)
  clear Rg11 Ra11 Rl11 Rm11 Rb11 Rc11 B11 hX
  clear Rc12
  generalize imV zsc m = bc at *
  generalize cmE zsc = ec at *
  go_wp2_with fail
  refine (likeInts_same _ _ nl cl cm (moL zsa f t) w12 HNL.out (by omega) Rl12 Rm12).mono ?_
  rintro e w13 ⟨rfl, hX⟩
  have Rg13 := Rg12.gr hX
  have Ra13 := Ra12.gr hX
  have Rl13 := Rl12.gr hX
  have Rm13 := Rm12.gr hX
  have Rb13 := Rb12.gr hX
  have B13 := B12.trans ((hX.below).mono B12.size)
  clear Rg12 Ra12 Rl12 Rm12 Rb12 B12 hX
  clear Rm13
  go_wp2_with fail
  refine (gd_impl Ag ng cg zsg w13 HNg.out (by omega) Rg13 HWg.out).mono ?_
  rintro e w14 ⟨rfl, hX⟩
  have Rg14 := Rg13.gr hX
  have Ra14 := Ra13.gr hX
  have Rl14 := Rl13.gr hX
  have Rb14 := Rb13.gr hX
  have B14 := B13.trans ((hX.below).mono B13.size)
  clear Rg13 Ra13 Rl13 Rb13 B13 hX
  go_wp2_with fail
  refine (gd_spec Ag ng cg zsg w14 HNg.out (by omega) Rg14).mono ?_
  rintro e w15 ⟨rfl, hX⟩
  have Rg15 := Rg14.gr hX
  have Ra15 := Ra14.gr hX
  have Rl15 := Rl14.gr hX
  have Rb15 := Rb14.gr hX
  have B15 := B14.trans ((hX.below).mono B14.size)
  clear Rg14 Ra14 Rl14 Rb14 B14 hX
  have HF := Lib.hid (nm_facts zsb k)
  have HA := Lib.hid (mo_facts zsa f t)
  have HC := Lib.hid (cm_facts zsg)
  generalize cmE zsg = eg at *
  generalize cmV zsg = vg at *
  generalize gd zsg = gg at *
  generalize mrC zsa f t = ea at *
  generalize nmE zsb k = eb at *
  generalize nmV zsb k = vb at *
  by_cases hb : eb = 0
  · subst hb
    obtain ⟨h1, h2, h3⟩ := HF.out rfl
    have H1 := Lib.hid h1
    have H2 := Lib.hid h2
    have H3 := Lib.hid h3
    clear h1 h2 h3 HF
    go_wp2_with fail
    refine (im_impl Ab nb cb zsb k w15 HNb.out (by omega) Rb15 HWb.out).mono ?_
    rintro e w16 ⟨rfl, hX⟩
    have Rg16 := Rg15.gr hX
    have Ra16 := Ra15.gr hX
    have Rl16 := Rl15.gr hX
    have Rb16 := Rb15.gr hX
    have B16 := B15.trans ((hX.below).mono B15.size)
    clear Rg15 Ra15 Rl15 Rb15 B15 hX
    go_wp2_with fail
    refine (im_impl Ab nb cb zsb vb w16 HNb.out (by omega) Rb16 HWb.out).mono ?_
    rintro e w17 ⟨rfl, hX⟩
    have Rg17 := Rg16.gr hX
    have Ra17 := Ra16.gr hX
    have Rl17 := Rl16.gr hX
    have Rb17 := Rb16.gr hX
    have B17 := B16.trans ((hX.below).mono B16.size)
    clear Rg16 Ra16 Rl16 Rb16 B16 hX
    rw [H1.out, H2.out, H3.out]
    go_wp2_with fail
    have HRg := Lib.hid Rg17
    have HRa := Lib.hid Ra17
    have HRl := Lib.hid Rl17
    have HB := Lib.hid B17
    clear Rg17 Ra17 Rl17 B17 Rb17
    obtain ⟨W, hW⟩ : ∃ W, W = w17 := ⟨_, rfl⟩
    rw [← hW] at HRg HRa HRl HB ⊢
    clear hW
    go_loopw [31] (fun i wr => ∃ k : Nat, i = .int .i64 k ∧ Hid (ea = 0 → k ≤ nl) ∧ Gr W wr) (fun i _ => nl - (intOf i).toNat)
    case atStart => exact ⟨0, rfl, Lib.hid (fun _ => by omega), Gr.refl _⟩
    case round =>
      obtain ⟨k, rfl, hk, hG⟩ := hrel
      have RgW := HRg.out.gr hG
      have BW := HB.out.trans (hG.below.mono HB.out.size)
      by_cases h0 : ea = 0
      · subst h0
        have hk := hk.out rfl
        obtain ⟨g1, g2, g3, g4⟩ := HA.out rfl
        by_cases hlt : k < nl
        · obtain ⟨x, hx⟩ := some_at (l := moL zsa f t) (k := k) (by rw [HNL.out]; exact hlt)
          have hx2 := hx
          rw [g2] at hx2
          obtain ⟨x1, x2, x3⟩ := g4 x (List.mem_of_getElem? hx2)
          obtain ⟨gl, ol, rfl, hgl, hcl⟩ := (HRl.out.gr hG).at_ (map_at hx)
          have d1 : decide (x < f) = false := decide_eq_false (by omega)
          have d2 : decide (t < x) = false := decide_eq_false (by omega)
          have HX1 := Lib.hid g1
          have HX2 := Lib.hid x1
          by_cases hk0 : k = 0
          · subst hk0
            simp only [Nat.add_zero] at hcl
            clear hx hx2 g1 g2 g3 g4 x1 x2 x3 RgW BW
            go_wp2_with fail
            refine (im_impl Aa na ca zsa x _ HNa.out (by omega) (HRa.out.gr hG) HWa.out).mono ?_
            rw [HX1.out, HX2.out]
            rintro e wz ⟨rfl, hX⟩
            have hcl2 := (hX.below.cell (p := ⟨gl, ol, none⟩) hgl).trans hcl
            have hgl2 : gl < wz.heap.size := World.block_lt_of_cell? _ _ hcl2
            have HG := Lib.hid (hG.trans hX)
            clear hcl hX hG
            go_wp2_with fail
            go_quiet (fail)
            go_wp2_with fail
            go_roundw
            case rel => exact ⟨1, by go_num, Lib.hid (fun _ => by omega), HG.out.drewN nq⟩
            case measure => simp [intOf]; omega
          · obtain ⟨y, hy⟩ := some_at (l := moL zsa f t) (k := k - 1) (by rw [HNL.out]; omega)
            have hyx : y < x := by
              have hy2 := hy
              rw [g2] at hy2
              obtain ⟨a1, e1⟩ := List.getElem?_eq_some_iff.1 hy2
              obtain ⟨a2, e2⟩ := List.getElem?_eq_some_iff.1 hx2
              rw [← e1, ← e2]
              exact List.pairwise_iff_getElem.1 g3 (k - 1) k a1 a2 (by omega)
            obtain ⟨gm, om, em, hgm, hcm⟩ := (HRl.out.gr hG).at_ (map_at hy)
            obtain ⟨rfl, rfl⟩ : gl = gm ∧ ol = om := by injection em with em; injection em with e1 e2; exact ⟨e1, e2⟩
            have d3 : decide (x ≤ y) = false := decide_eq_false (by omega)
            have d4 : decide (0 < (k : Int)) = true := decide_eq_true (by omega)
            have d5 : decide (0 < k) = true := decide_eq_true (by omega)
            have d6 : 0 < k := by omega
            have hk2 : (1 : Int) ≤ (k : Int) := by omega
            have hk3 : (k : Int) - 1 < (nl : Int) := by omega
            have hk4 : (k : Int) < (nl : Int) := by omega
            have hk5 : (0 : Int) ≤ (k : Int) := by omega
            have hwk2 : IntKind.i64.wrap ((k : Int) - 1) = (k : Int) - 1 := IntWalk.i64_in _ (by omega)
            clear hx hx2 g1 g2 g3 g4 x1 x2 x3 RgW BW hy em hk0
            go_wp2_with fail
            refine (im_impl Aa na ca zsa x _ HNa.out (by omega) (HRa.out.gr hG) HWa.out).mono ?_
            rw [HX1.out, HX2.out]
            rintro e wz ⟨rfl, hX⟩
            have hcl2 := (hX.below.cell (p := ⟨gl, ol + k, none⟩) hgl).trans hcl
            have hcm2 := (hX.below.cell (p := ⟨gl, ol + (k - 1), none⟩) hgl).trans hcm
            have hgl2 : gl < wz.heap.size := World.block_lt_of_cell? _ _ hcl2
            have HG := Lib.hid (hG.trans hX)
            clear hcl hcm hX hG hgm
            go_wp2_with fail
            go_quiet (fail)
            go_wp2_with fail
            go_roundw
            case rel => exact ⟨k + 1, by go_num, Lib.hid (fun _ => by omega), HG.out.drewN nq⟩
            case measure => simp [intOf]; omega
        · obtain rfl : k = nl := by omega
          clear g1 g2 g3 g4 hk hlt
          by_cases h1 : eg = 0
          · subst h1
            by_cases h2 : vg ≤ 200
            · obtain ⟨c1, c2, c3⟩ := HC.out rfl h2
              have HC1 := Lib.hid c1
              have HC2 := Lib.hid c2
              have HC3 := Lib.hid c3
              have h3 : decide (200 < vg) = false := decide_eq_false (by omega)
              clear c1 c2 c3 HC h2
              go_wp2_with fail
              refine (mo_impl Ag ng cg zsg 1000 9999 _ HNg.out (by omega) RgW HWg.out).mono ?_
              rw [HC1.out, HC2.out]
              rintro e wz ⟨⟨v, rfl, hv⟩, hX⟩
              obtain ⟨Az, cz, rfl, -⟩ := Lst.slice hv
              have HBZ := Lib.hid (BW.trans (hX.mono BW.size))
              clear hv hX
              obtain ⟨q, hq⟩ : ∃ q, (mrL zsg 1000 9999).length = q := ⟨_, rfl⟩
              rw [hq] at HC3 ⊢
              have h4 := HC3.out
              subst h4
              go_wp2_with fail
              go_ret
              exact ⟨rfl, HBZ.out⟩
            · have h3 : decide (200 < vg) = true := decide_eq_true (by omega)
              go_wp2_with fail
              go_ret
              exact ⟨rfl, BW⟩
          · have h1' : (eg == 0) = false := by simpa using h1
            go_wp2_with fail
            go_ret
            exact ⟨rfl, BW⟩
      · have h0' : (ea == 0) = false := by simpa using h0
        by_cases h1 : eg = 0
        · subst h1
          by_cases h2 : vg ≤ 200
          · obtain ⟨c1, c2, c3⟩ := HC.out rfl h2
            have HC1 := Lib.hid c1
            have HC2 := Lib.hid c2
            have HC3 := Lib.hid c3
            have h3 : decide (200 < vg) = false := decide_eq_false (by omega)
            clear c1 c2 c3 HC h2
            go_wp2_with fail
            refine (mo_impl Ag ng cg zsg 1000 9999 _ HNg.out (by omega) RgW HWg.out).mono ?_
            rw [HC1.out, HC2.out]
            rintro e wz ⟨⟨v, rfl, hv⟩, hX⟩
            obtain ⟨Az, cz, rfl, -⟩ := Lst.slice hv
            have HBZ := Lib.hid (BW.trans (hX.mono BW.size))
            clear hv hX
            obtain ⟨q, hq⟩ : ∃ q, (mrL zsg 1000 9999).length = q := ⟨_, rfl⟩
            rw [hq] at HC3 ⊢
            have h4 := HC3.out
            subst h4
            go_wp2_with fail
            go_ret
            exact ⟨rfl, HBZ.out⟩
          · have h3 : decide (200 < vg) = true := decide_eq_true (by omega)
            go_wp2_with fail
            go_ret
            exact ⟨rfl, BW⟩
        · have h1' : (eg == 0) = false := by simpa using h1
          go_wp2_with fail
          go_ret
          exact ⟨rfl, BW⟩
  · have hb0 : (eb == 0) = false := by simpa using hb
    go_wp2_with fail
    have HRg := Lib.hid Rg15
    have HRa := Lib.hid Ra15
    have HRl := Lib.hid Rl15
    have HB := Lib.hid B15
    clear Rg15 Ra15 Rl15 B15 Rb15
    obtain ⟨W, hW⟩ : ∃ W, W = w15 := ⟨_, rfl⟩
    rw [← hW] at HRg HRa HRl HB ⊢
    clear hW
    go_loopw [31] (fun i wr => ∃ k : Nat, i = .int .i64 k ∧ Hid (ea = 0 → k ≤ nl) ∧ Gr W wr) (fun i _ => nl - (intOf i).toNat)
    case atStart => exact ⟨0, rfl, Lib.hid (fun _ => by omega), Gr.refl _⟩
    case round =>
      obtain ⟨k, rfl, hk, hG⟩ := hrel
      have RgW := HRg.out.gr hG
      have BW := HB.out.trans (hG.below.mono HB.out.size)
      by_cases h0 : ea = 0
      · subst h0
        have hk := hk.out rfl
        obtain ⟨g1, g2, g3, g4⟩ := HA.out rfl
        by_cases hlt : k < nl
        · obtain ⟨x, hx⟩ := some_at (l := moL zsa f t) (k := k) (by rw [HNL.out]; exact hlt)
          have hx2 := hx
          rw [g2] at hx2
          obtain ⟨x1, x2, x3⟩ := g4 x (List.mem_of_getElem? hx2)
          obtain ⟨gl, ol, rfl, hgl, hcl⟩ := (HRl.out.gr hG).at_ (map_at hx)
          have d1 : decide (x < f) = false := decide_eq_false (by omega)
          have d2 : decide (t < x) = false := decide_eq_false (by omega)
          have HX1 := Lib.hid g1
          have HX2 := Lib.hid x1
          by_cases hk0 : k = 0
          · subst hk0
            simp only [Nat.add_zero] at hcl
            clear hx hx2 g1 g2 g3 g4 x1 x2 x3 RgW BW
            go_wp2_with fail
            refine (im_impl Aa na ca zsa x _ HNa.out (by omega) (HRa.out.gr hG) HWa.out).mono ?_
            rw [HX1.out, HX2.out]
            rintro e wz ⟨rfl, hX⟩
            have hcl2 := (hX.below.cell (p := ⟨gl, ol, none⟩) hgl).trans hcl
            have hgl2 : gl < wz.heap.size := World.block_lt_of_cell? _ _ hcl2
            have HG := Lib.hid (hG.trans hX)
            clear hcl hX hG
            go_wp2_with fail
            go_quiet (fail)
            go_wp2_with fail
            go_roundw
            case rel => exact ⟨1, by go_num, Lib.hid (fun _ => by omega), HG.out.drewN nq⟩
            case measure => simp [intOf]; omega
          · obtain ⟨y, hy⟩ := some_at (l := moL zsa f t) (k := k - 1) (by rw [HNL.out]; omega)
            have hyx : y < x := by
              have hy2 := hy
              rw [g2] at hy2
              obtain ⟨a1, e1⟩ := List.getElem?_eq_some_iff.1 hy2
              obtain ⟨a2, e2⟩ := List.getElem?_eq_some_iff.1 hx2
              rw [← e1, ← e2]
              exact List.pairwise_iff_getElem.1 g3 (k - 1) k a1 a2 (by omega)
            obtain ⟨gm, om, em, hgm, hcm⟩ := (HRl.out.gr hG).at_ (map_at hy)
            obtain ⟨rfl, rfl⟩ : gl = gm ∧ ol = om := by injection em with em; injection em with e1 e2; exact ⟨e1, e2⟩
            have d3 : decide (x ≤ y) = false := decide_eq_false (by omega)
            have d4 : decide (0 < (k : Int)) = true := decide_eq_true (by omega)
            have d5 : decide (0 < k) = true := decide_eq_true (by omega)
            have d6 : 0 < k := by omega
            have hk2 : (1 : Int) ≤ (k : Int) := by omega
            have hk3 : (k : Int) - 1 < (nl : Int) := by omega
            have hk4 : (k : Int) < (nl : Int) := by omega
            have hk5 : (0 : Int) ≤ (k : Int) := by omega
            have hwk2 : IntKind.i64.wrap ((k : Int) - 1) = (k : Int) - 1 := IntWalk.i64_in _ (by omega)
            clear hx hx2 g1 g2 g3 g4 x1 x2 x3 RgW BW hy em hk0
            go_wp2_with fail
            refine (im_impl Aa na ca zsa x _ HNa.out (by omega) (HRa.out.gr hG) HWa.out).mono ?_
            rw [HX1.out, HX2.out]
            rintro e wz ⟨rfl, hX⟩
            have hcl2 := (hX.below.cell (p := ⟨gl, ol + k, none⟩) hgl).trans hcl
            have hcm2 := (hX.below.cell (p := ⟨gl, ol + (k - 1), none⟩) hgl).trans hcm
            have hgl2 : gl < wz.heap.size := World.block_lt_of_cell? _ _ hcl2
            have HG := Lib.hid (hG.trans hX)
            clear hcl hcm hX hG hgm
            go_wp2_with fail
            go_quiet (fail)
            go_wp2_with fail
            go_roundw
            case rel => exact ⟨k + 1, by go_num, Lib.hid (fun _ => by omega), HG.out.drewN nq⟩
            case measure => simp [intOf]; omega
        · obtain rfl : k = nl := by omega
          clear g1 g2 g3 g4 hk hlt
          by_cases h1 : eg = 0
          · subst h1
            by_cases h2 : vg ≤ 200
            · obtain ⟨c1, c2, c3⟩ := HC.out rfl h2
              have HC1 := Lib.hid c1
              have HC2 := Lib.hid c2
              have HC3 := Lib.hid c3
              have h3 : decide (200 < vg) = false := decide_eq_false (by omega)
              clear c1 c2 c3 HC h2
              go_wp2_with fail
              refine (mo_impl Ag ng cg zsg 1000 9999 _ HNg.out (by omega) RgW HWg.out).mono ?_
              rw [HC1.out, HC2.out]
              rintro e wz ⟨⟨v, rfl, hv⟩, hX⟩
              obtain ⟨Az, cz, rfl, -⟩ := Lst.slice hv
              have HBZ := Lib.hid (BW.trans (hX.mono BW.size))
              clear hv hX
              obtain ⟨q, hq⟩ : ∃ q, (mrL zsg 1000 9999).length = q := ⟨_, rfl⟩
              rw [hq] at HC3 ⊢
              have h4 := HC3.out
              subst h4
              go_wp2_with fail
              go_ret
              exact ⟨rfl, HBZ.out⟩
            · have h3 : decide (200 < vg) = true := decide_eq_true (by omega)
              go_wp2_with fail
              go_ret
              exact ⟨rfl, BW⟩
          · have h1' : (eg == 0) = false := by simpa using h1
            go_wp2_with fail
            go_ret
            exact ⟨rfl, BW⟩
      · have h0' : (ea == 0) = false := by simpa using h0
        by_cases h1 : eg = 0
        · subst h1
          by_cases h2 : vg ≤ 200
          · obtain ⟨c1, c2, c3⟩ := HC.out rfl h2
            have HC1 := Lib.hid c1
            have HC2 := Lib.hid c2
            have HC3 := Lib.hid c3
            have h3 : decide (200 < vg) = false := decide_eq_false (by omega)
            clear c1 c2 c3 HC h2
            go_wp2_with fail
            refine (mo_impl Ag ng cg zsg 1000 9999 _ HNg.out (by omega) RgW HWg.out).mono ?_
            rw [HC1.out, HC2.out]
            rintro e wz ⟨⟨v, rfl, hv⟩, hX⟩
            obtain ⟨Az, cz, rfl, -⟩ := Lst.slice hv
            have HBZ := Lib.hid (BW.trans (hX.mono BW.size))
            clear hv hX
            obtain ⟨q, hq⟩ : ∃ q, (mrL zsg 1000 9999).length = q := ⟨_, rfl⟩
            rw [hq] at HC3 ⊢
            have h4 := HC3.out
            subst h4
            go_wp2_with fail
            go_ret
            exact ⟨rfl, HBZ.out⟩
          · have h3 : decide (200 < vg) = true := decide_eq_true (by omega)
            go_wp2_with fail
            go_ret
            exact ⟨rfl, BW⟩
        · have h1' : (eg == 0) = false := by simpa using h1
          go_wp2_with fail
          go_ret
          exact ⟨rfl, BW⟩

set_option maxHeartbeats 4000000 in
set_option maxRecDepth 100000 in
theorem walk (w : World) (A0 : Option Addr) (n0 c0 : Nat) (hB0 : Bytes w w.heap.size A0 n0) :
    Calls Try.prog 3 #[.slice A0 n0 c0] w (LawDone w) := by
  by_cases hbig : 4096 < n0
  · have hd : decide ((4096 : Int) < n0) = true := by simp; omega
    go_enter Try.func3, Try.ntmps3
    go_wp2_with fail
    refine (big_any A0 n0 c0 w).mono ?_
    rw [hd]
    rintro e w1 ⟨rfl, rfl⟩
    go_wp2_with fail
    go_ret
    exact ⟨rfl, Below.refl _ _⟩
  · exact walk1 w A0 n0 c0 hB0 hbig

set_option maxRecDepth 100000 in
theorem lifted (os : Os) (started : os.Started) (H : Type) (enc : TypeId × Value → H) :
    ReturnsInHanded {} Try.checked os 3 .any (Rows.fnMarksSpec.pre6 enc Try.prog Try.f3 Rows.fnMarksRow.domain false) (Rows.fnMarksSpec.post enc Try.prog Try.f3 false true false false) := by
  refine returnsInHanded_of_change (C := Try.checked) own started (by kernel_rfl) Try.func3
    (ChangeSpec.witness6 (enc := enc) (C := Try.checked) false ⟨#[], #[.slice none 0 0], []⟩ 8 (by kernel_rfl) (by kernel_rfl) (by kernel_rfl) (by kernel_rfl)) ?_
  intro W base args ds gs before hval0 hW hcnd _
  have hval : ∀ (j : Nat) t v, Try.f3.params[j]? = some t → args[j]? = some v → Value.okWide Try.prog W .any base t v := hval0
  have hW' := hW
  obtain ⟨p, q, hA0, hV, hpq, hfz, hnd⟩ := hW
  have hA : DataW.TrodAll enc Try.prog W 0 (fun _ => true) true Try.f3.params.toList args.toList ds p := hA0
  have hT := hA
  obtain ⟨rfl, rfl⟩ := trodVars_none hV
  rw [Try.params3] at hA hval
  obtain ⟨v0, vs0, d0, ds0, p0, q0, hargs, rfl, rfl, h0, r0⟩ := trodAll_cons hA
  obtain ⟨rfl, rfl, rfl⟩ := trodAll_nil r0
  obtain rfl : args = #[v0] := by cases args; simp_all
  obtain ⟨A0, n0, c0, rfl, -, hB0⟩ := open_code Try.underlying22 Try.underlying5 (by kernel_rfl) (hval 0 22 v0 rfl rfl) h0
  clear hA0 hval0
  refine (walk W A0 n0 c0 hB0).mono fun e W' ⟨he, hb⟩ => ?_
  subst he
  exact ⟨_, rfl, law_post laidOut hW' hT hpq (by kernel_rfl) (fun _ _ => rfl) rfl rfl rfl Try.underlying4 hb⟩

theorem over : Rows.fnMarksRow.holds Try.pinned (OpenSpec.ofChange Rows.fnMarksSpec) :=
  OpenClaim.holds_of_wide 3 Try.f3 rfl rfl rfl rfl rfl rfl rfl ⟨rfl, rfl, rfl, rfl, rfl⟩ rfl rfl rfl rfl rfl (by kernel_rfl) Try.func3 (by kernel_rfl)
    (of_decide_eq_true (by kernel_rfl)) (by unfold Func.isWrapper; first | (rw [if_pos (by decide +kernel)]; kernel_rfl) | (rw [if_neg (by decide +kernel)]; exact ⟨rfl, rfl⟩))
    (fun os started H enc _ => lifted os started H enc)

theorem proved : Rows.FnMarksSaid :=
  over
end Go.Proofs.Ytggflladheemoaa.fnMarks
