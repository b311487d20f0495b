/- For every code of bytes the ticks of the drawn graduations are as the law FnTicks says, and it returns true. No condition beyond the tables as the program's text lays them. -/
import Derived.Test.YtggflladheemoaaDoor8A
import Derived.Test.YtggflladheemoaaDoorC08f
import Derived.Test.YtggflladheemoaaDoorC08i
import Derived.Test.YtggflladheemoaaDoor7A
import Derived.Test.YtggflladheemoaaDoorD21
import Derived.Test.YtggflladheemoaaDoorLk
import Derived.Test.YtggflladheemoaaDoorBig
import Derived.Test.YtggflladheemoaaDoorDr
import Derived.Test.YtggflladheemoaaDoorTie
import Derived.Test.YtggflladheemoaaDoorCards
import Derived.Test.YtggflladheemoaaDoorFr
import Derived.Test.YtggflladheemoaaDoorFv
import Derived.Test.YtggflladheemoaaDoorRows
import Derived.WalkKit
import Derived.ProofKit
import Derived.OpenShut
namespace Go.Proofs.YtggflladheemoaaDoor.fnTicks
open Go.ChangeShapes Go.WideShapes Go.ChangeAt Go.RowKit
set_option linter.unusedVariables false
set_option linter.unusedSimpArgs false

theorem own : ownKnob Tryd.prog.godebug = none := by kernel_rfl

theorem dcsl {w : World} (hL : laidMet Tryd.prog Rows.fnTicksRow.laid w) : Dcs w := by
  have h := hL.filter (fun x => x.1 == "loop.example/g00951/impl.scaleDecades")
  have e : Rows.fnTicksRow.laid.filter (fun x => x.1 == "loop.example/g00951/impl.scaleDecades") = [("loop.example/g00951/impl.scaleDecades", Lib.tabData .i64 [1, 2, 3, 1, 1, 1])] := by rfl
  rw [e] at h
  exact dcs_of (Lib.tabIs_of_head (g := 5) (by kernel_rfl) (by kernel_rfl) Tryd.underlying245 Tryd.underlying2 (by kernel_rfl) (by kernel_rfl) h)

theorem htsl {w : World} (hL : laidMet Tryd.prog Rows.fnTicksRow.laid w) : Hts w := by
  have h := hL.filter (fun x => x.1 == "loop.example/g00951/impl.heightSteps")
  have e : Rows.fnTicksRow.laid.filter (fun x => x.1 == "loop.example/g00951/impl.heightSteps") = [("loop.example/g00951/impl.heightSteps", Lib.tabData .i64 [1, 50, 100, 500, 1000])] := by rfl
  rw [e] at h
  exact hts_of (Lib.tabIs_of_head (g := 2) (by kernel_rfl) (by kernel_rfl) Tryd.underlying175 Tryd.underlying2 (by kernel_rfl) (by kernel_rfl) h)


theorem chL_len (zs : List P3) : (chL zs).length ≤ 5 := by
  unfold chL
  split
  · exact Nat.le_of_eq (cH_len _)
  · simp
theorem toF_mem2 (s l : Int) (x : P3) : ∀ (ms : List Int) (xs : List P3), x ∈ ms.foldl (fun xs m => insB bfT (tkOf s l m) xs) xs → x ∈ xs ∨ ∃ m ∈ ms, x = tkOf s l m
  | [], xs, h => .inl h
  | m :: ms, xs, h => by
    rw [List.foldl_cons] at h
    rcases toF_mem2 s l x ms _ h with h | ⟨q, h1, h2⟩
    · rcases (insB_mem _ _ _ _).1 h with rfl | h
      · exact .inr ⟨m, List.mem_cons_self, rfl⟩
      · exact .inl h
    · exact .inr ⟨q, List.mem_cons_of_mem _ h1, h2⟩
theorem toF_sorted (s l : Int) {ms : List Int} (h : ms.Pairwise (· < ·)) : ∀ k, k ≤ ms.length → (toF s l (ms.take k)).Pairwise (fun x y => x.2.1 ≤ y.2.1)
  | 0, _ => List.Pairwise.nil
  | k + 1, hk => by
    obtain ⟨m, hm⟩ := some_at (l := ms) (k := k) (by omega)
    rw [toF_take s l hm, insB_left (tkOf s l m) _ (fun y hy => take_less h hm _ (toF_mem s l _ y hy))]
    exact insB_sorted (fun p : P3 => p.2.1) (tkOf s l m) _ (toF_sorted s l h k (by omega))
theorem to_facts (zs : List P3) (s l f t : Int) : toE zs s l f t = 0 → cmE zs = 0 ∧ (toL zs s l f t).Pairwise (fun x y => x.2.1 ≤ y.2.1) ∧ ∀ x ∈ toL zs s l f t, imV zs x.1 = true ∧ thV x.1 = x.2.2 ∧ thE x.1 = 0 := by
  intro h
  have hg : gd zs = true := by
    unfold toE at h
    cases e : gd zs
    · rw [if_pos e] at h; omega
    · rfl
  obtain ⟨h1, h2⟩ := mrL_facts zs f t hg
  have e : toL zs s l f t = toF s l (mrL zs f t) := by unfold toL; rw [if_pos h]
  refine ⟨by unfold cmE; rw [if_pos hg], ?_, fun x hx => ?_⟩
  · rw [e, ← List.take_length (l := mrL zs f t)]
    exact toF_sorted s l h1 _ (Nat.le_refl _)
  · rw [e] at hx
    rcases toF_mem2 s l x _ [] hx with h3 | ⟨m, hm, rfl⟩
    · cases h3
    · have hb := (mks_facts hg).2.1 m (List.mem_filter.1 hm).1
      refine ⟨by unfold imV; rw [hg]; exact (h2 m hm).1, ?_, ?_⟩
      · show thV m = hgt m
        unfold thV; rw [if_pos (by omega)]
      · show thE m = 0
        unfold thE; rw [if_pos (by omega)]
theorem cH_sum (l : List Int) : (cH l).sum = (l.length : Int) := by
  induction l with
  | nil => rw [cH_nil]; rfl
  | cons y l ih =>
    have hb := hgt_bd y
    have hc : ∀ k : Nat, cHn (y :: l) k = cHn l k + if hgt y = (k : Int) then 1 else 0 := by
      intro k
      unfold cHn
      by_cases h : hgt y = (k : Int) <;> simp [List.filter_cons, h]
    unfold cH at ih ⊢
    simp only [hc, List.sum_cons, List.sum_nil, List.length_cons] at ih ⊢
    rcases (show hgt y = 0 ∨ hgt y = 1 ∨ hgt y = 2 ∨ hgt y = 3 ∨ hgt y = 4 by omega) with h | h | h | h | h <;> simp [h] <;> omega
theorem sum_bd : ∀ L : List Int, (∀ z ∈ L, 0 ≤ z ∧ z ≤ 10000) → 0 ≤ L.sum ∧ L.sum ≤ 10000 * (L.length : Int)
  | [], _ => by simp
  | a :: r, h => by
    have h1 := h a List.mem_cons_self
    have h2 := sum_bd r (fun z hz => h z (List.mem_cons_of_mem _ hz))
    rw [List.sum_cons, List.length_cons]
    omega
theorem ch_facts (zs : List P3) : cmE zs = 0 → (chL zs).sum = cmV zs ∧ ∀ k, -1000000000000 ≤ ((chL zs).take k).sum ∧ ((chL zs).take k).sum ≤ 1000000000000 := by
  intro h
  have hg : gd zs = true := by
    unfold cmE at h
    split at h
    · assumption
    · omega
  obtain ⟨-, h2⟩ := (gd_iff zs).1 hg
  obtain ⟨l1, l2⟩ := cntM_len _ _ _ h2
  have e : chL zs = cH (mks zs) := by unfold chL; rw [if_pos hg]
  have hbd : ∀ z ∈ chL zs, 0 ≤ z ∧ z ≤ 10000 := by
    intro z hz
    rw [e] at hz
    have h3 := cHn_bd (mks zs)
    unfold cH at hz
    simp only [List.mem_cons, List.not_mem_nil, or_false] at hz
    rcases hz with rfl | rfl | rfl | rfl | rfl
    · have := h3 0; omega
    · have := h3 1; omega
    · have := h3 2; omega
    · have := h3 3; omega
    · have := h3 4; omega
  refine ⟨by rw [e, cH_sum]; unfold cmV; rw [if_pos hg, l1], fun k => ?_⟩
  have h4 := sum_bd ((chL zs).take k) (fun z hz => hbd z (List.mem_of_mem_take hz))
  have h5 := chL_len zs
  have h6 : ((chL zs).take k).length ≤ 5 := by rw [List.length_take]; omega
  omega

set_option maxHeartbeats 8000000 in
set_option maxRecDepth 100000 in
/-- The walk of a code that is not too long. -/
theorem walk1 (w : World) (hDC : Dcs w) (hHT : Hts w) (A0 : Option Addr) (n0 c0 : Nat) (hB0 : Bytes w w.heap.size A0 n0) (hbig : ¬ 4096 < n0) :
    Calls Tryd.prog 5 #[.slice A0 n0 c0] w (LawDone w) := by
  have HDC := Lib.hid hDC
  clear hDC
  have HHT := Lib.hid hHT
  clear hHT
  have hd : decide ((4096 : Int) < n0) = false := by simp; omega
  go_enter Tryd.func5, Tryd.ntmps5
  go_wp2_with fail
  refine (big_any A0 n0 c0 w).mono ?_
  rw [hd]
  rintro e w1 ⟨rfl, rfl⟩
  clear hd
  go_wp2_with fail
  refine (drawTO_any A0 n0 c0 w (by omega) hB0).mono ?_
  rintro e w1 ⟨v, zsg, s, l, f, t, rfl, hL, hP, hO, hX⟩
  have B1 := hX
  clear  hX
  obtain ⟨Ag, cg, rfl, Rg1⟩ := Lst3.slice hO
  have HWg := Lib.hid (ptb_wf hP)
  obtain ⟨ng, hn⟩ : ∃ q, zsg.length = q := ⟨_, rfl⟩
  rw [hn] at hL ⊢
  have HNg := Lib.hid hn
  have Lg := hL
  clear hn hO hP hL
  go_wp2_with fail
  refine (to_impl Ag ng cg zsg s l f t w1 (HDC.out.blw B1) (HHT.out.blw B1) HNg.out (by omega) Rg1 HWg.out).mono ?_
  rintro e w2 ⟨⟨v, rfl, hv⟩, hX⟩
  have hX0 := hX
  have Rg2 := Rg1.below hX
  have B2 := B1.trans (hX.mono B1.size)
  clear Rg1 B1 hX
  have hlen := toL_len0 zsg s l f t
  obtain ⟨Al, cl, rfl, hR⟩ := LstG.slice hv
  have Rl2 : Reads w2 w2.heap.size Al (cells3 (toL zsg s l f t)) := hR
  clear hv hX0 hR
  go_wp2_with fail
  refine (to_spec Ag ng cg zsg s l f t w2 HNg.out (by omega) Rg2).mono ?_
  rintro e w3 ⟨⟨v, rfl, hv⟩, hX⟩
  have hX0 := hX
  have Rg3 := Rg2.below hX
  have Rl3 := Rl2.below hX
  have B3 := B2.trans (hX.mono B2.size)
  clear Rg2 Rl2 B2 hX
  obtain ⟨Am, cm, rfl, hR⟩ := LstG.slice hv
  have Rm3 : Reads w3 w3.heap.size Am (cells3 (toL zsg s l f t)) := hR
  obtain ⟨nl, hnl⟩ : ∃ q, (toL zsg s l f t).length = q := ⟨_, rfl⟩
  rw [hnl] at hlen ⊢
  have HNL := Lib.hid hnl
  clear hv hX0 hR hnl
  go_wp2_with fail
  refine (drawTH_any A0 n0 c0 w3 (by omega) (hB0.later B3)).mono ?_
  rintro e w4 ⟨n, rfl, hn, hX⟩
  have Rg4 := Rg3.below hX
  have Rl4 := Rl3.below hX
  have Rm4 := Rm3.below hX
  have B4 := B3.trans (hX.mono B3.size)
  clear Rg3 Rl3 Rm3 B3 hX
  go_wp2_with fail
  refine (th_impl n w4 (HHT.out.blw B4)).mono ?_
  rintro e w' ⟨rfl, rfl⟩
  go_wp2_with fail
  refine (th_spec n w4).mono ?_
  rintro e w5 ⟨rfl, hX⟩
  have Rg5 := Rg4.gr hX
  have Rl5 := Rl4.gr hX
  have Rm5 := Rm4.gr hX
  have B5 := B4.trans ((hX.below).mono B4.size)
  clear Rg4 Rl4 Rm4 B4 hX
  go_wp2_with fail
  refine (drawCH_any A0 n0 c0 w5 (by omega) (hB0.later B5)).mono ?_
  rintro e w6 ⟨v, zsc, rfl, hL, hP, hO, hX⟩
  have Rg6 := Rg5.below hX
  have Rl6 := Rl5.below hX
  have Rm6 := Rm5.below hX
  have B6 := B5.trans (hX.mono B5.size)
  clear Rg5 Rl5 Rm5 B5 hX
  obtain ⟨Ac, cc, rfl, Rc6⟩ := Lst3.slice hO
  have HWc := Lib.hid (ptb_wf hP)
  obtain ⟨nc, hn⟩ : ∃ q, zsc.length = q := ⟨_, rfl⟩
  rw [hn] at hL ⊢
  have HNc := Lib.hid hn
  have Lc := hL
  clear hn hO hP hL
  go_wp2_with fail
  refine (ch_impl Ac nc cc zsc w6 HNc.out (by omega) Rc6 HWc.out (HHT.out.blw B6)).mono ?_
  rintro e w7 ⟨⟨v, rfl, hv⟩, hX⟩
  have hX0 := hX
  have Rg7 := Rg6.below hX
  have Rl7 := Rl6.below hX
  have Rm7 := Rm6.below hX
  have Rc7 := Rc6.below hX
  have B7 := B6.trans (hX.mono B6.size)
  clear Rg6 Rl6 Rm6 Rc6 B6 hX
  obtain ⟨Ak, ck, rfl, Rk7⟩ := Lst.slice hv
  clear hv hX0
  go_wp2_with fail
  refine (ch_spec Ac nc cc zsc w7 HNc.out (by omega) Rc7).mono ?_
  rintro e w8 ⟨⟨v, rfl, hv⟩, hX⟩
  have hX0 := hX
  have Rg8 := Rg7.below hX
  have Rl8 := Rl7.below hX
  have Rm8 := Rm7.below hX
  have Rc8 := Rc7.below hX
  have Rk8 := Rk7.below hX
  have B8 := B7.trans (hX.mono B7.size)
  clear Rg7 Rl7 Rm7 Rc7 Rk7 B7 hX
  obtain ⟨Aj, cj, rfl, Rj8⟩ := Lst.slice hv
  obtain ⟨nk, hnk⟩ : ∃ q, (chL zsc).length = q := ⟨_, rfl⟩
  have hkl := chL_len zsc
  rw [hnk] at hkl ⊢
  have HNK := Lib.hid hnk
  clear hv hX0 hnk
  generalize thV n = hv at *
  generalize thE n = he at *
  have HF := Lib.hid (to_facts zsg s l f t)
  have HC := Lib.hid (ch_facts zsc)
  generalize toE zsg s l f t = ea at *
  generalize toL zsg s l f t = TL at *
  generalize chL zsc = KL at *
  go_wp2_with fail
  refine (likeTicks_same _ _ nl cl cm TL w8 HNL.out (by omega) Rl8 Rm8).mono ?_
  rintro e w9 ⟨rfl, hX⟩
  have Rg9 := Rg8.gr hX
  have Rl9 := Rl8.gr hX
  have Rm9 := Rm8.gr hX
  have Rc9 := Rc8.gr hX
  have Rk9 := Rk8.gr hX
  have Rj9 := Rj8.gr hX
  have B9 := B8.trans ((hX.below).mono B8.size)
  clear Rg8 Rl8 Rm8 Rc8 Rk8 Rj8 B8 hX
  clear Rm9
  go_wp2_with fail
  refine (likeInts_same _ _ nk ck cj KL w9 HNK.out (by omega) Rk9 Rj9).mono ?_
  rintro e w10 ⟨rfl, hX⟩
  have Rg10 := Rg9.gr hX
  have Rl10 := Rl9.gr hX
  have Rc10 := Rc9.gr hX
  have Rk10 := Rk9.gr hX
  have Rj10 := Rj9.gr hX
  have B10 := B9.trans ((hX.below).mono B9.size)
  clear Rg9 Rl9 Rc9 Rk9 Rj9 B9 hX
  clear Rj10
  by_cases hb : cmE zsc = 0
  · obtain ⟨h1, h2⟩ := HC.out hb
    have H1 := Lib.hid h1
    have H2 := Lib.hid h2
    have HCM := Lib.hid (fun W (h : Reads W W.heap.size Ac (cells3 zsc)) => cm_impl Ac nc cc zsc W HNc.out (by omega) h HWc.out)
    rw [hb] at HCM ⊢
    rw [← H1.out] at HCM
    clear h1 h2 HC hb
    go_wp2_with fail
    refine (HCM.out w10 Rc10).mono ?_
    rintro e w11 ⟨rfl, hX⟩
    have Rg11 := Rg10.gr hX
    have Rl11 := Rl10.gr hX
    have Rc11 := Rc10.gr hX
    have Rk11 := Rk10.gr hX
    have B11 := B10.trans ((hX.below).mono B10.size)
    clear Rg10 Rl10 Rc10 Rk10 B10 hX
    go_wp2_with fail
    refine (sum_any Ak nk ck KL w11 HNK.out (by omega) H2.out Rk11).mono ?_
    rintro e w' ⟨rfl, rfl⟩
    generalize KL.sum = sm at *
    go_wp2_with fail
    have HRg := Lib.hid Rg11
    have HRl := Lib.hid Rl11
    have HB := Lib.hid B11
    clear Rg11 Rl11 B11 Rc11 Rk11
    obtain ⟨W, hW⟩ : ∃ W, W = w11 := ⟨_, rfl⟩
    rw [← hW] at HRg HRl HB ⊢
    clear hW
    go_loopw [24] (fun i wr => ∃ k : Nat, i = .int .i64 k ∧ Hid (ea = 0 → k ≤ nl) ∧ Gr W wr) (fun i _ => nl - (intOf i).toNat)
    case atStart => exact ⟨0, rfl, Lib.hid (fun _ => by omega), Gr.refl _⟩
    case round =>
      obtain ⟨k, rfl, hk, hG⟩ := hrel
      have BW := HB.out.trans (hG.below.mono HB.out.size)
      by_cases h0 : ea = 0
      · subst h0
        have hk := hk.out rfl
        obtain ⟨g1, g2, g3⟩ := HF.out rfl
        by_cases hlt : k < nl
        · obtain ⟨x, hx⟩ := some_at (l := TL) (k := k) (by rw [HNL.out]; exact hlt)
          obtain ⟨q1, q2, q3⟩ := g3 x (List.mem_of_getElem? hx)
          obtain ⟨gl, ol, rfl, hgl, z0, z1, z2⟩ := (HRl.out.gr hG).at3 hx
          have HX1 := Lib.hid g1
          have HX2 := Lib.hid q1
          have HX3 := Lib.hid q2
          have HX4 := Lib.hid q3
          have HTH := Lib.hid (fun W' (h : Gr wr W') => th_impl x.1 W' ((HHT.out.blw BW).gr h))
          have HIM := Lib.hid (fun W' (h : Gr wr W') => im_impl Ag ng cg zsg x.1 W' HNg.out (by omega) ((HRg.out.gr hG).gr h) HWg.out)
          rw [HX3.out, HX4.out] at HTH
          rw [HX1.out, HX2.out] at HIM
          by_cases hk0 : k = 0
          · subst hk0
            obtain ⟨xa, xb, xc⟩ := x
            simp only [Nat.zero_mul, Nat.add_zero] at z0 z1 z2
            simp only at HTH HIM
            clear hx g1 g2 g3 q1 q2 q3 BW HX2 HX3 HX4
            go_wp2_with fail
            refine (HTH.out _ (Gr.refl _)).mono ?_
            rintro e w' ⟨rfl, rfl⟩
            go_wp2_with fail
            refine (HIM.out _ (Gr.refl _)).mono ?_
            rintro e wz ⟨rfl, hX⟩
            have z1' := (hX.below.cell (p := ⟨gl, ol + 1, none⟩) hgl).trans z1
            have z2' := (hX.below.cell (p := ⟨gl, ol + 2, none⟩) hgl).trans z2
            have hgl2 : gl < wz.heap.size := World.block_lt_of_cell? _ _ z1'
            have HG := Lib.hid (hG.trans hX)
            clear z0 z1 z2 hX hG HTH HIM
            go_wp2_with fail
            go_quiet (fail)
            go_wp2_with fail
            go_roundw
            case rel => exact ⟨1, by go_num, Lib.hid (fun _ => by omega), HG.out.drewN nq⟩
            case measure => simp [intOf]; omega
          · obtain ⟨y, hy⟩ := some_at (l := TL) (k := k - 1) (by rw [HNL.out]; omega)
            have hyx : y.2.1 ≤ x.2.1 := by
              obtain ⟨a1, e1⟩ := List.getElem?_eq_some_iff.1 hy
              obtain ⟨a2, e2⟩ := List.getElem?_eq_some_iff.1 hx
              rw [← e1, ← e2]
              exact List.pairwise_iff_getElem.1 g2 (k - 1) k a1 a2 (by omega)
            obtain ⟨gm, om, em, hgm, y0, y1, y2⟩ := (HRl.out.gr hG).at3 hy
            obtain ⟨rfl, rfl⟩ : gl = gm ∧ ol = om := by injection em with em; injection em with e1 e2; exact ⟨e1, e2⟩
            obtain ⟨xa, xb, xc⟩ := x
            obtain ⟨ya, yb, yc⟩ := y
            simp only at z0 z1 z2 y1 hyx HTH HIM
            have d3 : decide (xb < yb) = false := decide_eq_false (by omega)
            have d4 : decide (0 < (k : Int)) = true := decide_eq_true (by omega)
            have d5 : decide (0 < k) = true := decide_eq_true (by omega)
            have d6 : 0 < k := by omega
            have hk2 : (1 : Int) ≤ (k : Int) := by omega
            have hk3 : (k : Int) - 1 < (nl : Int) := by omega
            have hk4 : (k : Int) < (nl : Int) := by omega
            have hk5 : (0 : Int) ≤ (k : Int) := by omega
            have hwk2 : IntKind.i64.wrap ((k : Int) - 1) = (k : Int) - 1 := IntWalk.i64_in _ (by omega)
            clear hx g1 g2 g3 q1 q2 q3 BW HX2 HX3 HX4 hy em hk0 y0 y2 hyx
            go_wp2_with fail
            refine (HTH.out _ (Gr.refl _)).mono ?_
            rintro e w' ⟨rfl, rfl⟩
            go_wp2_with fail
            refine (HIM.out _ (Gr.refl _)).mono ?_
            rintro e wz ⟨rfl, hX⟩
            have z1' := (hX.below.cell (p := ⟨gl, ol + k * 3 + 1, none⟩) hgl).trans z1
            have z2' := (hX.below.cell (p := ⟨gl, ol + k * 3 + 2, none⟩) hgl).trans z2
            have y1' := (hX.below.cell (p := ⟨gl, ol + (k - 1) * 3 + 1, none⟩) hgl).trans y1
            have hgl2 : gl < wz.heap.size := World.block_lt_of_cell? _ _ z1'
            have HG := Lib.hid (hG.trans hX)
            clear z0 z1 z2 y1 hX hG hgm HTH HIM
            go_wp2_with fail
            go_quiet (fail)
            go_wp2_with fail
            go_roundw
            case rel => exact ⟨k + 1, by go_num, Lib.hid (fun _ => by omega), HG.out.drewN nq⟩
            case measure => simp [intOf]; omega
        · obtain rfl : k = nl := by omega
          clear g1 g2 g3 hk hlt
          go_wp2_with fail
          go_ret
          exact ⟨rfl, BW⟩
      · have h0' : (ea == 0) = false := by simpa using h0
        go_wp2_with fail
        go_ret
        exact ⟨rfl, BW⟩
  · have hb0 : (cmE zsc == 0) = false := by simpa using hb
    generalize cmE zsc = eb at *
    go_wp2_with fail
    have HRg := Lib.hid Rg10
    have HRl := Lib.hid Rl10
    have HB := Lib.hid B10
    clear Rg10 Rl10 B10 Rc10 Rk10
    obtain ⟨W, hW⟩ : ∃ W, W = w10 := ⟨_, rfl⟩
    rw [← hW] at HRg HRl HB ⊢
    clear hW
    go_loopw [24] (fun i wr => ∃ k : Nat, i = .int .i64 k ∧ Hid (ea = 0 → k ≤ nl) ∧ Gr W wr) (fun i _ => nl - (intOf i).toNat)
    case atStart => exact ⟨0, rfl, Lib.hid (fun _ => by omega), Gr.refl _⟩
    case round =>
      obtain ⟨k, rfl, hk, hG⟩ := hrel
      have BW := HB.out.trans (hG.below.mono HB.out.size)
      by_cases h0 : ea = 0
      · subst h0
        have hk := hk.out rfl
        obtain ⟨g1, g2, g3⟩ := HF.out rfl
        by_cases hlt : k < nl
        · obtain ⟨x, hx⟩ := some_at (l := TL) (k := k) (by rw [HNL.out]; exact hlt)
          obtain ⟨q1, q2, q3⟩ := g3 x (List.mem_of_getElem? hx)
          obtain ⟨gl, ol, rfl, hgl, z0, z1, z2⟩ := (HRl.out.gr hG).at3 hx
          have HX1 := Lib.hid g1
          have HX2 := Lib.hid q1
          have HX3 := Lib.hid q2
          have HX4 := Lib.hid q3
          have HTH := Lib.hid (fun W' (h : Gr wr W') => th_impl x.1 W' ((HHT.out.blw BW).gr h))
          have HIM := Lib.hid (fun W' (h : Gr wr W') => im_impl Ag ng cg zsg x.1 W' HNg.out (by omega) ((HRg.out.gr hG).gr h) HWg.out)
          rw [HX3.out, HX4.out] at HTH
          rw [HX1.out, HX2.out] at HIM
          by_cases hk0 : k = 0
          · subst hk0
            obtain ⟨xa, xb, xc⟩ := x
            simp only [Nat.zero_mul, Nat.add_zero] at z0 z1 z2
            simp only at HTH HIM
            clear hx g1 g2 g3 q1 q2 q3 BW HX2 HX3 HX4
            go_wp2_with fail
            refine (HTH.out _ (Gr.refl _)).mono ?_
            rintro e w' ⟨rfl, rfl⟩
            go_wp2_with fail
            refine (HIM.out _ (Gr.refl _)).mono ?_
            rintro e wz ⟨rfl, hX⟩
            have z1' := (hX.below.cell (p := ⟨gl, ol + 1, none⟩) hgl).trans z1
            have z2' := (hX.below.cell (p := ⟨gl, ol + 2, none⟩) hgl).trans z2
            have hgl2 : gl < wz.heap.size := World.block_lt_of_cell? _ _ z1'
            have HG := Lib.hid (hG.trans hX)
            clear z0 z1 z2 hX hG HTH HIM
            go_wp2_with fail
            go_quiet (fail)
            go_wp2_with fail
            go_roundw
            case rel => exact ⟨1, by go_num, Lib.hid (fun _ => by omega), HG.out.drewN nq⟩
            case measure => simp [intOf]; omega
          · obtain ⟨y, hy⟩ := some_at (l := TL) (k := k - 1) (by rw [HNL.out]; omega)
            have hyx : y.2.1 ≤ x.2.1 := by
              obtain ⟨a1, e1⟩ := List.getElem?_eq_some_iff.1 hy
              obtain ⟨a2, e2⟩ := List.getElem?_eq_some_iff.1 hx
              rw [← e1, ← e2]
              exact List.pairwise_iff_getElem.1 g2 (k - 1) k a1 a2 (by omega)
            obtain ⟨gm, om, em, hgm, y0, y1, y2⟩ := (HRl.out.gr hG).at3 hy
            obtain ⟨rfl, rfl⟩ : gl = gm ∧ ol = om := by injection em with em; injection em with e1 e2; exact ⟨e1, e2⟩
            obtain ⟨xa, xb, xc⟩ := x
            obtain ⟨ya, yb, yc⟩ := y
            simp only at z0 z1 z2 y1 hyx HTH HIM
            have d3 : decide (xb < yb) = false := decide_eq_false (by omega)
            have d4 : decide (0 < (k : Int)) = true := decide_eq_true (by omega)
            have d5 : decide (0 < k) = true := decide_eq_true (by omega)
            have d6 : 0 < k := by omega
            have hk2 : (1 : Int) ≤ (k : Int) := by omega
            have hk3 : (k : Int) - 1 < (nl : Int) := by omega
            have hk4 : (k : Int) < (nl : Int) := by omega
            have hk5 : (0 : Int) ≤ (k : Int) := by omega
            have hwk2 : IntKind.i64.wrap ((k : Int) - 1) = (k : Int) - 1 := IntWalk.i64_in _ (by omega)
            clear hx g1 g2 g3 q1 q2 q3 BW HX2 HX3 HX4 hy em hk0 y0 y2 hyx
            go_wp2_with fail
            refine (HTH.out _ (Gr.refl _)).mono ?_
            rintro e w' ⟨rfl, rfl⟩
            go_wp2_with fail
            refine (HIM.out _ (Gr.refl _)).mono ?_
            rintro e wz ⟨rfl, hX⟩
            have z1' := (hX.below.cell (p := ⟨gl, ol + k * 3 + 1, none⟩) hgl).trans z1
            have z2' := (hX.below.cell (p := ⟨gl, ol + k * 3 + 2, none⟩) hgl).trans z2
            have y1' := (hX.below.cell (p := ⟨gl, ol + (k - 1) * 3 + 1, none⟩) hgl).trans y1
            have hgl2 : gl < wz.heap.size := World.block_lt_of_cell? _ _ z1'
            have HG := Lib.hid (hG.trans hX)
            clear z0 z1 z2 y1 hX hG hgm HTH HIM
            go_wp2_with fail
            go_quiet (fail)
            go_wp2_with fail
            go_roundw
            case rel => exact ⟨k + 1, by go_num, Lib.hid (fun _ => by omega), HG.out.drewN nq⟩
            case measure => simp [intOf]; omega
        · obtain rfl : k = nl := by omega
          clear g1 g2 g3 hk hlt
          go_wp2_with fail
          go_ret
          exact ⟨rfl, BW⟩
      · have h0' : (ea == 0) = false := by simpa using h0
        go_wp2_with fail
        go_ret
        exact ⟨rfl, BW⟩

set_option maxHeartbeats 4000000 in
set_option maxRecDepth 100000 in
theorem walk (w : World) (hL : laidMet Tryd.prog Rows.fnTicksRow.laid w) (A0 : Option Addr) (n0 c0 : Nat) (hB0 : Bytes w w.heap.size A0 n0) :
    Calls Tryd.prog 5 #[.slice A0 n0 c0] w (LawDone w) := by
  have hDC := dcsl hL
  have hHT := htsl hL
  clear hL
  by_cases hbig : 4096 < n0
  · have hd : decide ((4096 : Int) < n0) = true := by simp; omega
    go_enter Tryd.func5, Tryd.ntmps5
    go_wp2_with fail
    refine (big_any A0 n0 c0 w).mono ?_
    rw [hd]
    rintro e w1 ⟨rfl, rfl⟩
    go_wp2_with fail
    go_ret
    exact ⟨rfl, Below.refl _ _⟩
  · exact walk1 w hDC hHT A0 n0 c0 hB0 hbig

set_option maxRecDepth 100000 in
theorem lifted (os : Os) (started : os.Started) (H : Type) (enc : TypeId × Value → H) :
    ReturnsInHanded {} Tryd.checked os 5 .any (fun w args => (Rows.fnTicksSpec.pre enc Tryd.prog Tryd.f5 Rows.fnTicksRow.domain false w args ∧ laidMetH Tryd.prog Rows.fnTicksRow.laid w) ∧ sizedMet enc Tryd.prog Tryd.f5 (OpenSpec.ofChange Rows.fnTicksSpec) false w args) (Rows.fnTicksSpec.post enc Tryd.prog Tryd.f5 false true false false) := by
  refine returnsInHanded_of_change_and (C := Tryd.checked) (X := fun w _ => laidMetH Tryd.prog Rows.fnTicksRow.laid w) (fun _ _ _ hh h => h.of_heap hh) own started (by kernel_rfl) Tryd.func5
    (ChangeSpec.witness_shaped (enc := enc) (C := Tryd.checked) (os := os) (X := fun w _ => laidMetH Tryd.prog Rows.fnTicksRow.laid w) false (World.laidAll Tryd.prog os Rows.fnTicksRow.laid) #[.slice none 0 0] 8 (World.laidAll_os _ _ _)
      (World.shaped_of_ZipB (by kernel_rfl) (by kernel_rfl)) (by kernel_rfl) (by kernel_rfl) (by kernel_rfl)
      (by rw [MakeChecks.laidMetH_plain _ _ _ (by kernel_rfl)]; exact laidMet_laidAll _ (by kernel_rfl) (by kernel_rfl))) ?_
  intro W base args ds gs before hval0 hW _ _ hL _
  rw [MakeChecks.laidMetH_plain _ _ _ (by kernel_rfl)] at hL
  have hval : ∀ (j : Nat) t v, Tryd.f5.params[j]? = some t → args[j]? = some v → Value.okWide Tryd.prog W .any base t v := hval0
  have hW' := hW
  obtain ⟨p, q, hA0, hV, hpq, hfz, hnd⟩ := hW
  have hA : DataW.TrodAll enc Tryd.prog W 0 (fun _ => true) true Tryd.f5.params.toList args.toList ds p := hA0
  have hT := hA
  obtain ⟨g1, g2, rfl⟩ := vars_two hV
  rw [Tryd.params5] at hA hval
  obtain ⟨v0, vs0, d0, ds0, p0, q0, hargs, rfl, rfl, h0, r0⟩ := trodAll_cons hA
  obtain ⟨rfl, rfl, rfl⟩ := trodAll_nil r0
  obtain rfl : args = #[v0] := by cases args; simp_all
  obtain ⟨A0, n0, c0, rfl, -, hB0⟩ := open_code Tryd.underlying22 Tryd.underlying5 (by kernel_rfl) (hval 0 22 v0 rfl rfl) h0
  clear hA0 hval0
  refine (walk W hL A0 n0 c0 hB0).mono fun e W' ⟨he, hb⟩ => ?_
  subst he
  exact ⟨_, rfl, law_postv laidOut hW' hT hpq (by kernel_rfl) (by kernel_rfl) hV rfl rfl rfl rfl Tryd.underlying4 hb⟩

theorem over : Rows.fnTicksRow.holds Tryd.pinned (OpenSpec.ofChange Rows.fnTicksSpec) :=
  OpenClaim.holds_of_wide 5 Tryd.f5 rfl rfl rfl rfl rfl rfl rfl ⟨rfl, rfl, rfl, rfl, rfl⟩ rfl rfl rfl rfl rfl (by kernel_rfl) Tryd.func5 (by kernel_rfl)
    (of_decide_eq_true (by kernel_rfl)) (by unfold Func.isWrapper; first | (rw [if_pos (by decide +kernel)]; kernel_rfl) | (rw [if_neg (by decide +kernel)]; exact ⟨rfl, rfl⟩))
    (fun os started H enc _ => lifted os started H enc)

theorem proved : Rows.FnTicksCardSaid :=
  Claim7.holds_tied_plain_at .later [] Rows.fnTicksCard.laidKinds true Rows.fnTicksCard.stood.harness Rows.fnTicksCard.stood.looks
    over (fun _ h => by cases h) (by kernel_rfl) (fun _ h => by cases h) fnTicks_row_tie rfl ⟨rfl, rfl⟩ (by kernel_rfl) rfl
    (fun f fn hf hfn => by
      obtain rfl : f = 5 := Option.some.inj ((show Tryd.prog.funcNamed Rows.fnTicksRow.func = some 5 by kernel_rfl).symm.trans hf) |>.symm
      obtain rfl : fn = Tryd.f5 := (Option.some.inj (Tryd.func5.symm.trans hfn)).symm
      exact ⟨by kernel_rfl, fun j t ht => by
        rw [Tryd.params5] at ht
        have hm : t ∈ [22] := by simpa using Array.mem_of_getElem? ht
        have hall : ([22].all fun u => !Tryd.prog.wantsStandIn u) = true := by kernel_rfl
        exact (show Tryd.prog.wantsStandIn t = false by simpa using List.all_eq_true.1 hall t hm)⟩)
    (by kernel_rfl)
end Go.Proofs.YtggflladheemoaaDoor.fnTicks
