/- For every code of bytes the chosen graduations, finest steps and least distances that are drawn are as the law FnChosen says, and it returns true. No condition beyond the tables as the program's text lays them. -/
import Derived.Test.YtggflladheemoaaDoorC07s
import Derived.Test.YtggflladheemoaaDoor7B
import Derived.Test.YtggflladheemoaaDoorC07q
import Derived.Test.YtggflladheemoaaDoorC07p
import Derived.Test.YtggflladheemoaaDoorC07l
import Derived.Test.YtggflladheemoaaDoor7A
import Derived.Test.YtggflladheemoaaDoorD23
import Derived.Test.YtggflladheemoaaDoorLk
import Derived.Test.YtggflladheemoaaDoorBig
import Derived.Test.YtggflladheemoaaDoorDr
import Derived.Test.YtggflladheemoaaDoorTie
import Derived.Test.YtggflladheemoaaDoorCards
import Derived.Test.YtggflladheemoaaDoorFr
import Derived.Test.YtggflladheemoaaDoorFv
import Derived.Test.YtggflladheemoaaDoorRows
import Derived.WalkKit
import Derived.ProofKit
import Derived.OpenShut
namespace Go.Proofs.YtggflladheemoaaDoor.fnChosen
open Go.ChangeShapes Go.WideShapes Go.ChangeAt Go.RowKit
set_option linter.unusedVariables false
set_option linter.unusedSimpArgs false

theorem own : ownKnob Tryd.prog.godebug = none := by kernel_rfl

theorem dcsl {w : World} (hL : laidMet Tryd.prog Rows.fnChosenRow.laid w) : Dcs w := by
  have h := hL.filter (fun x => x.1 == "loop.example/g00951/impl.scaleDecades")
  have e : Rows.fnChosenRow.laid.filter (fun x => x.1 == "loop.example/g00951/impl.scaleDecades") = [("loop.example/g00951/impl.scaleDecades", Lib.tabData .i64 [1, 2, 3, 1, 1, 1])] := by rfl
  rw [e] at h
  exact dcs_of (Lib.tabIs_of_head (g := 5) (by kernel_rfl) (by kernel_rfl) Tryd.underlying245 Tryd.underlying2 (by kernel_rfl) (by kernel_rfl) h)

theorem ussl {w : World} (hL : laidMet Tryd.prog Rows.fnChosenRow.laid w) : Uss w := by
  have h := hL.filter (fun x => x.1 == "loop.example/g00951/impl.usualSteps")
  have e : Rows.fnChosenRow.laid.filter (fun x => x.1 == "loop.example/g00951/impl.usualSteps") = [("loop.example/g00951/impl.usualSteps", Lib.tabData .i64 [1, 2, 5, 10, 20, 50, 100, 200, 500])] := by rfl
  rw [e] at h
  exact uss_of (Lib.tabIs_of_head (g := 1) (by kernel_rfl) (by kernel_rfl) Tryd.underlying93 Tryd.underlying2 (by kernel_rfl) (by kernel_rfl) h)

theorem chpl {w : World} (hL : laidMet Tryd.prog Rows.fnChosenRow.laid w) : Chp w := by
  have h := hL.filter (fun x => x.1 == "loop.example/g00951/impl.chosenParts")
  have e : Rows.fnChosenRow.laid.filter (fun x => x.1 == "loop.example/g00951/impl.chosenParts") = [("loop.example/g00951/impl.chosenParts", s3Data [(1000, 2000, 0), (2000, 5000, 0), (5000, 10000, 0)])] := by rfl
  rw [e] at h
  exact chp_of h


theorem coL_len (s l lim : Int) : (coL s l lim).length ≤ 3 := by
  unfold coL
  split
  · simp [chG]
  · simp
theorem half_bd {m : Int} (h0 : -1 ≤ m) (h1 : m ≤ 100001) : -100001 ≤ m.tdiv 2 ∧ m.tdiv 2 ≤ 100001 := by
  by_cases h : 0 ≤ m
  · rw [Int.tdiv_eq_ediv_of_nonneg h]
    omega
  · obtain rfl : m = -1 := by omega
    decide
theorem fn_facts (s l f t lim : Int) : (fnR s l f t lim).2 = 0 → 1 ≤ (fnR s l f t lim).1 ∧ (t - f).tmod (fnR s l f t lim).1 = 0 := by
  intro h
  cases hk : okF s l f t lim
  · rw [fnR_rg _ _ _ _ _ hk] at h; simp at h
  · by_cases h0 : fnS s l f t lim = 0
    · rw [fnR_no _ _ _ _ _ hk h0] at h; simp at h
    · obtain ⟨-, h2, h3⟩ := fnS_facts s l f t lim h0
      rw [fnR_ok _ _ _ _ _ hk h0]
      exact ⟨h2.1, h3⟩
theorem ch_facts (s l m : Int) : chC s l m = 0 → gd (chG s l m) = true ∧ coL s l m = chG s l m ∧ ∀ f t, ((f = 1000 ∧ t = 2000) ∨ (f = 2000 ∧ t = 5000) ∨ (f = 5000 ∧ t = 10000)) → fnR s l f t m = (fnS s l f t m, 0) ∧ ∃ y, fnR s l f t (m.tdiv 2) = (y, 0) ∧ y ≤ fnS s l f t m :=
  fun h => ⟨chG_gd h, coL_ok h, fun f t hft => chG_steps h f t hft⟩
theorem chG_at (s l m : Int) (k : Nat) (h : k < 3) : ∃ f t, (chG s l m)[k]? = some (f, t, fnS s l f t m) ∧ ((f = 1000 ∧ t = 2000) ∨ (f = 2000 ∧ t = 5000) ∨ (f = 5000 ∧ t = 10000)) := by
  rcases (show k = 0 ∨ k = 1 ∨ k = 2 by omega) with rfl | rfl | rfl
  · exact ⟨_, _, rfl, .inl ⟨rfl, rfl⟩⟩
  · exact ⟨_, _, rfl, .inr (.inl ⟨rfl, rfl⟩)⟩
  · exact ⟨_, _, rfl, .inr (.inr ⟨rfl, rfl⟩)⟩
theorem fnS_bd (s l f t m : Int) : 0 ≤ fnS s l f t m ∧ fnS s l f t m ≤ 500 := by
  by_cases h : fnS s l f t m = 0
  · omega
  · have := (fnS_facts s l f t m h).2.1
    omega
theorem wf3_of {a b c : Int} (ha : -1000000 ≤ a ∧ a ≤ 1000000) (hb : -1000000 ≤ b ∧ b ≤ 1000000) (hc : -1000000 ≤ c ∧ c ≤ 1000000) : (Lit.int .i64 (a, b, c).1).wf = true ∧ (Lit.int .i64 (a, b, c).2.1).wf = true ∧ (Lit.int .i64 (a, b, c).2.2).wf = true := ⟨wf_of ha, wf_of hb, wf_of hc⟩
theorem chG_wf (s l m : Int) : Wf3 (chG s l m) := by
  intro z hz
  unfold chG at hz
  simp only [List.mem_cons, List.not_mem_nil, or_false] at hz
  have h1 := fnS_bd s l 1000 2000 m
  have h2 := fnS_bd s l 2000 5000 m
  have h3 := fnS_bd s l 5000 10000 m
  rcases hz with rfl | rfl | rfl
  · exact wf3_of (by omega) (by omega) (by omega)
  · exact wf3_of (by omega) (by omega) (by omega)
  · exact wf3_of (by omega) (by omega) (by omega)

set_option maxHeartbeats 8000000 in
set_option maxRecDepth 100000 in
/-- The walk of a code that is not too long. -/
theorem walk1 (w : World) (hDC : Dcs w) (hUS : Uss w) (hCP : Chp w) (A0 : Option Addr) (n0 c0 : Nat) (hB0 : Bytes w w.heap.size A0 n0) (hbig : ¬ 4096 < n0) :
    Calls Tryd.prog 3 #[.slice A0 n0 c0] w (LawDone w) := by
  have HDC := Lib.hid hDC
  clear hDC
  have HUS := Lib.hid hUS
  clear hUS
  have HCP := Lib.hid hCP
  clear hCP
  have hd : decide ((4096 : Int) < n0) = false := by simp; omega
  go_enter Tryd.func3, Tryd.ntmps3
  go_wp2_with fail
  refine (big_any A0 n0 c0 w).mono ?_
  rw [hd]
  rintro e w1 ⟨rfl, rfl⟩
  clear hd
  go_wp2_with fail
  refine (drawCG_any A0 n0 c0 w (by omega) hB0).mono ?_
  rintro e w1 ⟨s, l, m, rfl, hlim, hX⟩
  have B1 := hX
  clear  hX
  go_wp2_with fail
  refine (co_impl s l m w1 (HDC.out.blw B1) (HUS.out.gr (Gr.of_below B1)) (HCP.out.gr (Gr.of_below B1))).mono ?_
  rintro e w2 ⟨⟨v, rfl, hv⟩, hX⟩
  have hX0 := hX
  have B2 := B1.trans (hX.mono B1.size)
  clear  B1 hX
  have hlen := coL_len s l m
  obtain ⟨Ag, cg, rfl, Rg2⟩ := Lst3.slice hv
  clear hv hX0
  go_wp2_with fail
  refine (co_spec s l m w2).mono ?_
  rintro e w3 ⟨⟨v, rfl, hv⟩, hX⟩
  have hX0 := hX
  have Rg3 := Rg2.below hX
  have B3 := B2.trans (hX.mono B2.size)
  clear Rg2 B2 hX
  obtain ⟨Am, cm, rfl, Rm3⟩ := Lst3.slice hv
  obtain ⟨ng, hng⟩ : ∃ q, (coL s l m).length = q := ⟨_, rfl⟩
  rw [hng] at hlen ⊢
  have HNG := Lib.hid hng
  clear hv hX0 hng
  go_wp2_with fail
  refine (drawFS_any A0 n0 c0 w3 (by omega) (hB0.later B3)).mono ?_
  rintro e w4 ⟨a, b, f, t, c, rfl, hfive, hX⟩
  have Rg4 := Rg3.below hX
  have Rm4 := Rm3.below hX
  have B4 := B3.trans (hX.mono B3.size)
  clear Rg3 Rm3 B3 hX
  obtain ⟨-, -, hf, ht, hc⟩ := hfive
  unfold NumN at hf ht
  unfold LimN at hc
  go_wp2_with fail
  refine (fnR_impl a b f t c w4 (HDC.out.blw B4) (HUS.out.gr (Gr.of_below B4))).mono ?_
  rintro e w5 ⟨rfl, hX⟩
  have Rg5 := Rg4.below hX
  have Rm5 := Rm4.below hX
  have B5 := B4.trans (hX.mono B4.size)
  clear Rg4 Rm4 B4 hX
  go_wp2_with fail
  refine (fnR_spec a b f t c w5 (by omega)).mono ?_
  rintro e w6 ⟨rfl, hX⟩
  have Rg6 := Rg5.below hX
  have Rm6 := Rm5.below hX
  have B6 := B5.trans (hX.mono B5.size)
  clear Rg5 Rm5 B5 hX
  go_wp2_with fail
  refine (drawLD_any A0 n0 c0 w6 (by omega) (hB0.later B6)).mono ?_
  rintro e w7 ⟨v, zsh, x, y, rfl, hL, hP, hx, hy, hO, hX⟩
  have Rg7 := Rg6.below hX
  have Rm7 := Rm6.below hX
  have B7 := B6.trans (hX.mono B6.size)
  clear Rg6 Rm6 B6 hX
  obtain ⟨Ah, ch, rfl, Rh7⟩ := Lst3.slice hO
  have HWh := Lib.hid (ptb_wf hP)
  obtain ⟨nh, hn⟩ : ∃ q, zsh.length = q := ⟨_, rfl⟩
  rw [hn] at hL ⊢
  have HNh := Lib.hid hn
  have Lh := hL
  clear hn hO hP hL
  go_wp2_with fail
  refine (ld_impl Ah nh ch zsh x y w7 HNh.out (by omega) Rh7 HWh.out (HDC.out.blw B7)).mono ?_
  rintro e w8 ⟨rfl, hX⟩
  have Rg8 := Rg7.below hX
  have Rm8 := Rm7.below hX
  have Rh8 := Rh7.below hX
  have B8 := B7.trans (hX.mono B7.size)
  clear Rg7 Rm7 Rh7 B7 hX
  go_wp2_with fail
  refine (ld_spec Ah nh ch zsh x y w8 HNh.out (by omega) Rh8).mono ?_
  rintro e w9 ⟨rfl, hX⟩
  have Rg9 := Rg8.below hX
  have Rm9 := Rm8.below hX
  have Rh9 := Rh8.below hX
  have B9 := B8.trans (hX.mono B8.size)
  clear Rg8 Rm8 Rh8 B8 hX
  clear Rh9
  have HL := Lib.hid (ldR_nn x y zsh)
  generalize ldR x y zsh = ld at *
  obtain ⟨ldv, lde⟩ := ld
  simp only at HL
  have HFN := Lib.hid (fn_facts a b f t c)
  generalize fnR a b f t c = fn at *
  obtain ⟨fnv, fne⟩ := fn
  simp only at HFN
  have HCH := Lib.hid (ch_facts s l m)
  go_wp2_with fail
  refine (likeParts_same _ _ ng cg cm (coL s l m) w9 HNG.out (by omega) Rg9 Rm9).mono ?_
  rintro e w10 ⟨rfl, hX⟩
  have Rg10 := Rg9.gr hX
  have Rm10 := Rm9.gr hX
  have B10 := B9.trans ((hX.below).mono B9.size)
  clear Rg9 Rm9 B9 hX
  clear Rm10
  by_cases hc0 : chC s l m = 0
  rotate_left
  · have hc1 : (chC s l m == 0) = false := by simpa using hc0
    clear HCH
    generalize chC s l m = cc at *
    by_cases hl0 : lde = 0
    · have hl1 : decide (ldv < 0) = false := decide_eq_false (by have := HL.out hl0; omega)
      subst hl0
      by_cases hf0 : fne = 0
      · obtain ⟨h1, h2⟩ := HFN.out hf0
        subst hf0
        have hd1 : decide (fnv < 1) = false := decide_eq_false (by omega)
        have hw1 : IntKind.i64.wrap (t - f) = t - f := IntWalk.i64_in _ (by omega)
        have hne : (fnv == 0) = false := by simp; omega
        have hmod : (t - f).tmod fnv = 0 := h2
        have hfv : ¬ fnv = 0 := by omega
        clear h2 HFN
        go_wp2_with fail
        go_ret
        exact ⟨rfl, B10⟩
      · have hf1 : (fne == 0) = false := by simpa using hf0
        clear HFN
        go_wp2_with fail
        go_ret
        exact ⟨rfl, B10⟩
    · have hl1 : (lde == 0) = false := by simpa using hl0
      by_cases hf0 : fne = 0
      · obtain ⟨h1, h2⟩ := HFN.out hf0
        subst hf0
        have hd1 : decide (fnv < 1) = false := decide_eq_false (by omega)
        have hw1 : IntKind.i64.wrap (t - f) = t - f := IntWalk.i64_in _ (by omega)
        have hne : (fnv == 0) = false := by simp; omega
        have hmod : (t - f).tmod fnv = 0 := h2
        have hfv : ¬ fnv = 0 := by omega
        clear h2 HFN
        go_wp2_with fail
        go_ret
        exact ⟨rfl, B10⟩
      · have hf1 : (fne == 0) = false := by simpa using hf0
        clear HFN
        go_wp2_with fail
        go_ret
        exact ⟨rfl, B10⟩
  by_cases hl0 : lde = 0
  · have hl1 : decide (ldv < 0) = false := decide_eq_false (by have := HL.out hl0; omega)
    subst hl0
    by_cases hf0 : fne = 0
    · obtain ⟨h1, h2⟩ := HFN.out hf0
      subst hf0
      have hd1 : decide (fnv < 1) = false := decide_eq_false (by omega)
      have hw1 : IntKind.i64.wrap (t - f) = t - f := IntWalk.i64_in _ (by omega)
      have hne : (fnv == 0) = false := by simp; omega
      have hmod : (t - f).tmod fnv = 0 := h2
      have hfv : ¬ fnv = 0 := by omega
      clear h2 HFN
      obtain ⟨g1, g2, g3⟩ := HCH.out hc0
      rw [hc0]
      have G1 := Lib.hid g1
      have G3 := Lib.hid g3
      have hng3 : ng = 3 := by rw [← HNG.out, g2]; rfl
      subst hng3
      rw [g2] at HNG
      have R2 : Reads w10 w10.heap.size Ag (cells3 (chG s l m)) := by have := Rg10; rwa [g2] at this
      clear g1 g2 g3 HCH hc0 Rg10 hlen
      have HWG := Lib.hid (chG_wf s l m)
      go_wp2_with fail
      refine (gd_impl Ag 3 cg (chG s l m) _ HNG.out (by omega) R2 HWG.out).mono ?_
      rw [G1.out]
      rintro e wq ⟨rfl, hX⟩
      have HR := Lib.hid (R2.gr hX)
      have HB := Lib.hid (B10.trans (hX.below.mono B10.size))
      clear R2 hX B10
      go_wp2_with fail
      go_loopw [26] (fun i wr => ∃ k : Nat, i = .int .i64 k ∧ k ≤ 3 ∧ Hid (Below wq.heap.size wq wr)) (fun i _ => 3 - (intOf i).toNat)
      case atStart => exact ⟨0, rfl, by omega, Lib.hid (Below.refl _ _)⟩
      case round =>
        obtain ⟨k, rfl, hk, HG⟩ := hrel
        by_cases hlt : k < 3
        · obtain ⟨f2, t2, hx, hft⟩ := chG_at s l m k hlt
          obtain ⟨e1, y2, e2, e3⟩ := G3.out f2 t2 hft
          have HRW := Lib.hid (HR.out.below HG.out)
          obtain ⟨g, o, rfl, hg, z0, z1, z2⟩ := HRW.out.at3 hx
          simp only at z0 z1 z2
          have hb1 : (k : Int) < 3 := by omega
          have hb2 : (0 : Int) ≤ (k : Int) := by omega
          have HBW := Lib.hid (HB.out.trans (HG.out.mono HB.out.size))
          have HF1 := Lib.hid (fun W (h : Gr wr W) => fnR_impl s l f2 t2 m W (HDC.out.blw (HBW.out.trans (h.below.mono HBW.out.size))) (HUS.out.gr (Gr.of_below (HBW.out.trans (h.below.mono HBW.out.size)))))
          have HF2 := Lib.hid (fun W (h : Gr wr W) => fnR_impl s l f2 t2 (m.tdiv 2) W (HDC.out.blw (HBW.out.trans (h.below.mono HBW.out.size))) (HUS.out.gr (Gr.of_below (HBW.out.trans (h.below.mono HBW.out.size)))))
          rw [e1] at HF1
          rw [e2] at HF2
          simp only at HF1 HF2
          have hle : decide (fnS s l f2 t2 m < y2) = false := decide_eq_false (by omega)
          generalize fnS s l f2 t2 m = fv at *
          have HC0 := Lib.hid (fun W (h : Gr wr W) => (h.below.cell (p := ⟨g, o + k * 3, none⟩) hg).trans z0)
          have HC1 := Lib.hid (fun W (h : Gr wr W) => (h.below.cell (p := ⟨g, o + k * 3 + 1, none⟩) hg).trans z1)
          have HC2 := Lib.hid (fun W (h : Gr wr W) => (h.below.cell (p := ⟨g, o + k * 3 + 2, none⟩) hg).trans z2)
          have hmd : IntKind.i64.wrap (m.tdiv 2) = m.tdiv 2 := IntWalk.i64_in _ (by have hh := half_bd hlim.2.2.1 hlim.2.2.2; omega)
          clear hx hft e1 e2 e3 z2
          go_wp2_with fail
          ((first | refine region_gr_on (by kernel_rfl) (by kernel_rfl) ?_ | refine region_gr (by kernel_rfl) (by kernel_rfl) ?_); (repeat (quiet_step (exact Calls.gr_of ((HF1.out _ (by repeat (first | with_reducible exact Gr.refl _ | with_reducible refine Gr.alloc ?_ _ | with_reducible refine Gr.gr ?_ _ _ | with_reducible refine Gr.drew ?_ | with_reducible refine Gr.drewN ?_ _))).mono fun e w' h => ⟨h.1, Gr.of_below h.2⟩)))); refine wpQuiet_nil ?_; intro _ hw'; obtain ⟨⟨kq, oq⟩, hw''⟩ := hw'; subst hw'')
          have HGA : Hid (Gr wr (gr wr kq oq)) := Lib.hid ⟨kq, oq, rfl⟩
          replace z0 := HC0.out _ HGA.out
          replace z1 := HC1.out _ HGA.out
          have hgA : g < (gr wr kq oq).heap.size := World.block_lt_of_cell? _ _ z0
          generalize gr wr kq oq = wa at *
          clear HF1
          go_wp2_with fail
          ((first | refine region_gr_on (by kernel_rfl) (by kernel_rfl) ?_ | refine region_gr (by kernel_rfl) (by kernel_rfl) ?_); (repeat (quiet_step (exact Calls.gr_of ((HF2.out _ (HGA.out.trans (by repeat (first | with_reducible exact Gr.refl _ | with_reducible refine Gr.alloc ?_ _ | with_reducible refine Gr.gr ?_ _ _ | with_reducible refine Gr.drew ?_ | with_reducible refine Gr.drewN ?_ _)))).mono fun e w' h => ⟨h.1, Gr.of_below h.2⟩)))); refine wpQuiet_nil ?_; intro _ hw'; obtain ⟨⟨kq, oq⟩, hw''⟩ := hw'; subst hw'')
          have HGB : Hid (Gr wr (gr wa kq oq)) := Lib.hid (HGA.out.trans ⟨kq, oq, rfl⟩)
          have z2 := HC2.out _ HGB.out
          generalize gr wa kq oq = wb at *
          have hgB : g < wb.heap.size := World.block_lt_of_cell? _ _ z2
          clear HF2 z0 z1 HGA hgA
          go_wp2_with fail
          go_roundw
          case rel => exact ⟨k + 1, by go_num, by omega, Lib.hid (HG.out.trans (HGB.out.below.mono HG.out.size))⟩
          case measure => simp [intOf]; omega
        · obtain rfl : k = 3 := by omega
          go_wp2_with fail
          go_ret
          exact ⟨rfl, HB.out.trans (HG.out.mono HB.out.size)⟩
    · have hf1 : (fne == 0) = false := by simpa using hf0
      clear HFN
      obtain ⟨g1, g2, g3⟩ := HCH.out hc0
      rw [hc0]
      have G1 := Lib.hid g1
      have G3 := Lib.hid g3
      have hng3 : ng = 3 := by rw [← HNG.out, g2]; rfl
      subst hng3
      rw [g2] at HNG
      have R2 : Reads w10 w10.heap.size Ag (cells3 (chG s l m)) := by have := Rg10; rwa [g2] at this
      clear g1 g2 g3 HCH hc0 Rg10 hlen
      have HWG := Lib.hid (chG_wf s l m)
      go_wp2_with fail
      refine (gd_impl Ag 3 cg (chG s l m) _ HNG.out (by omega) R2 HWG.out).mono ?_
      rw [G1.out]
      rintro e wq ⟨rfl, hX⟩
      have HR := Lib.hid (R2.gr hX)
      have HB := Lib.hid (B10.trans (hX.below.mono B10.size))
      clear R2 hX B10
      go_wp2_with fail
      go_loopw [26] (fun i wr => ∃ k : Nat, i = .int .i64 k ∧ k ≤ 3 ∧ Hid (Below wq.heap.size wq wr)) (fun i _ => 3 - (intOf i).toNat)
      case atStart => exact ⟨0, rfl, by omega, Lib.hid (Below.refl _ _)⟩
      case round =>
        obtain ⟨k, rfl, hk, HG⟩ := hrel
        by_cases hlt : k < 3
        · obtain ⟨f2, t2, hx, hft⟩ := chG_at s l m k hlt
          obtain ⟨e1, y2, e2, e3⟩ := G3.out f2 t2 hft
          have HRW := Lib.hid (HR.out.below HG.out)
          obtain ⟨g, o, rfl, hg, z0, z1, z2⟩ := HRW.out.at3 hx
          simp only at z0 z1 z2
          have hb1 : (k : Int) < 3 := by omega
          have hb2 : (0 : Int) ≤ (k : Int) := by omega
          have HBW := Lib.hid (HB.out.trans (HG.out.mono HB.out.size))
          have HF1 := Lib.hid (fun W (h : Gr wr W) => fnR_impl s l f2 t2 m W (HDC.out.blw (HBW.out.trans (h.below.mono HBW.out.size))) (HUS.out.gr (Gr.of_below (HBW.out.trans (h.below.mono HBW.out.size)))))
          have HF2 := Lib.hid (fun W (h : Gr wr W) => fnR_impl s l f2 t2 (m.tdiv 2) W (HDC.out.blw (HBW.out.trans (h.below.mono HBW.out.size))) (HUS.out.gr (Gr.of_below (HBW.out.trans (h.below.mono HBW.out.size)))))
          rw [e1] at HF1
          rw [e2] at HF2
          simp only at HF1 HF2
          have hle : decide (fnS s l f2 t2 m < y2) = false := decide_eq_false (by omega)
          generalize fnS s l f2 t2 m = fv at *
          have HC0 := Lib.hid (fun W (h : Gr wr W) => (h.below.cell (p := ⟨g, o + k * 3, none⟩) hg).trans z0)
          have HC1 := Lib.hid (fun W (h : Gr wr W) => (h.below.cell (p := ⟨g, o + k * 3 + 1, none⟩) hg).trans z1)
          have HC2 := Lib.hid (fun W (h : Gr wr W) => (h.below.cell (p := ⟨g, o + k * 3 + 2, none⟩) hg).trans z2)
          have hmd : IntKind.i64.wrap (m.tdiv 2) = m.tdiv 2 := IntWalk.i64_in _ (by have hh := half_bd hlim.2.2.1 hlim.2.2.2; omega)
          clear hx hft e1 e2 e3 z2
          go_wp2_with fail
          ((first | refine region_gr_on (by kernel_rfl) (by kernel_rfl) ?_ | refine region_gr (by kernel_rfl) (by kernel_rfl) ?_); (repeat (quiet_step (exact Calls.gr_of ((HF1.out _ (by repeat (first | with_reducible exact Gr.refl _ | with_reducible refine Gr.alloc ?_ _ | with_reducible refine Gr.gr ?_ _ _ | with_reducible refine Gr.drew ?_ | with_reducible refine Gr.drewN ?_ _))).mono fun e w' h => ⟨h.1, Gr.of_below h.2⟩)))); refine wpQuiet_nil ?_; intro _ hw'; obtain ⟨⟨kq, oq⟩, hw''⟩ := hw'; subst hw'')
          have HGA : Hid (Gr wr (gr wr kq oq)) := Lib.hid ⟨kq, oq, rfl⟩
          replace z0 := HC0.out _ HGA.out
          replace z1 := HC1.out _ HGA.out
          have hgA : g < (gr wr kq oq).heap.size := World.block_lt_of_cell? _ _ z0
          generalize gr wr kq oq = wa at *
          clear HF1
          go_wp2_with fail
          ((first | refine region_gr_on (by kernel_rfl) (by kernel_rfl) ?_ | refine region_gr (by kernel_rfl) (by kernel_rfl) ?_); (repeat (quiet_step (exact Calls.gr_of ((HF2.out _ (HGA.out.trans (by repeat (first | with_reducible exact Gr.refl _ | with_reducible refine Gr.alloc ?_ _ | with_reducible refine Gr.gr ?_ _ _ | with_reducible refine Gr.drew ?_ | with_reducible refine Gr.drewN ?_ _)))).mono fun e w' h => ⟨h.1, Gr.of_below h.2⟩)))); refine wpQuiet_nil ?_; intro _ hw'; obtain ⟨⟨kq, oq⟩, hw''⟩ := hw'; subst hw'')
          have HGB : Hid (Gr wr (gr wa kq oq)) := Lib.hid (HGA.out.trans ⟨kq, oq, rfl⟩)
          have z2 := HC2.out _ HGB.out
          generalize gr wa kq oq = wb at *
          have hgB : g < wb.heap.size := World.block_lt_of_cell? _ _ z2
          clear HF2 z0 z1 HGA hgA
          go_wp2_with fail
          go_roundw
          case rel => exact ⟨k + 1, by go_num, by omega, Lib.hid (HG.out.trans (HGB.out.below.mono HG.out.size))⟩
          case measure => simp [intOf]; omega
        · obtain rfl : k = 3 := by omega
          go_wp2_with fail
          go_ret
          exact ⟨rfl, HB.out.trans (HG.out.mono HB.out.size)⟩
  · have hl1 : (lde == 0) = false := by simpa using hl0
    by_cases hf0 : fne = 0
    · obtain ⟨h1, h2⟩ := HFN.out hf0
      subst hf0
      have hd1 : decide (fnv < 1) = false := decide_eq_false (by omega)
      have hw1 : IntKind.i64.wrap (t - f) = t - f := IntWalk.i64_in _ (by omega)
      have hne : (fnv == 0) = false := by simp; omega
      have hmod : (t - f).tmod fnv = 0 := h2
      have hfv : ¬ fnv = 0 := by omega
      clear h2 HFN
      obtain ⟨g1, g2, g3⟩ := HCH.out hc0
      rw [hc0]
      have G1 := Lib.hid g1
      have G3 := Lib.hid g3
      have hng3 : ng = 3 := by rw [← HNG.out, g2]; rfl
      subst hng3
      rw [g2] at HNG
      have R2 : Reads w10 w10.heap.size Ag (cells3 (chG s l m)) := by have := Rg10; rwa [g2] at this
      clear g1 g2 g3 HCH hc0 Rg10 hlen
      have HWG := Lib.hid (chG_wf s l m)
      go_wp2_with fail
      refine (gd_impl Ag 3 cg (chG s l m) _ HNG.out (by omega) R2 HWG.out).mono ?_
      rw [G1.out]
      rintro e wq ⟨rfl, hX⟩
      have HR := Lib.hid (R2.gr hX)
      have HB := Lib.hid (B10.trans (hX.below.mono B10.size))
      clear R2 hX B10
      go_wp2_with fail
      go_loopw [26] (fun i wr => ∃ k : Nat, i = .int .i64 k ∧ k ≤ 3 ∧ Hid (Below wq.heap.size wq wr)) (fun i _ => 3 - (intOf i).toNat)
      case atStart => exact ⟨0, rfl, by omega, Lib.hid (Below.refl _ _)⟩
      case round =>
        obtain ⟨k, rfl, hk, HG⟩ := hrel
        by_cases hlt : k < 3
        · obtain ⟨f2, t2, hx, hft⟩ := chG_at s l m k hlt
          obtain ⟨e1, y2, e2, e3⟩ := G3.out f2 t2 hft
          have HRW := Lib.hid (HR.out.below HG.out)
          obtain ⟨g, o, rfl, hg, z0, z1, z2⟩ := HRW.out.at3 hx
          simp only at z0 z1 z2
          have hb1 : (k : Int) < 3 := by omega
          have hb2 : (0 : Int) ≤ (k : Int) := by omega
          have HBW := Lib.hid (HB.out.trans (HG.out.mono HB.out.size))
          have HF1 := Lib.hid (fun W (h : Gr wr W) => fnR_impl s l f2 t2 m W (HDC.out.blw (HBW.out.trans (h.below.mono HBW.out.size))) (HUS.out.gr (Gr.of_below (HBW.out.trans (h.below.mono HBW.out.size)))))
          have HF2 := Lib.hid (fun W (h : Gr wr W) => fnR_impl s l f2 t2 (m.tdiv 2) W (HDC.out.blw (HBW.out.trans (h.below.mono HBW.out.size))) (HUS.out.gr (Gr.of_below (HBW.out.trans (h.below.mono HBW.out.size)))))
          rw [e1] at HF1
          rw [e2] at HF2
          simp only at HF1 HF2
          have hle : decide (fnS s l f2 t2 m < y2) = false := decide_eq_false (by omega)
          generalize fnS s l f2 t2 m = fv at *
          have HC0 := Lib.hid (fun W (h : Gr wr W) => (h.below.cell (p := ⟨g, o + k * 3, none⟩) hg).trans z0)
          have HC1 := Lib.hid (fun W (h : Gr wr W) => (h.below.cell (p := ⟨g, o + k * 3 + 1, none⟩) hg).trans z1)
          have HC2 := Lib.hid (fun W (h : Gr wr W) => (h.below.cell (p := ⟨g, o + k * 3 + 2, none⟩) hg).trans z2)
          have hmd : IntKind.i64.wrap (m.tdiv 2) = m.tdiv 2 := IntWalk.i64_in _ (by have hh := half_bd hlim.2.2.1 hlim.2.2.2; omega)
          clear hx hft e1 e2 e3 z2
          go_wp2_with fail
          ((first | refine region_gr_on (by kernel_rfl) (by kernel_rfl) ?_ | refine region_gr (by kernel_rfl) (by kernel_rfl) ?_); (repeat (quiet_step (exact Calls.gr_of ((HF1.out _ (by repeat (first | with_reducible exact Gr.refl _ | with_reducible refine Gr.alloc ?_ _ | with_reducible refine Gr.gr ?_ _ _ | with_reducible refine Gr.drew ?_ | with_reducible refine Gr.drewN ?_ _))).mono fun e w' h => ⟨h.1, Gr.of_below h.2⟩)))); refine wpQuiet_nil ?_; intro _ hw'; obtain ⟨⟨kq, oq⟩, hw''⟩ := hw'; subst hw'')
          have HGA : Hid (Gr wr (gr wr kq oq)) := Lib.hid ⟨kq, oq, rfl⟩
          replace z0 := HC0.out _ HGA.out
          replace z1 := HC1.out _ HGA.out
          have hgA : g < (gr wr kq oq).heap.size := World.block_lt_of_cell? _ _ z0
          generalize gr wr kq oq = wa at *
          clear HF1
          go_wp2_with fail
          ((first | refine region_gr_on (by kernel_rfl) (by kernel_rfl) ?_ | refine region_gr (by kernel_rfl) (by kernel_rfl) ?_); (repeat (quiet_step (exact Calls.gr_of ((HF2.out _ (HGA.out.trans (by repeat (first | with_reducible exact Gr.refl _ | with_reducible refine Gr.alloc ?_ _ | with_reducible refine Gr.gr ?_ _ _ | with_reducible refine Gr.drew ?_ | with_reducible refine Gr.drewN ?_ _)))).mono fun e w' h => ⟨h.1, Gr.of_below h.2⟩)))); refine wpQuiet_nil ?_; intro _ hw'; obtain ⟨⟨kq, oq⟩, hw''⟩ := hw'; subst hw'')
          have HGB : Hid (Gr wr (gr wa kq oq)) := Lib.hid (HGA.out.trans ⟨kq, oq, rfl⟩)
          have z2 := HC2.out _ HGB.out
          generalize gr wa kq oq = wb at *
          have hgB : g < wb.heap.size := World.block_lt_of_cell? _ _ z2
          clear HF2 z0 z1 HGA hgA
          go_wp2_with fail
          go_roundw
          case rel => exact ⟨k + 1, by go_num, by omega, Lib.hid (HG.out.trans (HGB.out.below.mono HG.out.size))⟩
          case measure => simp [intOf]; omega
        · obtain rfl : k = 3 := by omega
          go_wp2_with fail
          go_ret
          exact ⟨rfl, HB.out.trans (HG.out.mono HB.out.size)⟩
    · have hf1 : (fne == 0) = false := by simpa using hf0
      clear HFN
      obtain ⟨g1, g2, g3⟩ := HCH.out hc0
      rw [hc0]
      have G1 := Lib.hid g1
      have G3 := Lib.hid g3
      have hng3 : ng = 3 := by rw [← HNG.out, g2]; rfl
      subst hng3
      rw [g2] at HNG
      have R2 : Reads w10 w10.heap.size Ag (cells3 (chG s l m)) := by have := Rg10; rwa [g2] at this
      clear g1 g2 g3 HCH hc0 Rg10 hlen
      have HWG := Lib.hid (chG_wf s l m)
      go_wp2_with fail
      refine (gd_impl Ag 3 cg (chG s l m) _ HNG.out (by omega) R2 HWG.out).mono ?_
      rw [G1.out]
      rintro e wq ⟨rfl, hX⟩
      have HR := Lib.hid (R2.gr hX)
      have HB := Lib.hid (B10.trans (hX.below.mono B10.size))
      clear R2 hX B10
      go_wp2_with fail
      go_loopw [26] (fun i wr => ∃ k : Nat, i = .int .i64 k ∧ k ≤ 3 ∧ Hid (Below wq.heap.size wq wr)) (fun i _ => 3 - (intOf i).toNat)
      case atStart => exact ⟨0, rfl, by omega, Lib.hid (Below.refl _ _)⟩
      case round =>
        obtain ⟨k, rfl, hk, HG⟩ := hrel
        by_cases hlt : k < 3
        · obtain ⟨f2, t2, hx, hft⟩ := chG_at s l m k hlt
          obtain ⟨e1, y2, e2, e3⟩ := G3.out f2 t2 hft
          have HRW := Lib.hid (HR.out.below HG.out)
          obtain ⟨g, o, rfl, hg, z0, z1, z2⟩ := HRW.out.at3 hx
          simp only at z0 z1 z2
          have hb1 : (k : Int) < 3 := by omega
          have hb2 : (0 : Int) ≤ (k : Int) := by omega
          have HBW := Lib.hid (HB.out.trans (HG.out.mono HB.out.size))
          have HF1 := Lib.hid (fun W (h : Gr wr W) => fnR_impl s l f2 t2 m W (HDC.out.blw (HBW.out.trans (h.below.mono HBW.out.size))) (HUS.out.gr (Gr.of_below (HBW.out.trans (h.below.mono HBW.out.size)))))
          have HF2 := Lib.hid (fun W (h : Gr wr W) => fnR_impl s l f2 t2 (m.tdiv 2) W (HDC.out.blw (HBW.out.trans (h.below.mono HBW.out.size))) (HUS.out.gr (Gr.of_below (HBW.out.trans (h.below.mono HBW.out.size)))))
          rw [e1] at HF1
          rw [e2] at HF2
          simp only at HF1 HF2
          have hle : decide (fnS s l f2 t2 m < y2) = false := decide_eq_false (by omega)
          generalize fnS s l f2 t2 m = fv at *
          have HC0 := Lib.hid (fun W (h : Gr wr W) => (h.below.cell (p := ⟨g, o + k * 3, none⟩) hg).trans z0)
          have HC1 := Lib.hid (fun W (h : Gr wr W) => (h.below.cell (p := ⟨g, o + k * 3 + 1, none⟩) hg).trans z1)
          have HC2 := Lib.hid (fun W (h : Gr wr W) => (h.below.cell (p := ⟨g, o + k * 3 + 2, none⟩) hg).trans z2)
          have hmd : IntKind.i64.wrap (m.tdiv 2) = m.tdiv 2 := IntWalk.i64_in _ (by have hh := half_bd hlim.2.2.1 hlim.2.2.2; omega)
          clear hx hft e1 e2 e3 z2
          go_wp2_with fail
          ((first | refine region_gr_on (by kernel_rfl) (by kernel_rfl) ?_ | refine region_gr (by kernel_rfl) (by kernel_rfl) ?_); (repeat (quiet_step (exact Calls.gr_of ((HF1.out _ (by repeat (first | with_reducible exact Gr.refl _ | with_reducible refine Gr.alloc ?_ _ | with_reducible refine Gr.gr ?_ _ _ | with_reducible refine Gr.drew ?_ | with_reducible refine Gr.drewN ?_ _))).mono fun e w' h => ⟨h.1, Gr.of_below h.2⟩)))); refine wpQuiet_nil ?_; intro _ hw'; obtain ⟨⟨kq, oq⟩, hw''⟩ := hw'; subst hw'')
          have HGA : Hid (Gr wr (gr wr kq oq)) := Lib.hid ⟨kq, oq, rfl⟩
          replace z0 := HC0.out _ HGA.out
          replace z1 := HC1.out _ HGA.out
          have hgA : g < (gr wr kq oq).heap.size := World.block_lt_of_cell? _ _ z0
          generalize gr wr kq oq = wa at *
          clear HF1
          go_wp2_with fail
          ((first | refine region_gr_on (by kernel_rfl) (by kernel_rfl) ?_ | refine region_gr (by kernel_rfl) (by kernel_rfl) ?_); (repeat (quiet_step (exact Calls.gr_of ((HF2.out _ (HGA.out.trans (by repeat (first | with_reducible exact Gr.refl _ | with_reducible refine Gr.alloc ?_ _ | with_reducible refine Gr.gr ?_ _ _ | with_reducible refine Gr.drew ?_ | with_reducible refine Gr.drewN ?_ _)))).mono fun e w' h => ⟨h.1, Gr.of_below h.2⟩)))); refine wpQuiet_nil ?_; intro _ hw'; obtain ⟨⟨kq, oq⟩, hw''⟩ := hw'; subst hw'')
          have HGB : Hid (Gr wr (gr wa kq oq)) := Lib.hid (HGA.out.trans ⟨kq, oq, rfl⟩)
          have z2 := HC2.out _ HGB.out
          generalize gr wa kq oq = wb at *
          have hgB : g < wb.heap.size := World.block_lt_of_cell? _ _ z2
          clear HF2 z0 z1 HGA hgA
          go_wp2_with fail
          go_roundw
          case rel => exact ⟨k + 1, by go_num, by omega, Lib.hid (HG.out.trans (HGB.out.below.mono HG.out.size))⟩
          case measure => simp [intOf]; omega
        · obtain rfl : k = 3 := by omega
          go_wp2_with fail
          go_ret
          exact ⟨rfl, HB.out.trans (HG.out.mono HB.out.size)⟩

set_option maxHeartbeats 4000000 in
set_option maxRecDepth 100000 in
theorem walk (w : World) (hL : laidMet Tryd.prog Rows.fnChosenRow.laid w) (A0 : Option Addr) (n0 c0 : Nat) (hB0 : Bytes w w.heap.size A0 n0) :
    Calls Tryd.prog 3 #[.slice A0 n0 c0] w (LawDone w) := by
  have hDC := dcsl hL
  have hUS := ussl hL
  have hCP := chpl hL
  clear hL
  by_cases hbig : 4096 < n0
  · have hd : decide ((4096 : Int) < n0) = true := by simp; omega
    go_enter Tryd.func3, Tryd.ntmps3
    go_wp2_with fail
    refine (big_any A0 n0 c0 w).mono ?_
    rw [hd]
    rintro e w1 ⟨rfl, rfl⟩
    go_wp2_with fail
    go_ret
    exact ⟨rfl, Below.refl _ _⟩
  · exact walk1 w hDC hUS hCP A0 n0 c0 hB0 hbig

set_option maxRecDepth 100000 in
theorem lifted (os : Os) (started : os.Started) (H : Type) (enc : TypeId × Value → H) :
    ReturnsInHanded {} Tryd.checked os 3 .any (fun w args => (Rows.fnChosenSpec.pre enc Tryd.prog Tryd.f3 Rows.fnChosenRow.domain false w args ∧ laidMetH Tryd.prog Rows.fnChosenRow.laid w) ∧ sizedMet enc Tryd.prog Tryd.f3 (OpenSpec.ofChange Rows.fnChosenSpec) false w args) (Rows.fnChosenSpec.post enc Tryd.prog Tryd.f3 false true false false) := by
  refine returnsInHanded_of_change_and (C := Tryd.checked) (X := fun w _ => laidMetH Tryd.prog Rows.fnChosenRow.laid w) (fun _ _ _ hh h => h.of_heap hh) own started (by kernel_rfl) Tryd.func3
    (ChangeSpec.witness_shaped (enc := enc) (C := Tryd.checked) (os := os) (X := fun w _ => laidMetH Tryd.prog Rows.fnChosenRow.laid w) false (World.laidAll Tryd.prog os Rows.fnChosenRow.laid) #[.slice none 0 0] 8 (World.laidAll_os _ _ _)
      (World.shaped_of_ZipB (by kernel_rfl) (by kernel_rfl)) (by kernel_rfl) (by kernel_rfl) (by kernel_rfl)
      (by rw [MakeChecks.laidMetH_plain _ _ _ (by kernel_rfl)]; exact laidMet_laidAll _ (by kernel_rfl) (by kernel_rfl))) ?_
  intro W base args ds gs before hval0 hW _ _ hL _
  rw [MakeChecks.laidMetH_plain _ _ _ (by kernel_rfl)] at hL
  have hval : ∀ (j : Nat) t v, Tryd.f3.params[j]? = some t → args[j]? = some v → Value.okWide Tryd.prog W .any base t v := hval0
  have hW' := hW
  obtain ⟨p, q, hA0, hV, hpq, hfz, hnd⟩ := hW
  have hA : DataW.TrodAll enc Tryd.prog W 0 (fun _ => true) true Tryd.f3.params.toList args.toList ds p := hA0
  have hT := hA
  obtain ⟨g1, g2, g3, rfl⟩ := vars_three hV
  rw [Tryd.params3] at hA hval
  obtain ⟨v0, vs0, d0, ds0, p0, q0, hargs, rfl, rfl, h0, r0⟩ := trodAll_cons hA
  obtain ⟨rfl, rfl, rfl⟩ := trodAll_nil r0
  obtain rfl : args = #[v0] := by cases args; simp_all
  obtain ⟨A0, n0, c0, rfl, -, hB0⟩ := open_code Tryd.underlying22 Tryd.underlying5 (by kernel_rfl) (hval 0 22 v0 rfl rfl) h0
  clear hA0 hval0
  refine (walk W hL A0 n0 c0 hB0).mono fun e W' ⟨he, hb⟩ => ?_
  subst he
  exact ⟨_, rfl, law_postv laidOut hW' hT hpq (by kernel_rfl) (by kernel_rfl) hV rfl rfl rfl rfl Tryd.underlying4 hb⟩

theorem over : Rows.fnChosenRow.holds Tryd.pinned (OpenSpec.ofChange Rows.fnChosenSpec) :=
  OpenClaim.holds_of_wide 3 Tryd.f3 rfl rfl rfl rfl rfl rfl rfl ⟨rfl, rfl, rfl, rfl, rfl⟩ rfl rfl rfl rfl rfl (by kernel_rfl) Tryd.func3 (by kernel_rfl)
    (of_decide_eq_true (by kernel_rfl)) (by unfold Func.isWrapper; first | (rw [if_pos (by decide +kernel)]; kernel_rfl) | (rw [if_neg (by decide +kernel)]; exact ⟨rfl, rfl⟩))
    (fun os started H enc _ => lifted os started H enc)

theorem proved : Rows.FnChosenCardSaid :=
  Claim7.holds_tied_plain_at .later [] Rows.fnChosenCard.laidKinds true Rows.fnChosenCard.stood.harness Rows.fnChosenCard.stood.looks
    over (fun _ h => by cases h) (by kernel_rfl) (fun _ h => by cases h) fnChosen_row_tie rfl ⟨rfl, rfl⟩ (by kernel_rfl) rfl
    (fun f fn hf hfn => by
      obtain rfl : f = 3 := Option.some.inj ((show Tryd.prog.funcNamed Rows.fnChosenRow.func = some 3 by kernel_rfl).symm.trans hf) |>.symm
      obtain rfl : fn = Tryd.f3 := (Option.some.inj (Tryd.func3.symm.trans hfn)).symm
      exact ⟨by kernel_rfl, fun j t ht => by
        rw [Tryd.params3] at ht
        have hm : t ∈ [22] := by simpa using Array.mem_of_getElem? ht
        have hall : ([22].all fun u => !Tryd.prog.wantsStandIn u) = true := by kernel_rfl
        exact (show Tryd.prog.wantsStandIn t = false by simpa using List.all_eq_true.1 hall t hm)⟩)
    (by kernel_rfl)
end Go.Proofs.YtggflladheemoaaDoor.fnChosen
