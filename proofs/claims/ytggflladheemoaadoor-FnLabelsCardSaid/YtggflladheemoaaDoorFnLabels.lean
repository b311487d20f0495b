/- For every code of bytes the labels of the drawn ticks are as the law FnLabels says, and it returns true. No condition beyond the library's tables as the program's text lays them. -/
import Derived.Test.YtggflladheemoaaDoor9D
import Derived.Test.YtggflladheemoaaDoorDC
import Derived.Test.YtggflladheemoaaDoorBig
import Derived.Test.YtggflladheemoaaDoorDr
import Derived.Test.YtggflladheemoaaDoorTie
import Derived.Test.YtggflladheemoaaDoorCards
import Derived.Test.YtggflladheemoaaDoorFr
import Derived.Test.YtggflladheemoaaDoorRows
import Derived.WalkKit
import Derived.ProofKit
import Derived.OpenShut
namespace Go.Proofs.YtggflladheemoaaDoor.fnLabels
open Go.ChangeShapes Go.WideShapes Go.ChangeAt Go.RowKit
set_option linter.unusedVariables false
set_option linter.unusedSimpArgs false

theorem own : ownKnob Tryd.prog.godebug = none := by kernel_rfl

theorem tab {w : World} (hL : laidMet Tryd.prog Rows.fnLabelsRow.laid w) : Tab w := by
  have h := hL.filter (fun x => x.1 == "internal/strconv.uint64pow10")
  have e : Rows.fnLabelsRow.laid.filter (fun x => x.1 == "internal/strconv.uint64pow10") = [("internal/strconv.uint64pow10", Lib.tabData .u64 Lib.pow10Tab)] := by rfl
  rw [e] at h
  exact Lib.tabIs_of_head (g := 3) (by kernel_rfl) (by kernel_rfl) Tryd.underlying229 Tryd.underlying206 (by kernel_rfl) (by kernel_rfl) h


theorem bcL_len (zs : List P3) : (bcL zs).length ≤ 40 := by
  unfold bcL
  split
  · rename_i h
    obtain ⟨h40, -⟩ := lbE_zero h
    rw [List.length_map]
    unfold lsS
    have := List.length_filter_le (bcF zs) (List.range zs.length)
    rw [List.length_range] at this
    omega
  · simp
theorem pfL_len (zs : List P3) : (pfL zs).length ≤ 41 := by
  by_cases h : lbE zs = 0
  · obtain ⟨h40, -⟩ := lbE_zero h
    rw [(pfL_of h).1]
    omega
  · unfold pfL
    rw [if_neg h]
    simp
theorem pf_at {zs : List P3} (h : lbE zs = 0) : (pfL zs)[zs.length]? = some (mostW zs) := by
  obtain ⟨h1, h2⟩ := pfL_of h
  rw [List.getD_eq_getElem?_getD, List.getElem?_eq_getElem (by omega)] at h2
  rw [List.getElem?_eq_getElem (by omega)]
  exact congrArg some h2
theorem wt_of {zs : List P3} {cs : List Int} (h : lbE zs = 0) (hc : chB zs cs = true) : wtV zs cs = suW zs cs ∧ wtE zs cs = 0 := by
  have e : wtE zs cs = 0 := by unfold wtE; rw [if_pos h, if_pos hc]
  exact ⟨by unfold wtV; rw [if_pos e], e⟩
theorem best_facts (zs : List P3) : lbE zs = 0 → (wtV zs (bcL zs) = mostW zs ∧ wtE zs (bcL zs) = 0) ∧ (wtV zs (gcL zs) = suW zs (gcL zs) ∧ wtE zs (gcL zs) = 0) ∧ True ∧ suW zs (gcL zs) ≤ mostW zs ∧ (pfL zs)[zs.length]? = some (mostW zs) ∧ zs.length < (pfL zs).length := by
  intro h
  obtain ⟨b1, b2⟩ := best_is h
  have g1 := greedy_is h
  obtain ⟨w1, w2⟩ := wt_of h b1
  exact ⟨⟨by rw [w1, b2], w2⟩, wt_of h g1, trivial, choice_le h g1, pf_at h, by rw [(pfL_of h).1]; omega⟩
theorem lab_cases (zs : List P3) (cs : List Int) : (lbE zs ≠ 0 ∧ wtE zs cs = lbE zs ∧ wtV zs cs = 0 ∧ icV zs cs = false) ∨ (lbE zs = 0 ∧ wtE zs cs = 5 ∧ wtV zs cs = 0 ∧ icV zs cs = false) ∨
    (lbE zs = 0 ∧ wtE zs cs = 0 ∧ wtV zs cs = suW zs cs ∧ icV zs cs = true ∧ suW zs cs ≤ mostW zs ∧ ((pfL zs).length = zs.length + 1 ∧ (pfL zs)[zs.length]? = some (mostW zs))) := by
  rcases wt_cases zs cs with ⟨h1, h2, h3⟩ | ⟨h1, h2, h3, h4⟩ | ⟨h1, h2, h3, h4⟩
  · exact .inl ⟨h1, h2, h3, by unfold icV; rw [if_neg h1]⟩
  · exact .inr (.inl ⟨h1, h3, h4, by unfold icV; rw [if_pos h1, h2]⟩)
  · exact .inr (.inr ⟨h1, h3, h4, by unfold icV; rw [if_pos h1, h2], choice_le h1 h2, (pfL_of h1).1, pf_at h1⟩)

set_option maxHeartbeats 8000000 in
set_option maxRecDepth 100000 in
/-- The walk of a code that is not too long. -/
theorem walk1 (w : World) (hT : Tab w) (A0 : Option Addr) (n0 c0 : Nat) (hB0 : Bytes w w.heap.size A0 n0) (hbig : ¬ 4096 < n0) :
    Calls Tryd.prog 6 #[.slice A0 n0 c0] w (LawDone w) := by
  have HT := Lib.hid hT
  clear hT
  have hd : decide ((4096 : Int) < n0) = false := by simp; omega
  go_enter Tryd.func6, Tryd.ntmps6
  go_wp2_with fail
  refine (big_any A0 n0 c0 w).mono ?_
  rw [hd]
  rintro e w1 ⟨rfl, rfl⟩
  clear hd
  go_wp2_with fail
  refine (drawBC_any A0 n0 c0 w (by omega) hB0).mono ?_
  rintro e w1 ⟨v, zst, rfl, hL, hO, hX⟩
  have B1 := hX
  clear  hX
  obtain ⟨At, ct, rfl, hR⟩ := LstG.slice hO
  have Rt1 : Reads w1 w1.heap.size At (cells3 zst) := hR
  obtain ⟨nt, hn⟩ : ∃ q, zst.length = q := ⟨_, rfl⟩
  rw [hn] at hL ⊢
  have HNt := Lib.hid hn
  have Lt := hL
  clear hn hO hL hR
  go_wp2_with fail
  refine (bc_impl At nt ct zst w1 (HT.out.later B1) HNt.out (by omega) Rt1).mono ?_
  rintro e w2 ⟨⟨v, rfl, hv⟩, hX⟩
  have hX0 := hX
  have Rt2 := Rt1.below hX
  have B2 := B1.trans (hX.mono B1.size)
  clear Rt1 B1 hX
  obtain ⟨Ab, cb, rfl, hcapb, Rb2⟩ := Lst.slice2 hv
  clear hv hX0
  go_wp2_with fail
  refine (bc_spec At nt ct zst w2 HNt.out (by omega) Rt2).mono ?_
  rintro e w3 ⟨⟨v, rfl, hv⟩, hX⟩
  have hX0 := hX
  have Rt3 := Rt2.below hX
  have Rb3 := Rb2.below hX
  have B3 := B2.trans (hX.mono B2.size)
  clear Rt2 Rb2 B2 hX
  obtain ⟨Am, cm, rfl, hcapm, Rm3⟩ := Lst.slice2 hv
  clear hv hX0
  obtain ⟨nb, hn⟩ : ∃ q, (bcL zst).length = q := ⟨_, rfl⟩
  rw [hn] at hcapb hcapm ⊢
  have Hnb := Lib.hid hn
  clear hn hcapm
  go_wp2_with fail
  refine (pf_impl At nt ct zst w3 (HT.out.later B3) HNt.out (by omega) Rt3).mono ?_
  rintro e w4 ⟨⟨v, rfl, hv⟩, hX⟩
  have hX0 := hX
  have Rt4 := Rt3.below hX
  have Rb4 := Rb3.below hX
  have Rm4 := Rm3.below hX
  have B4 := B3.trans (hX.mono B3.size)
  clear Rt3 Rb3 Rm3 B3 hX
  obtain ⟨Av, cv, rfl, hcapv, Rv4⟩ := Lst.slice2 hv
  clear hv hX0
  go_wp2_with fail
  refine (pf_spec At nt ct zst w4 HNt.out (by omega) Rt4).mono ?_
  rintro e w5 ⟨⟨v, rfl, hv⟩, hX⟩
  have hX0 := hX
  have Rt5 := Rt4.below hX
  have Rb5 := Rb4.below hX
  have Rm5 := Rm4.below hX
  have Rv5 := Rv4.below hX
  have B5 := B4.trans (hX.mono B4.size)
  clear Rt4 Rb4 Rm4 Rv4 B4 hX
  obtain ⟨Ap, cp, rfl, hcapp, Rp5⟩ := Lst.slice2 hv
  clear hv hX0
  obtain ⟨np, hn⟩ : ∃ q, (pfL zst).length = q := ⟨_, rfl⟩
  rw [hn] at hcapv hcapp ⊢
  have Hnp := Lib.hid hn
  clear hn hcapp
  go_wp2_with fail
  refine (gc_impl At nt ct zst w5 (HT.out.later B5) HNt.out (by omega) Rt5).mono ?_
  rintro e w6 ⟨⟨v, rfl, hv⟩, hX⟩
  have hX0 := hX
  have Rt6 := Rt5.below hX
  have Rb6 := Rb5.below hX
  have Rm6 := Rm5.below hX
  have Rv6 := Rv5.below hX
  have Rp6 := Rp5.below hX
  have B6 := B5.trans (hX.mono B5.size)
  clear Rt5 Rb5 Rm5 Rv5 Rp5 B5 hX
  obtain ⟨Ag, cg, rfl, hcapg, Rg6⟩ := Lst.slice2 hv
  clear hv hX0
  go_wp2_with fail
  refine (gc_spec At nt ct zst w6 HNt.out (by omega) Rt6).mono ?_
  rintro e w7 ⟨⟨v, rfl, hv⟩, hX⟩
  have hX0 := hX
  have Rt7 := Rt6.below hX
  have Rb7 := Rb6.below hX
  have Rm7 := Rm6.below hX
  have Rv7 := Rv6.below hX
  have Rp7 := Rp6.below hX
  have Rg7 := Rg6.below hX
  have B7 := B6.trans (hX.mono B6.size)
  clear Rt6 Rb6 Rm6 Rv6 Rp6 Rg6 B6 hX
  obtain ⟨Ay, cy, rfl, hcapy, Ry7⟩ := Lst.slice2 hv
  clear hv hX0
  obtain ⟨ng, hn⟩ : ∃ q, (gcL zst).length = q := ⟨_, rfl⟩
  rw [hn] at hcapg hcapy ⊢
  have Hng := Lib.hid hn
  clear hn hcapy
  go_wp2_with fail
  refine (drawWO_any A0 n0 c0 w7 (by omega) (hB0.later B7)).mono ?_
  rintro e w8 ⟨v, u, zsl, cs, rfl, hL, hK, hO, hU, hX⟩
  have Rt8 := Rt7.below hX
  have Rb8 := Rb7.below hX
  have Rm8 := Rm7.below hX
  have Rv8 := Rv7.below hX
  have Rp8 := Rp7.below hX
  have Rg8 := Rg7.below hX
  have Ry8 := Ry7.below hX
  have B8 := B7.trans (hX.mono B7.size)
  clear Rt7 Rb7 Rm7 Rv7 Rp7 Rg7 Ry7 B7 hX
  obtain ⟨Al, cl, rfl, hR⟩ := LstG.slice hO
  have Rl8 : Reads w8 w8.heap.size Al (cells3 zsl) := hR
  obtain ⟨nl, hn⟩ : ∃ q, zsl.length = q := ⟨_, rfl⟩
  rw [hn] at hL ⊢
  have HNl := Lib.hid hn
  have Ll := hL
  clear hn hO hL hR
  obtain ⟨Ac, cc, rfl, hcapc, Rc8⟩ := Lst.slice2 hU
  obtain ⟨nc, hn⟩ : ∃ q, cs.length = q := ⟨_, rfl⟩
  rw [hn] at hK hcapc ⊢
  have HNC := Lib.hid hn
  clear hn hU
  go_wp2_with fail
  refine (wt_impl Al nl cl zsl Ac nc cc cs w8 (HT.out.later B8) HNl.out (by omega) Rl8 HNC.out (by omega) hcapc Rc8).mono ?_
  rintro e w9 ⟨rfl, hX⟩
  have Rt9 := Rt8.gr hX
  have Rb9 := Rb8.gr hX
  have Rm9 := Rm8.gr hX
  have Rv9 := Rv8.gr hX
  have Rp9 := Rp8.gr hX
  have Rg9 := Rg8.gr hX
  have Ry9 := Ry8.gr hX
  have Rl9 := Rl8.gr hX
  have Rc9 := Rc8.gr hX
  have B9 := B8.trans ((hX.below).mono B8.size)
  clear Rt8 Rb8 Rm8 Rv8 Rp8 Rg8 Ry8 Rl8 Rc8 B8 hX
  go_wp2_with fail
  refine (wt_spec Al nl cl zsl Ac nc cc cs w9 HNl.out (by omega) Rl9 HNC.out (by omega) Rc9).mono ?_
  rintro e w10 ⟨rfl, hX⟩
  have Rt10 := Rt9.gr hX
  have Rb10 := Rb9.gr hX
  have Rm10 := Rm9.gr hX
  have Rv10 := Rv9.gr hX
  have Rp10 := Rp9.gr hX
  have Rg10 := Rg9.gr hX
  have Ry10 := Ry9.gr hX
  have Rl10 := Rl9.gr hX
  have Rc10 := Rc9.gr hX
  have B10 := B9.trans ((hX.below).mono B9.size)
  clear Rt9 Rb9 Rm9 Rv9 Rp9 Rg9 Ry9 Rl9 Rc9 B9 hX
  go_wp2_with fail
  refine (ic_impl Al nl cl zsl Ac nc cc cs w10 (HT.out.later B10) HNl.out (by omega) Rl10 HNC.out (by omega) hcapc Rc10).mono ?_
  rintro e w11 ⟨rfl, hX⟩
  have Rt11 := Rt10.gr hX
  have Rb11 := Rb10.gr hX
  have Rm11 := Rm10.gr hX
  have Rv11 := Rv10.gr hX
  have Rp11 := Rp10.gr hX
  have Rg11 := Rg10.gr hX
  have Ry11 := Ry10.gr hX
  have Rl11 := Rl10.gr hX
  have Rc11 := Rc10.gr hX
  have B11 := B10.trans ((hX.below).mono B10.size)
  clear Rt10 Rb10 Rm10 Rv10 Rp10 Rg10 Ry10 Rl10 Rc10 B10 hX
  go_wp2_with fail
  refine (ic_spec Al nl cl zsl Ac nc cc cs w11 HNl.out (by omega) Rl11 HNC.out (by omega) Rc11).mono ?_
  rintro e w12 ⟨rfl, hX⟩
  have Rt12 := Rt11.gr hX
  have Rb12 := Rb11.gr hX
  have Rm12 := Rm11.gr hX
  have Rv12 := Rv11.gr hX
  have Rp12 := Rp11.gr hX
  have Rg12 := Rg11.gr hX
  have Ry12 := Ry11.gr hX
  have Rl12 := Rl11.gr hX
  have Rc12 := Rc11.gr hX
  have B12 := B11.trans ((hX.below).mono B11.size)
  clear Rt11 Rb11 Rm11 Rv11 Rp11 Rg11 Ry11 Rl11 Rc11 B11 hX
  clear Rc12
  go_wp2_with fail
  refine (likeInts_same _ _ nb cb cm (bcL zst) w12 Hnb.out (by have := bcL_len zst; rw [Hnb.out] at this; omega) Rb12 Rm12).mono ?_
  rintro e w13 ⟨rfl, hX⟩
  have Rt13 := Rt12.gr hX
  have Rb13 := Rb12.gr hX
  have Rm13 := Rm12.gr hX
  have Rv13 := Rv12.gr hX
  have Rp13 := Rp12.gr hX
  have Rg13 := Rg12.gr hX
  have Ry13 := Ry12.gr hX
  have Rl13 := Rl12.gr hX
  have B13 := B12.trans ((hX.below).mono B12.size)
  clear Rt12 Rb12 Rm12 Rv12 Rp12 Rg12 Ry12 Rl12 B12 hX
  clear Rm13
  go_wp2_with fail
  refine (likeInts_same _ _ np cv cp (pfL zst) w13 Hnp.out (by have := pfL_len zst; rw [Hnp.out] at this; omega) Rv13 Rp13).mono ?_
  rintro e w14 ⟨rfl, hX⟩
  have Rt14 := Rt13.gr hX
  have Rb14 := Rb13.gr hX
  have Rv14 := Rv13.gr hX
  have Rp14 := Rp13.gr hX
  have Rg14 := Rg13.gr hX
  have Ry14 := Ry13.gr hX
  have Rl14 := Rl13.gr hX
  have B14 := B13.trans ((hX.below).mono B13.size)
  clear Rt13 Rb13 Rv13 Rp13 Rg13 Ry13 Rl13 B13 hX
  clear Rv14
  go_wp2_with fail
  refine (likeInts_same _ _ ng cg cy (gcL zst) w14 Hng.out (by have := gcL_len zst; rw [Hng.out] at this; omega) Rg14 Ry14).mono ?_
  rintro e w15 ⟨rfl, hX⟩
  have Rt15 := Rt14.gr hX
  have Rb15 := Rb14.gr hX
  have Rp15 := Rp14.gr hX
  have Rg15 := Rg14.gr hX
  have Ry15 := Ry14.gr hX
  have Rl15 := Rl14.gr hX
  have B15 := B14.trans ((hX.below).mono B14.size)
  clear Rt14 Rb14 Rp14 Rg14 Ry14 Rl14 B14 hX
  clear Ry15
  have HF := Lib.hid (best_facts zst)
  rw [HNt.out] at HF
  by_cases hb : lbE zst = 0
  rotate_left
  · have hb0 : (lbE zst == 0) = false := by simpa using hb
    clear HF
    generalize lbE zst = eb at *
    rcases lab_cases zsl cs with ⟨hc0, hc1, hc2, hc3⟩ | ⟨hc0, hc1, hc2, hc3⟩ | ⟨hc0, hc1, hc2, hc3, hc4, hc5⟩
    · rw [hc1, hc2, hc3]
      have hl0 : (lbE zsl == 0) = false := by simpa using hc0
      generalize lbE zsl = el at *
      go_wp2_with fail
      go_ret
      exact ⟨rfl, B15⟩
    · rw [hc0, hc1, hc2, hc3]
      go_wp2_with fail
      go_ret
      exact ⟨rfl, B15⟩
    · rw [hc0, hc1, hc2, hc3]
      have H4 := Lib.hid hc4
      have H5 := Lib.hid hc5
      have H0 := Lib.hid hc0
      clear hc0 hc1 hc2 hc3 hc4 hc5
      go_wp2_with fail
      refine (pf_impl Al nl cl zsl w15 (HT.out.later B15) HNl.out (by omega) Rl15).mono ?_
      rintro e w16 ⟨⟨v, rfl, hv⟩, hX⟩
      have hX0 := hX
      have Rt16 := Rt15.below hX
      have Rb16 := Rb15.below hX
      have Rp16 := Rp15.below hX
      have Rg16 := Rg15.below hX
      have Rl16 := Rl15.below hX
      have B16 := B15.trans (hX.mono B15.size)
      clear Rt15 Rb15 Rp15 Rg15 Rl15 B15 hX
      obtain ⟨Az, cz, rfl, hcapz, Rz16⟩ := Lst.slice2 hv
      clear hv hX0
      rw [H0.out]
      obtain ⟨h6, h7⟩ := H5.out
      rw [HNl.out] at h6 h7
      rw [h6]
      obtain ⟨gz, oz, rfl, hgz, hcz⟩ := (Rz16).at_ (map_at h7)
      have hle5 := H4.out
      have hdl5 : decide (mostW zsl < suW zsl cs) = false := decide_eq_false (by omega)
      have hnl2 : (nl : Int) < (nl : Int) + 1 := by omega
      have hnl3 : (0 : Int) ≤ (nl : Int) := by omega
      generalize mostW zsl = M5 at *
      generalize suW zsl cs = G5 at *
      go_wp2_with fail
      clear Rz16 hcz
      go_ret
      exact ⟨rfl, B16⟩
  obtain ⟨f1, f2, f3, f4, f5, f6⟩ := HF.out hb
  have F1 := Lib.hid f1
  have F2 := Lib.hid f2
  obtain ⟨gp, op, rfl, hgp, hcp⟩ := (Rp15).at_ (map_at f5)
  have HGP15 := Lib.hid (And.intro hgp hcp)
  rw [hb]
  have hnp : (nt : Int) < (np : Int) := by rw [Hnp.out] at f6; omega
  have hnt0 : (0 : Int) ≤ (nt : Int) := by omega
  have hle : suW zst (gcL zst) ≤ mostW zst := f4
  clear f1 f2 f3 f4 f5 f6 HF hcp hgp
  clear Rp15
  rcases lab_cases zsl cs with ⟨hc0, hc1, hc2, hc3⟩ | ⟨hc0, hc1, hc2, hc3⟩ | ⟨hc0, hc1, hc2, hc3, hc4, hc5⟩
  · rw [hc1, hc2, hc3]
    have hl0 : (lbE zsl == 0) = false := by simpa using hc0
    generalize lbE zsl = el at *
    go_wp2_with fail
    have HP15 := Lib.hid (fun W (h : Gr w15 W) => And.intro ((h.below.cell (p := ⟨gp, op + nt, none⟩) (HGP15.out.1)).trans HGP15.out.2) (Nat.lt_of_lt_of_le HGP15.out.1 h.below.size))
    refine (wt_impl At nt ct zst Ab nb cb (bcL zst) w15 (HT.out.later B15) HNt.out (by omega) Rt15 Hnb.out (by have := bcL_len zst; rw [Hnb.out] at this; omega) hcapb Rb15).mono ?_
    rintro e w16 ⟨rfl, hX⟩
    have hX0 := hX
    have Rt16 := Rt15.gr hX
    have Rb16 := Rb15.gr hX
    have Rg16 := Rg15.gr hX
    have Rl16 := Rl15.gr hX
    have B16 := B15.trans ((hX.below).mono B15.size)
    clear Rt15 Rb15 Rg15 Rl15 B15 hX
    have HG1 := hX0
    clear hX0
    rw [F1.out.1, F1.out.2]
    go_wp2_with fail
    refine (wt_impl At nt ct zst Ag ng cg (gcL zst) w16 (HT.out.later B16) HNt.out (by omega) Rt16 Hng.out (by have := gcL_len zst; rw [Hng.out] at this; omega) hcapg Rg16).mono ?_
    rintro e w17 ⟨rfl, hX⟩
    have hX0 := hX
    have Rt17 := Rt16.gr hX
    have Rb17 := Rb16.gr hX
    have Rg17 := Rg16.gr hX
    have Rl17 := Rl16.gr hX
    have B17 := B16.trans ((hX.below).mono B16.size)
    clear Rt16 Rb16 Rg16 Rl16 B16 hX
    have HG2 := HG1.trans hX0
    clear hX0 HG1
    rw [F2.out.1, F2.out.2]
    obtain ⟨hc9, hg9⟩ := HP15.out _ HG2
    have hdl : decide (suW zst (gcL zst) ≤ mostW zst) = true := decide_eq_true hle
    generalize mostW zst = M at *
    generalize suW zst (gcL zst) = G at *
    go_wp2_with fail
    go_ret
    exact ⟨rfl, B17⟩
  · rw [hc0, hc1, hc2, hc3]
    go_wp2_with fail
    have HP15 := Lib.hid (fun W (h : Gr w15 W) => And.intro ((h.below.cell (p := ⟨gp, op + nt, none⟩) (HGP15.out.1)).trans HGP15.out.2) (Nat.lt_of_lt_of_le HGP15.out.1 h.below.size))
    refine (wt_impl At nt ct zst Ab nb cb (bcL zst) w15 (HT.out.later B15) HNt.out (by omega) Rt15 Hnb.out (by have := bcL_len zst; rw [Hnb.out] at this; omega) hcapb Rb15).mono ?_
    rintro e w16 ⟨rfl, hX⟩
    have hX0 := hX
    have Rt16 := Rt15.gr hX
    have Rb16 := Rb15.gr hX
    have Rg16 := Rg15.gr hX
    have Rl16 := Rl15.gr hX
    have B16 := B15.trans ((hX.below).mono B15.size)
    clear Rt15 Rb15 Rg15 Rl15 B15 hX
    have HG1 := hX0
    clear hX0
    rw [F1.out.1, F1.out.2]
    go_wp2_with fail
    refine (wt_impl At nt ct zst Ag ng cg (gcL zst) w16 (HT.out.later B16) HNt.out (by omega) Rt16 Hng.out (by have := gcL_len zst; rw [Hng.out] at this; omega) hcapg Rg16).mono ?_
    rintro e w17 ⟨rfl, hX⟩
    have hX0 := hX
    have Rt17 := Rt16.gr hX
    have Rb17 := Rb16.gr hX
    have Rg17 := Rg16.gr hX
    have Rl17 := Rl16.gr hX
    have B17 := B16.trans ((hX.below).mono B16.size)
    clear Rt16 Rb16 Rg16 Rl16 B16 hX
    have HG2 := HG1.trans hX0
    clear hX0 HG1
    rw [F2.out.1, F2.out.2]
    obtain ⟨hc9, hg9⟩ := HP15.out _ HG2
    have hdl : decide (suW zst (gcL zst) ≤ mostW zst) = true := decide_eq_true hle
    generalize mostW zst = M at *
    generalize suW zst (gcL zst) = G at *
    go_wp2_with fail
    go_ret
    exact ⟨rfl, B17⟩
  · rw [hc0, hc1, hc2, hc3]
    have H4 := Lib.hid hc4
    have H5 := Lib.hid hc5
    have H0 := Lib.hid hc0
    clear hc0 hc1 hc2 hc3 hc4 hc5
    go_wp2_with fail
    refine (pf_impl Al nl cl zsl w15 (HT.out.later B15) HNl.out (by omega) Rl15).mono ?_
    rintro e w16 ⟨⟨v, rfl, hv⟩, hX⟩
    have hX0 := hX
    have Rt16 := Rt15.below hX
    have Rb16 := Rb15.below hX
    have Rg16 := Rg15.below hX
    have Rl16 := Rl15.below hX
    have B16 := B15.trans (hX.mono B15.size)
    clear Rt15 Rb15 Rg15 Rl15 B15 hX
    have HGP16 := Lib.hid (And.intro (Nat.lt_of_lt_of_le HGP15.out.1 hX0.size) ((hX0.cell (p := ⟨gp, op + nt, none⟩) HGP15.out.1).trans HGP15.out.2))
    obtain ⟨Az, cz, rfl, hcapz, Rz16⟩ := Lst.slice2 hv
    clear hv hX0
    rw [H0.out]
    obtain ⟨h6, h7⟩ := H5.out
    rw [HNl.out] at h6 h7
    rw [h6]
    obtain ⟨gz, oz, rfl, hgz, hcz⟩ := (Rz16).at_ (map_at h7)
    have hle5 := H4.out
    have hdl5 : decide (mostW zsl < suW zsl cs) = false := decide_eq_false (by omega)
    have hnl2 : (nl : Int) < (nl : Int) + 1 := by omega
    have hnl3 : (0 : Int) ≤ (nl : Int) := by omega
    generalize mostW zsl = M5 at *
    generalize suW zsl cs = G5 at *
    go_wp2_with fail
    clear Rz16 hcz
    have HP16 := Lib.hid (fun W (h : Gr w16 W) => And.intro ((h.below.cell (p := ⟨gp, op + nt, none⟩) (HGP16.out.1)).trans HGP16.out.2) (Nat.lt_of_lt_of_le HGP16.out.1 h.below.size))
    refine (wt_impl At nt ct zst Ab nb cb (bcL zst) w16 (HT.out.later B16) HNt.out (by omega) Rt16 Hnb.out (by have := bcL_len zst; rw [Hnb.out] at this; omega) hcapb Rb16).mono ?_
    rintro e w17 ⟨rfl, hX⟩
    have hX0 := hX
    have Rt17 := Rt16.gr hX
    have Rb17 := Rb16.gr hX
    have Rg17 := Rg16.gr hX
    have Rl17 := Rl16.gr hX
    have B17 := B16.trans ((hX.below).mono B16.size)
    clear Rt16 Rb16 Rg16 Rl16 B16 hX
    have HG1 := hX0
    clear hX0
    rw [F1.out.1, F1.out.2]
    go_wp2_with fail
    refine (wt_impl At nt ct zst Ag ng cg (gcL zst) w17 (HT.out.later B17) HNt.out (by omega) Rt17 Hng.out (by have := gcL_len zst; rw [Hng.out] at this; omega) hcapg Rg17).mono ?_
    rintro e w18 ⟨rfl, hX⟩
    have hX0 := hX
    have Rt18 := Rt17.gr hX
    have Rb18 := Rb17.gr hX
    have Rg18 := Rg17.gr hX
    have Rl18 := Rl17.gr hX
    have B18 := B17.trans ((hX.below).mono B17.size)
    clear Rt17 Rb17 Rg17 Rl17 B17 hX
    have HG2 := HG1.trans hX0
    clear hX0 HG1
    rw [F2.out.1, F2.out.2]
    obtain ⟨hc9, hg9⟩ := HP16.out _ HG2
    have hdl : decide (suW zst (gcL zst) ≤ mostW zst) = true := decide_eq_true hle
    generalize mostW zst = M at *
    generalize suW zst (gcL zst) = G at *
    go_wp2_with fail
    go_ret
    exact ⟨rfl, B18⟩

set_option maxHeartbeats 4000000 in
set_option maxRecDepth 100000 in
theorem walk (w : World) (hL : laidMet Tryd.prog Rows.fnLabelsRow.laid w) (A0 : Option Addr) (n0 c0 : Nat) (hB0 : Bytes w w.heap.size A0 n0) :
    Calls Tryd.prog 6 #[.slice A0 n0 c0] w (LawDone w) := by
  have hT := tab hL
  clear hL
  by_cases hbig : 4096 < n0
  · have hd : decide ((4096 : Int) < n0) = true := by simp; omega
    go_enter Tryd.func6, Tryd.ntmps6
    go_wp2_with fail
    refine (big_any A0 n0 c0 w).mono ?_
    rw [hd]
    rintro e w1 ⟨rfl, rfl⟩
    go_wp2_with fail
    go_ret
    exact ⟨rfl, Below.refl _ _⟩
  · exact walk1 w hT A0 n0 c0 hB0 hbig

set_option maxRecDepth 100000 in
theorem lifted (os : Os) (started : os.Started) (H : Type) (enc : TypeId × Value → H) :
    ReturnsInHanded {} Tryd.checked os 6 .any (fun w args => (Rows.fnLabelsSpec.pre enc Tryd.prog Tryd.f6 Rows.fnLabelsRow.domain false w args ∧ laidMetH Tryd.prog Rows.fnLabelsRow.laid w) ∧ sizedMet enc Tryd.prog Tryd.f6 (OpenSpec.ofChange Rows.fnLabelsSpec) false w args) (Rows.fnLabelsSpec.post enc Tryd.prog Tryd.f6 false true false false) := by
  refine returnsInHanded_of_change_and (C := Tryd.checked) (X := fun w _ => laidMetH Tryd.prog Rows.fnLabelsRow.laid w) (fun _ _ _ hh h => h.of_heap hh) own started (by kernel_rfl) Tryd.func6
    (ChangeSpec.witness_shaped (enc := enc) (C := Tryd.checked) (os := os) (X := fun w _ => laidMetH Tryd.prog Rows.fnLabelsRow.laid w) false (World.laidAll Tryd.prog os Rows.fnLabelsRow.laid) #[.slice none 0 0] 8 (World.laidAll_os _ _ _)
      (World.shaped_of_ZipB (by kernel_rfl) (by kernel_rfl)) (by kernel_rfl) (by kernel_rfl) (by kernel_rfl)
      (by rw [MakeChecks.laidMetH_plain _ _ _ (by kernel_rfl)]; exact laidMet_laidAll _ (by kernel_rfl) (by kernel_rfl))) ?_
  intro W base args ds gs before hval0 hW _ _ hL _
  rw [MakeChecks.laidMetH_plain _ _ _ (by kernel_rfl)] at hL
  have hval : ∀ (j : Nat) t v, Tryd.f6.params[j]? = some t → args[j]? = some v → Value.okWide Tryd.prog W .any base t v := hval0
  have hW' := hW
  obtain ⟨p, q, hA0, hV, hpq, hfz, hnd⟩ := hW
  have hA : DataW.TrodAll enc Tryd.prog W 0 (fun _ => true) true Tryd.f6.params.toList args.toList ds p := hA0
  have hT := hA
  obtain ⟨rfl, rfl⟩ := trodVars_none hV
  rw [Tryd.params6] at hA hval
  obtain ⟨v0, vs0, d0, ds0, p0, q0, hargs, rfl, rfl, h0, r0⟩ := trodAll_cons hA
  obtain ⟨rfl, rfl, rfl⟩ := trodAll_nil r0
  obtain rfl : args = #[v0] := by cases args; simp_all
  obtain ⟨A0, n0, c0, rfl, -, hB0⟩ := open_code Tryd.underlying22 Tryd.underlying5 (by kernel_rfl) (hval 0 22 v0 rfl rfl) h0
  clear hA0 hval0
  refine (walk W hL A0 n0 c0 hB0).mono fun e W' ⟨he, hb⟩ => ?_
  subst he
  exact ⟨_, rfl, law_post laidOut hW' hT hpq (by kernel_rfl) (fun _ _ => rfl) rfl rfl rfl Tryd.underlying4 hb⟩

theorem over : Rows.fnLabelsRow.holds Tryd.pinned (OpenSpec.ofChange Rows.fnLabelsSpec) :=
  OpenClaim.holds_of_wide 6 Tryd.f6 rfl rfl rfl rfl rfl rfl rfl ⟨rfl, rfl, rfl, rfl, rfl⟩ rfl rfl rfl rfl rfl (by kernel_rfl) Tryd.func6 (by kernel_rfl)
    (of_decide_eq_true (by kernel_rfl)) (by unfold Func.isWrapper; first | (rw [if_pos (by decide +kernel)]; kernel_rfl) | (rw [if_neg (by decide +kernel)]; exact ⟨rfl, rfl⟩))
    (fun os started H enc _ => lifted os started H enc)

theorem proved : Rows.FnLabelsCardSaid :=
  Claim7.holds_tied_plain_at .later [] Rows.fnLabelsCard.laidKinds true Rows.fnLabelsCard.stood.harness Rows.fnLabelsCard.stood.looks
    over (fun _ h => by cases h) (by kernel_rfl) (fun _ h => by cases h) fnLabels_row_tie rfl ⟨rfl, rfl⟩ (by kernel_rfl) rfl
    (fun f fn hf hfn => by
      obtain rfl : f = 6 := Option.some.inj ((show Tryd.prog.funcNamed Rows.fnLabelsRow.func = some 6 by kernel_rfl).symm.trans hf) |>.symm
      obtain rfl : fn = Tryd.f6 := (Option.some.inj (Tryd.func6.symm.trans hfn)).symm
      exact ⟨by kernel_rfl, fun j t ht => by
        rw [Tryd.params6] at ht
        have hm : t ∈ [22] := by simpa using Array.mem_of_getElem? ht
        have hall : ([22].all fun u => !Tryd.prog.wantsStandIn u) = true := by kernel_rfl
        exact (show Tryd.prog.wantsStandIn t = false by simpa using List.all_eq_true.1 hall t hm)⟩)
    (by kernel_rfl)
end Go.Proofs.YtggflladheemoaaDoor.fnLabels
