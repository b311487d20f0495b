/- For every code of bytes the texts of the drawn graduations and their readings are as the law FnGraduationTexts says, and it returns true. No condition beyond the library's tables and errors as its text lays them. -/
import Derived.Test.YtdbeedfapkfibaaDoorT21
import Derived.Test.YtdbeedfapkfibaaDoorT22
import Derived.Test.YtdbeedfapkfibaaDoorDB
import Derived.Test.YtdbeedfapkfibaaDoorLk
import Derived.Test.YtdbeedfapkfibaaDoorBig
import Derived.Test.YtdbeedfapkfibaaDoorDr
import Derived.Test.YtdbeedfapkfibaaDoorTie
import Derived.Test.YtdbeedfapkfibaaDoorCards
import Derived.Test.YtdbeedfapkfibaaDoorFr
import Derived.Test.YtdbeedfapkfibaaDoorRows
import Derived.WalkKit
import Derived.ProofKit
import Derived.OpenShut
import Derived.Test.YtdbeedfapkfibaaDoorDs
import Derived.HandedShaped
namespace Go.Proofs.YtdbeedfapkfibaaDoor.fnGraduationTexts
open Go.ChangeShapes Go.WideShapes Go.ChangeAt Go.RowKit
set_option linter.unusedVariables false
set_option linter.unusedSimpArgs false

theorem own : ownKnob Tryd.prog.godebug = none := by kernel_rfl

theorem tab {w : World} (hL : laidMet Tryd.prog Rows.fnGraduationTextsRow.laid w) : Tab w := by
  have h := hL.filter (fun x => x.1 == "internal/strconv.uint64pow10")
  have e : Rows.fnGraduationTextsRow.laid.filter (fun x => x.1 == "internal/strconv.uint64pow10") = [("internal/strconv.uint64pow10", Lib.tabData .u64 Lib.pow10Tab)] := by rfl
  rw [e] at h
  exact Lib.tabIs_of_head (g := 1) (by kernel_rfl) (by kernel_rfl) Tryd.underlying153 Tryd.underlying131 (by kernel_rfl) (by kernel_rfl) h

theorem errs {w : World} (hL : laidMet Tryd.prog Rows.fnGraduationTextsRow.laid w) : Errs w := by
  have h1 := hL.filter (fun x => x.1 == "strconv.ErrSyntax")
  have e1 : Rows.fnGraduationTextsRow.laid.filter (fun x => x.1 == "strconv.ErrSyntax") = [("strconv.ErrSyntax", Rows.laid_strconv_ErrSyntax)] := by rfl
  rw [e1] at h1
  have h2 := hL.filter (fun x => x.1 == "strconv.ErrRange")
  have e2 : Rows.fnGraduationTextsRow.laid.filter (fun x => x.1 == "strconv.ErrRange") = [("strconv.ErrRange", Rows.laid_strconv_ErrRange)] := by rfl
  rw [e2] at h2
  exact errs_of h1 h2

theorem rgI_len (l : List UInt8) : ((rgI l).getD []).length ≤ 12 := by
  unfold rgI
  split
  · simp
  · rename_i h
    split
    · simp only [Option.getD_some, List.length_map]; omega
    · simp
def rgC (l : List UInt8) : Int := if (rgI l).isSome = true then 0 else 6
def RgC (l : List UInt8) (w : World) (e : Ending) (w' : World) : Prop :=
  (∃ v, e = .returned (.tuple #[v, .int .i64 (rgC l)]) ∧ Lst3 61 w' w.heap.size v ((rgI l).getD [])) ∧ Below w.heap.size w w'
theorem rg_specI (s : ByteArray) (w : World) (hs : s.size ≤ 1048576) : Calls Tryd.prog 16 #[.string s] w (RgC s.data.toList w) := by
  have h := rg_spec s w hs
  rw [← rg_same] at h
  exact h
theorem rg_implC (s : ByteArray) (w : World) (hs : s.size ≤ 1048576) (hE : Errs w) (hT : Tab w) (hsh : w.ShapedOpen Tryd.prog) : Calls Tryd.prog 15 #[.string s] w (RgC s.data.toList w) := rg_impl s w hs hE hT hsh
theorem rg_case2 (u : ByteArray) : ((rgC u.data.toList == 0) = false) ∨
    (rgC u.data.toList = 0 ∧ gtS ((rgI u.data.toList).getD []) = u ∧ cmE ((rgI u.data.toList).getD []) = 0 ∧ Wf3 ((rgI u.data.toList).getD [])) := by
  unfold rgC
  rcases rg_case u with h | ⟨zs, h, h1, h2, h3, h4⟩
  · left; rw [h]; rfl
  · right
    rw [h]
    exact ⟨rfl, h1, h2, fun z hz => by
      obtain ⟨v1, v2, v3⟩ := gd_small h4 z hz
      exact ⟨vl_wf v1, vl_wf v2, vl_wf v3⟩⟩
theorem gt_case2 (zs : List P3) : (((cmE zs : Int) != 0) = true) ∨ (cmE zs = 0 ∧ rgI (gtS zs).data.toList = some zs ∧ rgC (gtS zs).data.toList = 0) := by
  rcases gt_case zs with h | ⟨h1, h2⟩
  · exact .inl h
  · exact .inr ⟨h1, h2, by unfold rgC; rw [h2]; rfl⟩

set_option maxHeartbeats 8000000 in
set_option maxRecDepth 100000 in
/-- The walk of a code that is not too long. -/
theorem walk1 (w : World) (hT : Tab w) (hE : Errs w) (hSH : w.ShapedOpen Tryd.prog) (A0 : Option Addr) (n0 c0 : Nat) (hB0 : Bytes w w.heap.size A0 n0) (hbig : ¬ 4096 < n0) :
    Calls Tryd.prog 3 #[.slice A0 n0 c0] w (LawDone w) := by
  have HT := Lib.hid hT
  clear hT
  have HE := Lib.hid hE
  clear hE
  have HSH := Lib.hid hSH
  clear hSH
  have hd : decide ((4096 : Int) < n0) = false := by simp; omega
  go_enter Tryd.func3, Tryd.ntmps3
  go_wp2_with fail
  refine (big_any A0 n0 c0 w).mono ?_
  rw [hd]
  rintro e w1 ⟨rfl, rfl⟩
  clear hd
  go_wp2_with fail
  refine (drawGT_any A0 n0 c0 w (by omega) hB0).mono ?_
  rintro e w1 ⟨v, zsg, rfl, hL, hP, hO, hX⟩
  have B1 := hX
  clear  hX
  obtain ⟨Ag, cg, rfl, Rg1⟩ := Lst3.slice hO
  have HWg := Lib.hid (ptb_wf hP)
  obtain ⟨ng, hn⟩ : ∃ q, zsg.length = q := ⟨_, rfl⟩
  rw [hn] at hL ⊢
  have HNg := Lib.hid hn
  have Lg := hL
  clear hn hO hP hL
  go_wp2_with fail
  refine (gt_impl Ag ng cg zsg w1 HNg.out (by omega) Rg1 HWg.out (HT.out.later B1)).mono ?_
  rintro e w2 ⟨rfl, hX⟩
  have Rg2 := Rg1.gr hX
  have B2 := B1.trans ((hX.below).mono B1.size)
  clear Rg1 B1 hX
  go_wp2_with fail
  refine (gt_spec Ag ng cg zsg w2 HNg.out (by omega) Rg2).mono ?_
  rintro e w3 ⟨rfl, hX⟩
  have Rg3 := Rg2.gr hX
  have B3 := B2.trans ((hX.below).mono B2.size)
  clear Rg2 B2 hX
  go_wp2_with fail
  refine (drawRG_any A0 n0 c0 w3 (by omega) (hB0.later B3)).mono ?_
  rintro e w4 ⟨u, rfl, hu, hX⟩
  have Rg4 := Rg3.below hX
  have B4 := B3.trans (hX.mono B3.size)
  clear Rg3 B3 hX
  go_wp2_with fail
  refine (rg_implC u w4 hu (HE.out.gr (Gr.of_below B4)) (HT.out.later B4) (shaped_below HSH.out B4)).mono ?_
  rintro e w5 ⟨⟨v, rfl, hv⟩, hX⟩
  have hX0 := hX
  have Rg5 := Rg4.below hX
  have B5 := B4.trans (hX.mono B4.size)
  clear Rg4 B4 hX
  have hlen := rgI_len u.data.toList
  obtain ⟨Ax, cx, rfl, Rx5⟩ := Lst3.slice hv
  clear hv hX0
  go_wp2_with fail
  refine (rg_specI u w5 hu).mono ?_
  rintro e w6 ⟨⟨v, rfl, hv⟩, hX⟩
  have hX0 := hX
  have Rg6 := Rg5.below hX
  have Rx6 := Rx5.below hX
  have B6 := B5.trans (hX.mono B5.size)
  clear Rg5 Rx5 B5 hX
  obtain ⟨Ay, cy, rfl, Ry6⟩ := Lst3.slice hv
  clear hv hX0
  have HG := Lib.hid (gt_case2 zsg)
  have HR := Lib.hid (rg_case2 u)
  have hgs := gtS_size zsg
  generalize (rgI u.data.toList).getD [] = L at *
  generalize rgC u.data.toList = cd at *
  generalize gtS zsg = T at *
  generalize cmE zsg = ce at *
  obtain ⟨nl, hnl⟩ : ∃ q, L.length = q := ⟨_, rfl⟩
  rw [hnl] at hlen ⊢
  have HNL := Lib.hid hnl
  clear hnl
  go_wp2_with fail
  refine (likeParts_same _ _ nl cx cy L w6 HNL.out (by omega) Rx6 Ry6).mono ?_
  rintro e w7 ⟨rfl, hX⟩
  have Rg7 := Rg6.gr hX
  have Rx7 := Rx6.gr hX
  have Ry7 := Ry6.gr hX
  have B7 := B6.trans ((hX.below).mono B6.size)
  clear Rg6 Rx6 Ry6 B6 hX
  clear Ry7
  rcases HR.out with hcd | ⟨rfl, hT2, hC2, hW2⟩
  · clear HR
    clear Rx7
    rcases HG.out with hce | ⟨rfl, hce, hce2⟩
    · go_wp2_with fail
      go_ret
      exact ⟨rfl, B7⟩
    · go_wp2_with fail
      refine (rg_implC T w7 (by omega) (HE.out.gr (Gr.of_below B7)) (HT.out.later B7) (shaped_below HSH.out B7)).mono ?_
      unfold RgC
      rw [hce2, hce]
      rintro e w8 ⟨⟨v, rfl, hv⟩, hX⟩
      have hX0 := hX
      have Rg8 := Rg7.below hX
      have B8 := B7.trans (hX.mono B7.size)
      clear Rg7 B7 hX
      obtain ⟨Az, cz, rfl, Rz8⟩ := Lst3.slice hv
      clear hv hX0
      rw [show (some zsg).getD [] = zsg from rfl] at Rz8 ⊢
      rw [HNg.out]
      go_wp2_with fail
      refine (likeParts_same _ _ ng cz cg zsg w8 HNg.out (by omega) Rz8 Rg8).mono ?_
      rintro e w9 ⟨rfl, hX⟩
      have Rg9 := Rg8.gr hX
      have Rz9 := Rz8.gr hX
      have B9 := B8.trans ((hX.below).mono B8.size)
      clear Rg8 Rz8 B8 hX
      go_wp2_with fail
      go_ret
      exact ⟨rfl, B9⟩
  · go_wp2_with fail
    refine (gt_impl Ax nl cx L w7 HNL.out (by omega) Rx7 hW2 (HT.out.later B7)).mono ?_
    rw [hT2, hC2]
    rintro e w8 ⟨rfl, hX⟩
    have Rg8 := Rg7.gr hX
    have Rx8 := Rx7.gr hX
    have B8 := B7.trans ((hX.below).mono B7.size)
    clear Rg7 Rx7 B7 hX
    clear Rx8
    rcases HG.out with hce | ⟨rfl, hce, hce2⟩
    · go_wp2_with fail
      go_ret
      exact ⟨rfl, B8⟩
    · go_wp2_with fail
      refine (rg_implC T w8 (by omega) (HE.out.gr (Gr.of_below B8)) (HT.out.later B8) (shaped_below HSH.out B8)).mono ?_
      unfold RgC
      rw [hce2, hce]
      rintro e w9 ⟨⟨v, rfl, hv⟩, hX⟩
      have hX0 := hX
      have Rg9 := Rg8.below hX
      have B9 := B8.trans (hX.mono B8.size)
      clear Rg8 B8 hX
      obtain ⟨Az, cz, rfl, Rz9⟩ := Lst3.slice hv
      clear hv hX0
      rw [show (some zsg).getD [] = zsg from rfl] at Rz9 ⊢
      rw [HNg.out]
      go_wp2_with fail
      refine (likeParts_same _ _ ng cz cg zsg w9 HNg.out (by omega) Rz9 Rg9).mono ?_
      rintro e w10 ⟨rfl, hX⟩
      have Rg10 := Rg9.gr hX
      have Rz10 := Rz9.gr hX
      have B10 := B9.trans ((hX.below).mono B9.size)
      clear Rg9 Rz9 B9 hX
      go_wp2_with fail
      go_ret
      exact ⟨rfl, B10⟩

set_option maxHeartbeats 4000000 in
set_option maxRecDepth 100000 in
theorem walk (w : World) (hL : laidMet Tryd.prog Rows.fnGraduationTextsRow.laid w) (hsh : w.ShapedOpen Tryd.prog) (A0 : Option Addr) (n0 c0 : Nat) (hB0 : Bytes w w.heap.size A0 n0) :
    Calls Tryd.prog 3 #[.slice A0 n0 c0] w (LawDone w) := by
  have hT := tab hL
  have hE := errs hL
  have hSH := hsh
  clear hL
  by_cases hbig : 4096 < n0
  · have hd : decide ((4096 : Int) < n0) = true := by simp; omega
    go_enter Tryd.func3, Tryd.ntmps3
    go_wp2_with fail
    refine (big_any A0 n0 c0 w).mono ?_
    rw [hd]
    rintro e w1 ⟨rfl, rfl⟩
    go_wp2_with fail
    go_ret
    exact ⟨rfl, Below.refl _ _⟩
  · exact walk1 w hT hE hSH A0 n0 c0 hB0 hbig

set_option maxRecDepth 100000 in
theorem lifted (os : Os) (started : os.Started) (H : Type) (enc : TypeId × Value → H) :
    ReturnsInHanded {} Tryd.checked os 3 .any (fun w args => (Rows.fnGraduationTextsSpec.pre enc Tryd.prog Tryd.f3 Rows.fnGraduationTextsRow.domain false w args ∧ laidMetH Tryd.prog Rows.fnGraduationTextsRow.laid w) ∧ sizedMet enc Tryd.prog Tryd.f3 (OpenSpec.ofChange Rows.fnGraduationTextsSpec) false w args) (Rows.fnGraduationTextsSpec.post enc Tryd.prog Tryd.f3 false true false false) := by
  refine handed_told (C := Tryd.checked) (X := fun w _ => laidMetH Tryd.prog Rows.fnGraduationTextsRow.laid w) (fun _ _ _ hh h => h.of_heap hh) own started (by kernel_rfl) Tryd.func3
    (ChangeSpec.witness_shaped (enc := enc) (C := Tryd.checked) (os := os) (X := fun w _ => laidMetH Tryd.prog Rows.fnGraduationTextsRow.laid w) false (World.laidAll Tryd.prog os Rows.fnGraduationTextsRow.laid) #[.slice none 0 0] 8 (World.laidAll_os _ _ _)
      (World.shaped_of_ZipB (by kernel_rfl) (by kernel_rfl)) (by kernel_rfl) (by kernel_rfl) (by kernel_rfl)
      (by rw [MakeChecks.laidMetH_plain _ _ _ (by kernel_rfl)]; exact laidMet_laidAll _ (by kernel_rfl) (by kernel_rfl))) ?_
  intro W args ds gs before hval0 hW hL hsh
  rw [MakeChecks.laidMetH_plain _ _ _ (by kernel_rfl)] at hL
  have hval : ∀ (j : Nat) t v, Tryd.f3.params[j]? = some t → args[j]? = some v → Value.okWide Tryd.prog W .any W.heap.size t v := hval0
  have hW' := hW
  obtain ⟨p, q, hA0, hV, hpq, hfz, hnd⟩ := hW
  have hA : DataW.TrodAll enc Tryd.prog W 0 (fun _ => true) true Tryd.f3.params.toList args.toList ds p := hA0
  have hT := hA
  obtain ⟨rfl, rfl⟩ := trodVars_none hV
  rw [Tryd.params3] at hA hval
  obtain ⟨v0, vs0, d0, ds0, p0, q0, hargs, rfl, rfl, h0, r0⟩ := trodAll_cons hA
  obtain ⟨rfl, rfl, rfl⟩ := trodAll_nil r0
  obtain rfl : args = #[v0] := by cases args; simp_all
  obtain ⟨A0, n0, c0, rfl, -, hB0⟩ := open_code Tryd.underlying22 Tryd.underlying5 (by kernel_rfl) (hval 0 22 v0 rfl rfl) h0
  clear hA0 hval0
  refine (walk W hL hsh A0 n0 c0 hB0).mono fun e W' ⟨he, hb⟩ => ?_
  subst he
  exact ⟨_, rfl, law_post laidOut hW' hT hpq (by kernel_rfl) (fun _ _ => rfl) rfl rfl rfl Tryd.underlying4 hb⟩

theorem over : Rows.fnGraduationTextsRow.holds Tryd.pinned (OpenSpec.ofChange Rows.fnGraduationTextsSpec) :=
  OpenClaim.holds_of_wide 3 Tryd.f3 rfl rfl rfl rfl rfl rfl rfl ⟨rfl, rfl, rfl, rfl, rfl⟩ rfl rfl rfl rfl rfl (by kernel_rfl) Tryd.func3 (by kernel_rfl)
    (of_decide_eq_true (by kernel_rfl)) (by unfold Func.isWrapper; first | (rw [if_pos (by decide +kernel)]; kernel_rfl) | (rw [if_neg (by decide +kernel)]; exact ⟨rfl, rfl⟩))
    (fun os started H enc _ => lifted os started H enc)

theorem proved : Rows.FnGraduationTextsCardSaid :=
  Claim7.holds_tied_plain_at .later [] Rows.fnGraduationTextsCard.laidKinds true Rows.fnGraduationTextsCard.stood.harness Rows.fnGraduationTextsCard.stood.looks
    over (fun _ h => by cases h) (by kernel_rfl) (fun _ h => by cases h) fnGraduationTexts_row_tie rfl ⟨rfl, rfl⟩ (by kernel_rfl) rfl
    (fun f fn hf hfn => by
      obtain rfl : f = 3 := Option.some.inj ((show Tryd.prog.funcNamed Rows.fnGraduationTextsRow.func = some 3 by kernel_rfl).symm.trans hf) |>.symm
      obtain rfl : fn = Tryd.f3 := (Option.some.inj (Tryd.func3.symm.trans hfn)).symm
      exact ⟨by kernel_rfl, fun j t ht => by
        rw [Tryd.params3] at ht
        have hm : t ∈ [22] := by simpa using Array.mem_of_getElem? ht
        have hall : ([22].all fun u => !Tryd.prog.wantsStandIn u) = true := by kernel_rfl
        exact (show Tryd.prog.wantsStandIn t = false by simpa using List.all_eq_true.1 hall t hm)⟩)
    (by kernel_rfl)
end Go.Proofs.YtdbeedfapkfibaaDoor.fnGraduationTexts
