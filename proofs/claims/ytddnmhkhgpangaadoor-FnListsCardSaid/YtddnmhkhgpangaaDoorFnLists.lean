/- For every code of bytes the texts of the drawn lists and their readings are as the law FnLists says, and it returns true. No condition beyond the library's tables and errors as its text lays them. -/
import Derived.Test.YtddnmhkhgpangaaDoorD10
import Derived.Test.YtddnmhkhgpangaaDoorBig
import Derived.Test.YtddnmhkhgpangaaDoorDr
import Derived.Test.YtddnmhkhgpangaaDoorTie
import Derived.Test.YtddnmhkhgpangaaDoorCards
import Derived.Test.YtddnmhkhgpangaaDoorFr
import Derived.Test.YtddnmhkhgpangaaDoorRows
import Derived.WalkKit
import Derived.ProofKit
import Derived.OpenShut
import Derived.Test.YtddnmhkhgpangaaDoorDs
import Derived.HandedShaped
namespace Go.Proofs.YtddnmhkhgpangaaDoor.fnLists
open Go.ChangeShapes Go.WideShapes Go.ChangeAt Go.RowKit
set_option linter.unusedVariables false
set_option linter.unusedSimpArgs false

theorem own : ownKnob Tryd.prog.godebug = none := by kernel_rfl

theorem tab {w : World} (hL : laidMet Tryd.prog Rows.fnListsRow.laid w) : Tab w := by
  have h := hL.filter (fun x => x.1 == "internal/strconv.uint64pow10")
  have e : Rows.fnListsRow.laid.filter (fun x => x.1 == "internal/strconv.uint64pow10") = [("internal/strconv.uint64pow10", Lib.tabData .u64 Lib.pow10Tab)] := by rfl
  rw [e] at h
  exact Lib.tabIs_of_head (g := 0) (by kernel_rfl) (by kernel_rfl) Tryd.underlying103 Tryd.underlying92 (by kernel_rfl) (by kernel_rfl) h

theorem errs {w : World} (hL : laidMet Tryd.prog Rows.fnListsRow.laid w) : Errs w := by
  have h1 := hL.filter (fun x => x.1 == "strconv.ErrSyntax")
  have e1 : Rows.fnListsRow.laid.filter (fun x => x.1 == "strconv.ErrSyntax") = [("strconv.ErrSyntax", Rows.laid_strconv_ErrSyntax)] := by rfl
  rw [e1] at h1
  have h2 := hL.filter (fun x => x.1 == "strconv.ErrRange")
  have e2 : Rows.fnListsRow.laid.filter (fun x => x.1 == "strconv.ErrRange") = [("strconv.ErrRange", Rows.laid_strconv_ErrRange)] := by rfl
  rw [e2] at h2
  exact errs_of h1 h2

theorem lc_facts (zs : List Int) : ltC zs = 2 ∨ (ltC zs = 0 ∧ (ltS zs).size ≤ 2100 ∧ rlI (ltS zs).data.toList = some zs) := by
  cases h : lt0 zs
  · left; exact (lt_no zs h).2
  · right; exact ⟨if_pos h, ltS_size zs, text_list zs h⟩

set_option maxHeartbeats 8000000 in
set_option maxRecDepth 100000 in
/-- The walk of a code that is not too long. -/
theorem walk1 (w : World) (hE : Errs w) (hT : Tab w) (hsh : w.ShapedOpen Tryd.prog) (A0 : Option Addr) (n0 c0 : Nat) (hB0 : Bytes w w.heap.size A0 n0) (hbig : ¬ 4096 < n0) :
    Calls Tryd.prog 4 #[.slice A0 n0 c0] w (LawDone w) := by
  have HE := Lib.hid hE
  have HT := Lib.hid hT
  have HSH := Lib.hid hsh
  clear hE hT hsh
  have hd : decide ((4096 : Int) < n0) = false := by simp; omega
  go_enter Tryd.func4, Tryd.ntmps4
  go_wp2_with fail
  refine (big_any A0 n0 c0 w).mono ?_
  rw [hd]
  rintro e w1 ⟨rfl, rfl⟩
  clear hd
  go_wp2_with fail
  refine (drawListText_any A0 n0 c0 w (by omega) hB0).mono ?_
  rintro e w1 ⟨g, cap, zs, rfl, hz, -, hg1, hg2, R1, B1⟩
  obtain ⟨n, hn⟩ : ∃ n, zs.length = n := ⟨_, rfl⟩
  rw [hn]
  have HN := Lib.hid hn
  rw [hn] at hz
  clear hn
  go_wp2_with fail
  refine (listText_impl _ n cap zs _ HN.out (by omega) R1 (HT.out.later B1)).mono ?_
  rintro e w2 ⟨rfl, hg⟩
  have R2 := R1.gr hg
  have B2 := B1.trans (hg.below.mono B1.size)
  clear R1 B1 hg
  go_wp2_with fail
  refine (listText_spec _ n cap zs _ HN.out (by omega) R2).mono ?_
  have HC := Lib.hid (lc_facts zs)
  generalize ltS zs = T at *
  generalize ltC zs = C at *
  rintro e w3 ⟨rfl, hg⟩
  have R3 := R2.gr hg
  have B3 := B2.trans (hg.below.mono B2.size)
  clear R2 B2 hg
  go_wp2_with fail
  refine (drawReadList_any A0 n0 c0 _ (by omega) (hB0.later B3)).mono ?_
  rintro e w4 ⟨u, rfl, hu, hb⟩
  have R4 := R3.below hb
  have B4 := B3.trans (hb.mono B3.size)
  clear R3 B3 hb
  have HI := Lib.hid (rl_same u.data.toList)
  have hU : u.size ≤ 1048576 := by omega
  go_wp2_with fail
  refine (readList_impl u _ hU (HE.out.gr (Gr.of_below B4)) (HT.out.later B4) (shaped_below HSH.out B4)).mono ?_
  cases hr : rlI u.data.toList with
  | none =>
    have H2 := Lib.hid (HI.out.symm.trans hr)
    clear hr
    rintro e w5 ⟨rfl, hb⟩
    have R5 := R4.below hb
    have B5 := B4.trans (hb.mono B4.size)
    clear R4 B4 hb
    go_wp2_with fail
    refine (readList_spec u _ hU).mono ?_
    rw [H2.out]
    rintro e w6 ⟨rfl, hb⟩
    have R6 := R5.below hb
    have B6 := B5.trans (hb.mono B5.size)
    clear R5 B5 hb
    go_wp2_with fail
    refine (likeInts_same none none 0 0 0 [] _ rfl (by omega) (Reads.nil _ _ _) (Reads.nil _ _ _)).mono ?_
    rintro e w7 ⟨rfl, hg⟩
    have R7 := R6.gr hg
    have B7 := B6.trans (hg.below.mono B6.size)
    clear R6 B6 hg
    rcases HC.out with rfl | ⟨rfl, hz2, ht⟩
    · clear HC
      go_wp2_with fail
      go_ret
      exact ⟨rfl, B7⟩
    · have HQ := Lib.hid ht
      clear HC ht
      go_wp2_with fail
      refine (readList_impl T _ (by omega) (HE.out.gr (Gr.of_below B7)) (HT.out.later B7) (shaped_below HSH.out B7)).mono ?_
      rw [HQ.out]
      rintro e wy ⟨gy, rfl, hgy, hry, hby⟩
      rw [HN.out]
      have RY := R7.below hby
      have BY := B7.trans (hby.mono B7.size)
      go_wp2_with fail
      refine (likeInts_same _ _ n n cap zs _ HN.out (by omega) hry.reads RY).mono ?_
      rintro e wz ⟨rfl, hg⟩
      have BZ := BY.trans (hg.below.mono BY.size)
      go_wp2_with fail
      go_ret
      exact ⟨rfl, BZ⟩
  | some ys =>
    have H2 := Lib.hid (HI.out.symm.trans hr)
    obtain ⟨-, hy1, hy2, hy3⟩ := list_text u ys hr
    have HY1 := Lib.hid hy1
    have HY2 := Lib.hid hy2
    clear hr hy1 hy2
    obtain ⟨m, hm⟩ : ∃ m, ys.length = m := ⟨_, rfl⟩
    rintro e w5 ⟨gx, rfl, hgx, hrx, hb⟩
    rw [hm] at hy3 ⊢
    have HM := Lib.hid hm
    clear hm
    have R5 := R4.below hb
    have B5 := B4.trans (hb.mono B4.size)
    have X5 := hrx.reads
    clear R4 B4 hb hrx
    go_wp2_with fail
    refine (readList_spec u _ hU).mono ?_
    rw [H2.out]
    rintro e w6 ⟨gs, cs, rfl, hgs1, hgs2, S6, hb⟩
    rw [HM.out]
    have R6 := R5.below hb
    have X6 := X5.below hb
    have B6 := B5.trans (hb.mono B5.size)
    clear R5 B5 hb X5
    go_wp2_with fail
    refine (likeInts_same _ _ m m cs ys _ HM.out (by omega) X6 S6).mono ?_
    rintro e w7 ⟨rfl, hg⟩
    have R7 := R6.gr hg
    have X7 := X6.gr hg
    have B7 := B6.trans (hg.below.mono B6.size)
    clear R6 B6 hg X6 S6
    go_wp2_with fail
    refine (listText_impl _ m m ys _ HM.out (by omega) X7 (HT.out.later B7)).mono ?_
    rw [HY1.out, HY2.out]
    rintro e w8 ⟨rfl, hg⟩
    have R8 := R7.gr hg
    have B8 := B7.trans (hg.below.mono B7.size)
    clear R7 B7 hg X7
    rcases HC.out with rfl | ⟨rfl, hz2, ht⟩
    · clear HC
      go_wp2_with fail
      go_ret
      exact ⟨rfl, B8⟩
    · have HQ := Lib.hid ht
      clear HC ht
      go_wp2_with fail
      refine (readList_impl T _ (by omega) (HE.out.gr (Gr.of_below B8)) (HT.out.later B8) (shaped_below HSH.out B8)).mono ?_
      rw [HQ.out]
      rintro e wy ⟨gy, rfl, hgy, hry, hby⟩
      rw [HN.out]
      have RY := R8.below hby
      have BY := B8.trans (hby.mono B8.size)
      go_wp2_with fail
      refine (likeInts_same _ _ n n cap zs _ HN.out (by omega) hry.reads RY).mono ?_
      rintro e wz ⟨rfl, hg⟩
      have BZ := BY.trans (hg.below.mono BY.size)
      go_wp2_with fail
      go_ret
      exact ⟨rfl, BZ⟩

set_option maxHeartbeats 4000000 in
set_option maxRecDepth 100000 in
theorem walk (w : World) (hL : laidMet Tryd.prog Rows.fnListsRow.laid w) (hsh : w.ShapedOpen Tryd.prog) (A0 : Option Addr) (n0 c0 : Nat) (hB0 : Bytes w w.heap.size A0 n0) :
    Calls Tryd.prog 4 #[.slice A0 n0 c0] w (LawDone w) := by
  have HT := tab hL
  have HE := errs hL
  clear hL
  by_cases hbig : 4096 < n0
  · clear HT HE
    have hd : decide ((4096 : Int) < n0) = true := by simp; omega
    go_enter Tryd.func4, Tryd.ntmps4
    go_wp2_with fail
    refine (big_any A0 n0 c0 w).mono ?_
    rw [hd]
    rintro e w1 ⟨rfl, rfl⟩
    go_wp2_with fail
    go_ret
    exact ⟨rfl, Below.refl _ _⟩
  · exact walk1 w HE HT hsh A0 n0 c0 hB0 hbig

set_option maxRecDepth 100000 in
theorem lifted (os : Os) (started : os.Started) (H : Type) (enc : TypeId × Value → H) :
    ReturnsInHanded {} Tryd.checked os 4 .any (fun w args => (Rows.fnListsSpec.pre enc Tryd.prog Tryd.f4 Rows.fnListsRow.domain false w args ∧ laidMetH Tryd.prog Rows.fnListsRow.laid w) ∧ sizedMet enc Tryd.prog Tryd.f4 (OpenSpec.ofChange Rows.fnListsSpec) false w args) (Rows.fnListsSpec.post enc Tryd.prog Tryd.f4 false true false false) := by
  refine handed_told (C := Tryd.checked) (X := fun w _ => laidMetH Tryd.prog Rows.fnListsRow.laid w) (fun _ _ _ hh h => h.of_heap hh) own started (by kernel_rfl) Tryd.func4
    (ChangeSpec.witness_shaped (enc := enc) (C := Tryd.checked) (os := os) (X := fun w _ => laidMetH Tryd.prog Rows.fnListsRow.laid w) false (World.laidAll Tryd.prog os Rows.fnListsRow.laid) #[.slice none 0 0] 8 (World.laidAll_os _ _ _)
      (World.shaped_of_ZipB (by kernel_rfl) (by kernel_rfl)) (by kernel_rfl) (by kernel_rfl) (by kernel_rfl)
      (by rw [MakeChecks.laidMetH_plain _ _ _ (by kernel_rfl)]; exact laidMet_laidAll _ (by kernel_rfl) (by kernel_rfl))) ?_
  intro W args ds gs before hval0 hW hL hsh
  rw [MakeChecks.laidMetH_plain _ _ _ (by kernel_rfl)] at hL
  have hval : ∀ (j : Nat) t v, Tryd.f4.params[j]? = some t → args[j]? = some v → Value.okWide Tryd.prog W .any W.heap.size t v := hval0
  have hW' := hW
  obtain ⟨p, q, hA0, hV, hpq, hfz, hnd⟩ := hW
  have hA : DataW.TrodAll enc Tryd.prog W 0 (fun _ => true) true Tryd.f4.params.toList args.toList ds p := hA0
  have hT := hA
  obtain ⟨rfl, rfl⟩ := trodVars_none hV
  rw [Tryd.params4] at hA hval
  obtain ⟨v0, vs0, d0, ds0, p0, q0, hargs, rfl, rfl, h0, r0⟩ := trodAll_cons hA
  obtain ⟨rfl, rfl, rfl⟩ := trodAll_nil r0
  obtain rfl : args = #[v0] := by cases args; simp_all
  obtain ⟨A0, n0, c0, rfl, -, hB0⟩ := open_code Tryd.underlying22 Tryd.underlying5 (by kernel_rfl) (hval 0 22 v0 rfl rfl) h0
  clear hA0 hval0
  refine (walk W hL hsh A0 n0 c0 hB0).mono fun e W' ⟨he, hb⟩ => ?_
  subst he
  exact ⟨_, rfl, law_post laidOut hW' hT hpq (by kernel_rfl) (fun _ _ => rfl) rfl rfl rfl Tryd.underlying4 hb⟩

theorem over : Rows.fnListsRow.holds Tryd.pinned (OpenSpec.ofChange Rows.fnListsSpec) :=
  OpenClaim.holds_of_wide 4 Tryd.f4 rfl rfl rfl rfl rfl rfl rfl ⟨rfl, rfl, rfl, rfl, rfl⟩ rfl rfl rfl rfl rfl (by kernel_rfl) Tryd.func4 (by kernel_rfl)
    (of_decide_eq_true (by kernel_rfl)) (by unfold Func.isWrapper; first | (rw [if_pos (by decide +kernel)]; kernel_rfl) | (rw [if_neg (by decide +kernel)]; exact ⟨rfl, rfl⟩))
    (fun os started H enc _ => lifted os started H enc)

theorem proved : Rows.FnListsCardSaid :=
  Claim7.holds_tied_plain_at .later [] Rows.fnListsCard.laidKinds true Rows.fnListsCard.stood.harness true
    over (fun _ h => by cases h) (by kernel_rfl) (fun _ h => by cases h) fnLists_row_tie rfl ⟨rfl, rfl⟩ (by kernel_rfl) rfl
    (fun f fn hf hfn => by
      obtain rfl : f = 4 := Option.some.inj ((show Tryd.prog.funcNamed Rows.fnListsRow.func = some 4 by kernel_rfl).symm.trans hf) |>.symm
      obtain rfl : fn = Tryd.f4 := (Option.some.inj (Tryd.func4.symm.trans hfn)).symm
      exact ⟨by kernel_rfl, fun j t ht => by
        rw [Tryd.params4] at ht
        have hm : t ∈ [22] := by simpa using Array.mem_of_getElem? ht
        have hall : ([22].all fun u => !Tryd.prog.wantsStandIn u) = true := by kernel_rfl
        exact (show Tryd.prog.wantsStandIn t = false by simpa using List.all_eq_true.1 hall t hm)⟩)
    (by kernel_rfl)
end Go.Proofs.YtddnmhkhgpangaaDoor.fnLists
