/- For every string the program's ReadList answers as the model does and answers so again when the first answer was written over, and the law returns true. No condition beyond the library's tables and errors as its text lays them. -/
import Derived.Test.YtddnmhkhgpangaaDoorT10
import Derived.Test.YtddnmhkhgpangaaDoorC02z
import Derived.Test.YtddnmhkhgpangaaDoorC01d
import Derived.Test.YtddnmhkhgpangaaDoorDr
import Derived.Test.YtddnmhkhgpangaaDoorTie
import Derived.Test.YtddnmhkhgpangaaDoorCards
import Derived.Test.YtddnmhkhgpangaaDoorFr
import Derived.Test.YtddnmhkhgpangaaDoorRows
import Derived.WalkKit
import Derived.ProofKit
import Derived.OpenShut
import Derived.Test.YtddnmhkhgpangaaDoorDs
import Derived.HandedShaped
namespace Go.Proofs.YtddnmhkhgpangaaDoor.fnExactReadList
open Go.ChangeShapes Go.WideShapes Go.ChangeAt Go.RowKit
set_option linter.unusedVariables false
set_option linter.unusedSimpArgs false

theorem own : ownKnob Tryd.prog.godebug = none := by kernel_rfl

theorem tab {w : World} (hL : laidMet Tryd.prog Rows.fnExactReadListRow.laid w) : Tab w := by
  have h := hL.filter (fun x => x.1 == "internal/strconv.uint64pow10")
  have e : Rows.fnExactReadListRow.laid.filter (fun x => x.1 == "internal/strconv.uint64pow10") = [("internal/strconv.uint64pow10", Lib.tabData .u64 Lib.pow10Tab)] := by rfl
  rw [e] at h
  exact Lib.tabIs_of_head (g := 0) (by kernel_rfl) (by kernel_rfl) Tryd.underlying103 Tryd.underlying92 (by kernel_rfl) (by kernel_rfl) h

theorem errs {w : World} (hL : laidMet Tryd.prog Rows.fnExactReadListRow.laid w) : Errs w := by
  have h1 := hL.filter (fun x => x.1 == "strconv.ErrSyntax")
  have e1 : Rows.fnExactReadListRow.laid.filter (fun x => x.1 == "strconv.ErrSyntax") = [("strconv.ErrSyntax", Rows.laid_strconv_ErrSyntax)] := by rfl
  rw [e1] at h1
  have h2 := hL.filter (fun x => x.1 == "strconv.ErrRange")
  have e2 : Rows.fnExactReadListRow.laid.filter (fun x => x.1 == "strconv.ErrRange") = [("strconv.ErrRange", Rows.laid_strconv_ErrRange)] := by rfl
  rw [e2] at h2
  exact errs_of h1 h2

theorem rl_len (l : List UInt8) (zs : List Int) (h : rlI l = some zs) : zs.length ≤ 100 := by
  unfold rlI at h
  split at h
  · injection h with h; subst h; simp
  · split at h
    · cases h
    · rename_i hr
      unfold numR at h
      split at h
      · injection h with h; rw [← h, List.length_map]; omega
      · cases h


set_option maxHeartbeats 4000000 in
set_option maxRecDepth 100000 in
theorem walk (w : World) (hL : laidMet Tryd.prog Rows.fnExactReadListRow.laid w) (hsh : w.ShapedOpen Tryd.prog) (s0 : ByteArray) (ws0 : s0.size ≤ maxLen) :
    Calls Tryd.prog 6 #[.string s0] w (LawDone w) := by
  have HT := Lib.hid (tab hL)
  have HE := Lib.hid (errs hL)
  have HSH := Lib.hid hsh
  clear hL hsh
  unfold maxLen at ws0
  by_cases hb : 1048576 < s0.size
  · go_enter Tryd.func6, Tryd.ntmps6
    go_wp2
    go_ret
    exact ⟨rfl, Below.refl _ _⟩
  have HI := Lib.hid (rl_same s0.data.toList)
  have HSZ := Lib.hid (show s0.size ≤ 1048576 by omega)
  cases hr : rlI s0.data.toList with
  | none =>
    have H1 := Lib.hid hr
    have H2 := Lib.hid (HI.out.symm.trans hr)
    clear hr
    go_enter Tryd.func6, Tryd.ntmps6
    go_wp2_with fail
    refine (readList_spec s0 w HSZ.out).mono ?_
    rw [H2.out]
    rintro e w1 ⟨rfl, hb1⟩
    go_wp2_with fail
    refine (readList_impl s0 w1 HSZ.out (HE.out.gr (Gr.of_below hb1)) (HT.out.later hb1) (shaped_below HSH.out hb1)).mono ?_
    rw [H1.out]
    rintro e w2 ⟨rfl, hb2⟩
    have hW2 := hb1.trans (hb2.mono hb1.size)
    go_wp2_with fail
    refine (eqInts_same none none 0 0 0 [] w2 rfl (by omega) (Reads.nil _ _ _) (Reads.nil _ _ _)).mono ?_
    rintro e w3 ⟨rfl, hg3⟩
    have hW3 := hW2.trans (hg3.below.mono hW2.size)
    go_wp2_with fail
    refine (mark_nil none 0 w3).mono ?_
    rintro e w4 ⟨rfl, rfl⟩
    go_wp2_with fail
    refine (held_nil none 0 w3).mono ?_
    rintro e w5 ⟨rfl, rfl⟩
    go_wp2_with fail
    refine (readList_impl s0 w3 HSZ.out (HE.out.gr (Gr.of_below hW3)) (HT.out.later hW3) (shaped_below HSH.out hW3)).mono ?_
    rw [H1.out]
    rintro e w6 ⟨rfl, hb6⟩
    have hW6 := hW3.trans (hb6.mono hW3.size)
    go_wp2_with fail
    refine (eqInts_same none none 0 0 0 [] w6 rfl (by omega) (Reads.nil _ _ _) (Reads.nil _ _ _)).mono ?_
    rintro e w7 ⟨rfl, hg7⟩
    have hW7 := hW6.trans (hg7.below.mono hW6.size)
    go_wp2_with fail
    refine (held_nil none 0 w7).mono ?_
    rintro e w8 ⟨rfl, rfl⟩
    go_wp2_with fail
    go_ret
    exact ⟨rfl, hW7⟩
  | some zs =>
    have H1 := Lib.hid hr
    have H2 := Lib.hid (HI.out.symm.trans hr)
    have HZ := Lib.hid (rl_len _ _ hr)
    clear hr
    obtain ⟨n, hn⟩ : ∃ n, zs.length = n := ⟨_, rfl⟩
    have hn100 : n ≤ 100 := by have := HZ.out; omega
    have HN := Lib.hid hn
    clear hn
    go_enter Tryd.func6, Tryd.ntmps6
    go_wp2_with fail
    refine (readList_spec s0 w HSZ.out).mono ?_
    rw [H2.out]
    rintro e w1 ⟨wg, wc, rfl, hwg1, hwg2, hwr, hb1⟩
    rw [HN.out]
    go_wp2_with fail
    refine (readList_impl s0 w1 HSZ.out (HE.out.gr (Gr.of_below hb1)) (HT.out.later hb1) (shaped_below HSH.out hb1)).mono ?_
    rw [H1.out]
    rintro e w2 ⟨g, rfl, hg1, hrow2, hb2⟩
    rw [HN.out]
    have hW2 := hb1.trans (hb2.mono hb1.size)
    go_wp2_with fail
    refine (eqInts_same _ _ n n wc zs w2 HN.out (by omega) hrow2.reads (hwr.below hb2)).mono ?_
    rintro e w3 ⟨rfl, hg3⟩
    have hV3 := hb2.trans (hg3.below.mono hb2.size)
    have hrow3 := hrow2.gr hg3
    go_wp2_with fail
    refine (mark_any g n n (zs.map vi) w3 (by rw [List.length_map, HN.out]) (by omega) hrow3).mono ?_
    rintro e w4 ⟨rfl, hrow4, hd4⟩
    have hV4 := hV3.trans (hd4.below hg1 hV3.size)
    have hW4 := hb1.trans (hV4.mono hb1.size)
    go_wp2_with fail
    refine (held_any g n n w4 (by omega) hrow4).mono ?_
    rintro e w5 ⟨rfl, rfl⟩
    go_wp2_with fail
    refine (readList_impl s0 w4 HSZ.out (HE.out.gr (Gr.of_below hW4)) (HT.out.later hW4) (shaped_below HSH.out hW4)).mono ?_
    rw [H1.out]
    rintro e w6 ⟨g6, rfl, hg6, hrow6, hb6⟩
    rw [HN.out]
    have hV6 := hV4.trans (hb6.mono hV4.size)
    have hrow7 := hrow4.below hb6 hrow4.lt
    go_wp2_with fail
    refine (eqInts_same _ _ n n wc zs w6 HN.out (by omega) hrow6.reads (hwr.below hV6)).mono ?_
    rintro e w7 ⟨rfl, hg7⟩
    have hV7 := hV6.trans (hg7.below.mono hV6.size)
    have hrow8 := hrow7.gr hg7
    go_wp2_with fail
    refine (held_any g n n w7 (by omega) hrow8).mono ?_
    rintro e w8 ⟨rfl, rfl⟩
    go_wp2_with fail
    go_ret
    exact ⟨rfl, hb1.trans (hV7.mono hb1.size)⟩

set_option maxRecDepth 100000 in
theorem lifted (os : Os) (started : os.Started) (H : Type) (enc : TypeId × Value → H) :
    ReturnsInHanded {} Tryd.checked os 6 .any (fun w args => (Rows.fnExactReadListSpec.pre enc Tryd.prog Tryd.f6 Rows.fnExactReadListRow.domain false w args ∧ laidMetH Tryd.prog Rows.fnExactReadListRow.laid w) ∧ sizedMet enc Tryd.prog Tryd.f6 (OpenSpec.ofChange Rows.fnExactReadListSpec) false w args) (Rows.fnExactReadListSpec.post enc Tryd.prog Tryd.f6 false true false false) := by
  refine handed_told (C := Tryd.checked) (X := fun w _ => laidMetH Tryd.prog Rows.fnExactReadListRow.laid w) (fun _ _ _ hh h => h.of_heap hh) own started (by kernel_rfl) Tryd.func6
    (ChangeSpec.witness_shaped (enc := enc) (C := Tryd.checked) (os := os) (X := fun w _ => laidMetH Tryd.prog Rows.fnExactReadListRow.laid w) false (World.laidAll Tryd.prog os Rows.fnExactReadListRow.laid) #[.string ⟨#[]⟩] 8 (World.laidAll_os _ _ _)
      (World.shaped_of_ZipB (by kernel_rfl) (by kernel_rfl)) (by kernel_rfl) (by kernel_rfl) (by kernel_rfl)
      (by rw [MakeChecks.laidMetH_plain _ _ _ (by kernel_rfl)]; exact laidMet_laidAll _ (by kernel_rfl) (by kernel_rfl))) ?_
  intro W args ds gs before hval0 hW hL hsh
  rw [MakeChecks.laidMetH_plain _ _ _ (by kernel_rfl)] at hL
  have hval : ∀ (j : Nat) t v, Tryd.f6.params[j]? = some t → args[j]? = some v → Value.okWide Tryd.prog W .any W.heap.size t v := hval0
  have hW' := hW
  obtain ⟨p, q, hA0, hV, hpq, hfz, hnd⟩ := hW
  have hA : DataW.TrodAll enc Tryd.prog W 0 (fun _ => true) true Tryd.f6.params.toList args.toList ds p := hA0
  have hT := hA
  obtain ⟨rfl, rfl⟩ := trodVars_none hV
  rw [Tryd.params6] at hA hval
  obtain ⟨v0, vs0, d0, ds0, p0, q0, hargs, rfl, rfl, h0, r0⟩ := trodAll_cons hA
  obtain ⟨rfl, rfl, rfl⟩ := trodAll_nil r0
  obtain rfl : args = #[v0] := by cases args; simp_all
  obtain ⟨s0, rfl, -, -, ws0⟩ := Go.ChangeMaps.open_string Tryd.underlying9 (hval 0 9 v0 rfl rfl) h0
  clear hA0 hval0
  refine (walk W hL hsh s0 ws0).mono fun e W' ⟨he, hb⟩ => ?_
  subst he
  exact ⟨_, rfl, law_post laidOut hW' hT hpq (by kernel_rfl) (fun _ _ => rfl) rfl rfl rfl Tryd.underlying4 hb⟩

theorem over : Rows.fnExactReadListRow.holds Tryd.pinned (OpenSpec.ofChange Rows.fnExactReadListSpec) :=
  OpenClaim.holds_of_wide 6 Tryd.f6 rfl rfl rfl rfl rfl rfl rfl ⟨rfl, rfl, rfl, rfl, rfl⟩ rfl rfl rfl rfl rfl (by kernel_rfl) Tryd.func6 (by kernel_rfl)
    (of_decide_eq_true (by kernel_rfl)) (by unfold Func.isWrapper; first | (rw [if_pos (by decide +kernel)]; kernel_rfl) | (rw [if_neg (by decide +kernel)]; exact ⟨rfl, rfl⟩))
    (fun os started H enc _ => lifted os started H enc)

theorem proved : Rows.FnExactReadListCardSaid :=
  Claim7.holds_tied_plain_at .later [] Rows.fnExactReadListCard.laidKinds true Rows.fnExactReadListCard.stood.harness true
    over (fun _ h => by cases h) (by kernel_rfl) (fun _ h => by cases h) fnExactReadList_row_tie rfl ⟨rfl, rfl⟩ (by kernel_rfl) rfl
    (fun f fn hf hfn => by
      obtain rfl : f = 6 := Option.some.inj ((show Tryd.prog.funcNamed Rows.fnExactReadListRow.func = some 6 by kernel_rfl).symm.trans hf) |>.symm
      obtain rfl : fn = Tryd.f6 := (Option.some.inj (Tryd.func6.symm.trans hfn)).symm
      exact ⟨by kernel_rfl, fun j t ht => by
        rw [Tryd.params6] at ht
        have hm : t ∈ [9] := by simpa using Array.mem_of_getElem? ht
        have hall : ([9].all fun u => !Tryd.prog.wantsStandIn u) = true := by kernel_rfl
        exact (show Tryd.prog.wantsStandIn t = false by simpa using List.all_eq_true.1 hall t hm)⟩)
    (by kernel_rfl)
end Go.Proofs.YtddnmhkhgpangaaDoor.fnExactReadList
