/- For every list of parts the program's GraduationText answers as the model does and leaves its argument as it was, and the law returns true. No condition beyond the library's tables as its text lays them. -/
import Derived.Test.YtenpgchkailocaaDoorT15
import Derived.Test.YtenpgchkailocaaDoorDr
import Derived.Test.YtenpgchkailocaaDoorTie
import Derived.Test.YtenpgchkailocaaDoorCards
import Derived.Test.YtenpgchkailocaaDoorFr
import Derived.Test.YtenpgchkailocaaDoorRows
import Derived.WalkKit
import Derived.ProofKit
import Derived.OpenShut
namespace Go.Proofs.YtenpgchkailocaaDoor.fnExactGraduationText
open Go.ChangeShapes Go.WideShapes Go.ChangeAt Go.RowKit
set_option linter.unusedVariables false
set_option linter.unusedSimpArgs false

theorem own : ownKnob Tryd.prog.godebug = none := by kernel_rfl

theorem tab {w : World} (hL : laidMet Tryd.prog Rows.fnExactGraduationTextRow.laid w) : Tab w := by
  have h := hL.filter (fun x => x.1 == "internal/strconv.uint64pow10")
  have e : Rows.fnExactGraduationTextRow.laid.filter (fun x => x.1 == "internal/strconv.uint64pow10") = [("internal/strconv.uint64pow10", Lib.tabData .u64 Lib.pow10Tab)] := by rfl
  rw [e] at h
  exact Lib.tabIs_of_head (g := 3) (by kernel_rfl) (by kernel_rfl) Tryd.underlying175 Tryd.underlying154 (by kernel_rfl) (by kernel_rfl) h


set_option maxHeartbeats 4000000 in
set_option maxRecDepth 100000 in
theorem walk (w : World) (hL : laidMet Tryd.prog Rows.fnExactGraduationTextRow.laid w) (A0 : Option Addr) (n0 c0 : Nat) (zs0 : List P3) (hn0 : zs0.length = n0) (hR0 : Reads w w.heap.size A0 (cells3 zs0)) (hW0 : ∀ z ∈ zs0, (Lit.int .i64 z.1).wf = true ∧ (Lit.int .i64 z.2.1).wf = true ∧ (Lit.int .i64 z.2.2).wf = true) (hM0 : n0 ≤ maxLen) :
    Calls Tryd.prog 7 #[.slice A0 n0 c0] w (LawDone w) := by
  have HT := Lib.hid (tab hL)
  clear hL
  unfold maxLen at hM0
  by_cases hb : n0 ≤ 1048576
  rotate_left
  · go_enter Tryd.func7, Tryd.ntmps7
    go_wp2_with fail
    refine (szParts_no A0 n0 c0 _ hb (by omega)).mono ?_
    rintro e w' ⟨rfl, rfl⟩
    go_wp2_with fail
    ((try simp only [Exit.inBlock, Exit.then]); refine bodyPost_ret (v := .bool true) (by simp [results, Tryd.results7, go_sem]) rfl ?_)
    exact ⟨rfl, Below.refl _ _⟩
  have HN := Lib.hid hn0
  clear hn0
  go_enter Tryd.func7, Tryd.ntmps7
  go_wp2_with (go_at_call 47; refine (szParts_ok A0 n0 c0 _ hb).mono ?_; rintro e w' ⟨rfl, rfl⟩)
  refine (toParts_any A0 n0 c0 zs0 w HN.out hb hR0).mono ?_
  rintro e w1 ⟨b1, rfl, hb1, hr1, hl1⟩
  rw [HN.out]
  go_wp2_with fail
  refine (gt_spec (some ⟨b1, 0, none⟩) n0 n0 zs0 w1 HN.out (by omega) hr1.reads).mono ?_
  rintro e w2 ⟨rfl, hg2⟩
  have hW2 := hl1.trans (hg2.below.mono hl1.size)
  go_wp2_with fail
  refine (toParts_any A0 n0 c0 zs0 w2 HN.out hb (hR0.below hW2)).mono ?_
  rintro e w3 ⟨b3, rfl, hb3, hr3, hl3⟩
  have hW3 := hW2.trans (hl3.mono hW2.size)
  rw [HN.out]
  go_wp2_with fail
  refine (gt_impl (some ⟨b3, 0, none⟩) n0 n0 zs0 w3 HN.out (by omega) hr3.reads hW0 (HT.out.later hW3)).mono ?_
  rintro e w4 ⟨rfl, hg4⟩
  have hW4 := hW3.trans (hg4.below.mono hW3.size)
  go_wp2_with fail
  refine (toParts_any A0 n0 c0 zs0 w4 HN.out hb (hR0.below hW4)).mono ?_
  rintro e w5 ⟨b5, rfl, hb5, hr5, hl5⟩
  have hW5 := hW4.trans (hl5.mono hW4.size)
  rw [HN.out]
  go_wp2_with fail
  refine (eqParts_same _ _ n0 n0 n0 zs0 w5 HN.out (by omega) ((hr3.gr hg4).below hl5 (hr3.gr hg4).lt).reads hr5.reads).mono ?_
  rintro e w6 ⟨rfl, hg6⟩
  go_wp2_with fail
  go_ret
  exact ⟨rfl, hW5.trans (hg6.below.mono hW5.size)⟩

set_option maxRecDepth 100000 in
theorem lifted (os : Os) (started : os.Started) (H : Type) (enc : TypeId × Value → H) :
    ReturnsInHanded {} Tryd.checked os 7 .any (fun w args => (Rows.fnExactGraduationTextSpec.pre enc Tryd.prog Tryd.f7 Rows.fnExactGraduationTextRow.domain false w args ∧ laidMetH Tryd.prog Rows.fnExactGraduationTextRow.laid w) ∧ sizedMet enc Tryd.prog Tryd.f7 (OpenSpec.ofChange Rows.fnExactGraduationTextSpec) false w args) (Rows.fnExactGraduationTextSpec.post enc Tryd.prog Tryd.f7 false true false false) := by
  refine returnsInHanded_of_change_and (C := Tryd.checked) (X := fun w _ => laidMetH Tryd.prog Rows.fnExactGraduationTextRow.laid w) (fun _ _ _ hh h => h.of_heap hh) own started (by kernel_rfl) Tryd.func7
    (ChangeSpec.witness_shaped (enc := enc) (C := Tryd.checked) (os := os) (X := fun w _ => laidMetH Tryd.prog Rows.fnExactGraduationTextRow.laid w) false (World.laidAll Tryd.prog os Rows.fnExactGraduationTextRow.laid) #[.slice none 0 0] 8 (World.laidAll_os _ _ _)
      (World.shaped_of_ZipB (by kernel_rfl) (by kernel_rfl)) (by kernel_rfl) (by kernel_rfl) (by kernel_rfl)
      (by rw [MakeChecks.laidMetH_plain _ _ _ (by kernel_rfl)]; exact laidMet_laidAll _ (by kernel_rfl) (by kernel_rfl))) ?_
  intro W base args ds gs before hval0 hW _ _ hL _
  rw [MakeChecks.laidMetH_plain _ _ _ (by kernel_rfl)] at hL
  have hval : ∀ (j : Nat) t v, Tryd.f7.params[j]? = some t → args[j]? = some v → Value.okWide Tryd.prog W .any base t v := hval0
  have hW' := hW
  obtain ⟨p, q, hA0, hV, hpq, hfz, hnd⟩ := hW
  have hA : DataW.TrodAll enc Tryd.prog W 0 (fun _ => true) true Tryd.f7.params.toList args.toList ds p := hA0
  have hT := hA
  obtain ⟨rfl, rfl⟩ := trodVars_none hV
  rw [Tryd.params7] at hA hval
  obtain ⟨v0, vs0, d0, ds0, p0, q0, hargs, rfl, rfl, h0, r0⟩ := trodAll_cons hA
  obtain ⟨rfl, rfl, rfl⟩ := trodAll_nil r0
  obtain rfl : args = #[v0] := by cases args; simp_all
  obtain ⟨A0, n0, c0, zs0, rfl, hn0, hR0, hW0, hM0⟩ := open_p3 Tryd.underlying65 Tryd.underlying115 (by kernel_rfl) rfl rfl rfl Tryd.underlying2 Tryd.underlying2 Tryd.underlying2 (by kernel_rfl) (by kernel_rfl) (by kernel_rfl) (hval 0 65 v0 rfl rfl) h0
  clear hA0 hval0
  refine (walk W hL A0 n0 c0 zs0 hn0 hR0 hW0 hM0).mono fun e W' ⟨he, hb⟩ => ?_
  subst he
  exact ⟨_, rfl, law_post laidOut hW' hT hpq (by kernel_rfl) (fun _ _ => rfl) rfl rfl rfl Tryd.underlying4 hb⟩

theorem over : Rows.fnExactGraduationTextRow.holds Tryd.pinned (OpenSpec.ofChange Rows.fnExactGraduationTextSpec) :=
  OpenClaim.holds_of_wide 7 Tryd.f7 rfl rfl rfl rfl rfl rfl rfl ⟨rfl, rfl, rfl, rfl, rfl⟩ rfl rfl rfl rfl rfl (by kernel_rfl) Tryd.func7 (by kernel_rfl)
    (of_decide_eq_true (by kernel_rfl)) (by unfold Func.isWrapper; first | (rw [if_pos (by decide +kernel)]; kernel_rfl) | (rw [if_neg (by decide +kernel)]; exact ⟨rfl, rfl⟩))
    (fun os started H enc _ => lifted os started H enc)

theorem proved : Rows.FnExactGraduationTextCardSaid :=
  Claim7.holds_tied_plain_at .later [] Rows.fnExactGraduationTextCard.laidKinds true Rows.fnExactGraduationTextCard.stood.harness Rows.fnExactGraduationTextCard.stood.looks
    over (fun _ h => by cases h) (by kernel_rfl) (fun _ h => by cases h) fnExactGraduationText_row_tie rfl ⟨rfl, rfl⟩ (by kernel_rfl) rfl
    (fun f fn hf hfn => by
      obtain rfl : f = 7 := Option.some.inj ((show Tryd.prog.funcNamed Rows.fnExactGraduationTextRow.func = some 7 by kernel_rfl).symm.trans hf) |>.symm
      obtain rfl : fn = Tryd.f7 := (Option.some.inj (Tryd.func7.symm.trans hfn)).symm
      exact ⟨by kernel_rfl, fun j t ht => by
        rw [Tryd.params7] at ht
        have hm : t ∈ [65] := by simpa using Array.mem_of_getElem? ht
        have hall : ([65].all fun u => !Tryd.prog.wantsStandIn u) = true := by kernel_rfl
        exact (show Tryd.prog.wantsStandIn t = false by simpa using List.all_eq_true.1 hall t hm)⟩)
    (by kernel_rfl)
end Go.Proofs.YtenpgchkailocaaDoor.fnExactGraduationText
