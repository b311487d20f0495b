/- For every list of terms the program's ChainText answers as the model does and leaves its argument as it was, and the law returns true. No condition beyond the library's table as its text lays it. -/
import Derived.Test.YtphebmbapllinaaDoorT40
import Derived.Test.YtphebmbapllinaaDoorCT
import Derived.Test.YtphebmbapllinaaDoorDr
import Derived.Test.YtphebmbapllinaaDoorTie
import Derived.Test.YtphebmbapllinaaDoorCards
import Derived.Test.YtphebmbapllinaaDoorFF
import Derived.Test.YtphebmbapllinaaDoorRows
import Derived.WalkKit
import Derived.ProofKit
import Derived.OpenShut
namespace Go.Proofs.YtphebmbapllinaaDoor.fnExactChainText
open Go.ChangeShapes Go.WideShapes Go.ChangeAt Go.RowKit
set_option linter.unusedVariables false
set_option linter.unusedSimpArgs false

theorem own : ownKnob Tryd.prog.godebug = none := by kernel_rfl

theorem tab {w : World} (hL : laidMet Tryd.prog Rows.fnExactChainTextRow.laid w) : Tab w := by
  have h := hL.filter (fun x => x.1 == "internal/strconv.uint64pow10")
  have e : Rows.fnExactChainTextRow.laid.filter (fun x => x.1 == "internal/strconv.uint64pow10") = [("internal/strconv.uint64pow10", Lib.tabData .u64 Lib.pow10Tab)] := by rfl
  rw [e] at h
  exact Lib.tabIs_of_head (g := 0) (by kernel_rfl) (by kernel_rfl) Tryd.underlying106 Tryd.underlying94 (by kernel_rfl) (by kernel_rfl) h


set_option maxHeartbeats 4000000 in
set_option maxRecDepth 100000 in
theorem walk (w : World) (hL : laidMet Tryd.prog Rows.fnExactChainTextRow.laid w) (M : Option Addr) (p cp : Nat) (ms : List Tm) (hml : ms.length = p) (hM : Reads w w.heap.size M (tcells ms)) (hpM : p ≤ maxLen) :
    Calls Tryd.prog 4 #[.slice M p cp] w (LawDone w) := by
  have HTab := Lib.hid (tab hL)
  clear hL
  unfold maxLen at hpM
  by_cases hb : p ≤ 1048576
  rotate_left
  · have hsz := szTerms_any M p cp 1048576 w (by unfold maxLen; omega) (by omega) (by omega)
    rw [if_pos (by omega)] at hsz
    go_enter Tryd.func4, Tryd.ntmps4
    go_wp2_with fail
    refine hsz.mono ?_
    rintro e w' ⟨rfl, rfl⟩
    go_wp2_with fail
    ((try simp only [Exit.inBlock, Exit.then]); refine bodyPost_ret (v := .bool true) (by simp [results, Tryd.results4, go_sem]) rfl ?_)
    exact ⟨rfl, Below.refl _ _⟩
  have hsz := szTerms_any M p cp 1048576 w (by unfold maxLen; omega) (by omega) (by omega)
  rw [if_neg (by omega)] at hsz
  have hl0 : ((1048576 : Int) - p < 0) = False := by simp; omega
  have HN := Lib.hid hml
  have HS := Lib.hid (fun (b : Nat) W h => ctx_spec (some ⟨b, 0, none⟩) p p ms W hml (by omega) h)
  have HI := Lib.hid (fun (b : Nat) W (ht : Tab W) h => ctx_impl (some ⟨b, 0, none⟩) p p ms W ht hml (by omega) h)
  generalize ctx ms = R at *
  obtain ⟨s, cd⟩ := R
  simp only at HS HI
  clear hml
  go_enter Tryd.func4, Tryd.ntmps4
  go_wp2_with fail
  refine hsz.mono ?_
  rintro e w' ⟨rfl, rfl⟩
  clear hsz
  go_wp2_with fail
  refine (toTerms_any M p cp ms w HN.out hb hM).mono ?_
  rintro e w1 ⟨b1, rfl, hb1, hr1, hl1⟩
  rw [HN.out]
  go_wp2_with fail
  refine (HS.out b1 w1 hr1.reads).mono ?_
  rintro e w2 ⟨rfl, hg2⟩
  have hW2 := hl1.trans (hg2.below.mono hl1.size)
  go_wp2_with fail
  refine (toTerms_any M p cp ms w2 HN.out hb (hM.below hW2)).mono ?_
  rintro e w3 ⟨b3, rfl, hb3, hr3, hl3⟩
  have hW3 := hW2.trans (hl3.mono hW2.size)
  rw [HN.out]
  go_wp2_with fail
  refine (HI.out b3 w3 (HTab.out.later hW3) hr3.reads).mono ?_
  rintro e w4 ⟨rfl, hg4⟩
  have hW4 := hW3.trans (hg4.below.mono hW3.size)
  go_wp2_with fail
  refine (toTerms_any M p cp ms w4 HN.out hb (hM.below hW4)).mono ?_
  rintro e w5 ⟨b5, rfl, hb5, hr5, hl5⟩
  have hW5 := hW4.trans (hl5.mono hW4.size)
  rw [HN.out]
  go_wp2_with fail
  refine (eqTerms_same _ _ p p p ms w5 HN.out (by omega) ((hr3.gr hg4).below hl5 (hr3.gr hg4).lt).reads hr5.reads).mono ?_
  rintro e w6 ⟨rfl, hg6⟩
  go_wp2_with fail
  go_ret
  exact ⟨rfl, hW5.trans (hg6.below.mono hW5.size)⟩

set_option maxRecDepth 100000 in
theorem lifted (os : Os) (started : os.Started) (H : Type) (enc : TypeId × Value → H) :
    ReturnsInHanded {} Tryd.checked os 4 .any (fun w args => (Rows.fnExactChainTextSpec.pre enc Tryd.prog Tryd.f4 Rows.fnExactChainTextRow.domain false w args ∧ laidMetH Tryd.prog Rows.fnExactChainTextRow.laid w) ∧ sizedMet enc Tryd.prog Tryd.f4 (OpenSpec.ofChange Rows.fnExactChainTextSpec) false w args) (Rows.fnExactChainTextSpec.post enc Tryd.prog Tryd.f4 false true false false) := by
  refine returnsInHanded_of_change_and (C := Tryd.checked) (X := fun w _ => laidMetH Tryd.prog Rows.fnExactChainTextRow.laid w) (fun _ _ _ hh h => h.of_heap hh) own started (by kernel_rfl) Tryd.func4
    (ChangeSpec.witness_shaped (enc := enc) (C := Tryd.checked) (os := os) (X := fun w _ => laidMetH Tryd.prog Rows.fnExactChainTextRow.laid w) false (World.laidAll Tryd.prog os Rows.fnExactChainTextRow.laid) #[.slice none 0 0] 8 (World.laidAll_os _ _ _)
      (World.shaped_of_ZipB (by kernel_rfl) (by kernel_rfl)) (by kernel_rfl) (by kernel_rfl) (by kernel_rfl)
      (by rw [MakeChecks.laidMetH_plain _ _ _ (by kernel_rfl)]; exact laidMet_laidAll _ (by kernel_rfl) (by kernel_rfl))) ?_
  intro W base args ds gs before hval0 hW _ _ hL _
  rw [MakeChecks.laidMetH_plain _ _ _ (by kernel_rfl)] at hL
  have hval : ∀ (j : Nat) t v, Tryd.f4.params[j]? = some t → args[j]? = some v → Value.okWide Tryd.prog W .any base t v := hval0
  have hW' := hW
  obtain ⟨p, q, hA0, hV, hpq, hfz, hnd⟩ := hW
  have hA : DataW.TrodAll enc Tryd.prog W 0 (fun _ => true) true Tryd.f4.params.toList args.toList ds p := hA0
  have hT := hA
  obtain ⟨rfl, rfl⟩ := trodVars_none hV
  rw [Tryd.params4] at hA hval
  obtain ⟨v0, vs0, d0, ds0, p0, q0, hargs, rfl, rfl, h0, r0⟩ := trodAll_cons hA
  obtain ⟨rfl, rfl, rfl⟩ := trodAll_nil r0
  obtain rfl : args = #[v0] := by cases args; simp_all
  obtain ⟨M, p, cp, ms, rfl, hml, hM, hpM⟩ := open_t3 Tryd.underlying32 Tryd.underlying59 Tryd.underlying57 (by kernel_rfl) rfl rfl rfl rfl Tryd.underlying4 Tryd.underlying2 Tryd.underlying2 (by kernel_rfl) (by kernel_rfl) (by kernel_rfl) (by kernel_rfl) (hval 0 32 v0 rfl rfl) h0
  clear hA0 hval0
  refine (walk W hL M p cp ms hml hM hpM).mono fun e W' ⟨he, hb⟩ => ?_
  subst he
  exact ⟨_, rfl, law_post laidOut hW' hT hpq (by kernel_rfl) (fun _ _ => rfl) rfl rfl rfl Tryd.underlying4 hb⟩

theorem over : Rows.fnExactChainTextRow.holds Tryd.pinned (OpenSpec.ofChange Rows.fnExactChainTextSpec) :=
  OpenClaim.holds_of_wide 4 Tryd.f4 rfl rfl rfl rfl rfl rfl rfl ⟨rfl, rfl, rfl, rfl, rfl⟩ rfl rfl rfl rfl rfl (by kernel_rfl) Tryd.func4 (by kernel_rfl)
    (of_decide_eq_true (by kernel_rfl)) (by unfold Func.isWrapper; first | (rw [if_pos (by decide +kernel)]; kernel_rfl) | (rw [if_neg (by decide +kernel)]; exact ⟨rfl, rfl⟩))
    (fun os started H enc _ => lifted os started H enc)

theorem proved : Rows.FnExactChainTextCardSaid :=
  Claim7.holds_tied_plain_at .later [] Rows.fnExactChainTextCard.laidKinds true Rows.fnExactChainTextCard.stood.harness Rows.fnExactChainTextCard.stood.looks
    over (fun _ h => by cases h) (by kernel_rfl) (fun _ h => by cases h) fnExactChainText_row_tie rfl ⟨rfl, rfl⟩ (by kernel_rfl) rfl
    (fun f fn hf hfn => by
      obtain rfl : f = 4 := Option.some.inj ((show Tryd.prog.funcNamed Rows.fnExactChainTextRow.func = some 4 by kernel_rfl).symm.trans hf) |>.symm
      obtain rfl : fn = Tryd.f4 := (Option.some.inj (Tryd.func4.symm.trans hfn)).symm
      exact ⟨by kernel_rfl, fun j t ht => by
        rw [Tryd.params4] at ht
        have hm : t ∈ [32] := by simpa using Array.mem_of_getElem? ht
        have hall : ([32].all fun u => !Tryd.prog.wantsStandIn u) = true := by kernel_rfl
        exact (show Tryd.prog.wantsStandIn t = false by simpa using List.all_eq_true.1 hall t hm)⟩)
    (by kernel_rfl)
end Go.Proofs.YtphebmbapllinaaDoor.fnExactChainText
