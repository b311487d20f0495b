/- For every three numbers the program's ChooseGraduation answers as the model does, and answers so again when the first answer was written over, and the law returns true. No condition beyond the tables as the program's text lays them. -/
import Derived.Test.YtenpgchkailocaaDoorC07s
import Derived.Test.YtenpgchkailocaaDoorDp
import Derived.Test.YtenpgchkailocaaDoorDr
import Derived.Test.YtenpgchkailocaaDoorTie
import Derived.Test.YtenpgchkailocaaDoorCards
import Derived.Test.YtenpgchkailocaaDoorFr
import Derived.Test.YtenpgchkailocaaDoorFv
import Derived.Test.YtenpgchkailocaaDoorRows
import Derived.WalkKit
import Derived.ProofKit
import Derived.OpenShut
namespace Go.Proofs.YtenpgchkailocaaDoor.fnExactChooseGraduation
open Go.ChangeShapes Go.WideShapes Go.ChangeAt Go.RowKit
set_option linter.unusedVariables false
set_option linter.unusedSimpArgs false

theorem own : ownKnob Tryd.prog.godebug = none := by kernel_rfl

theorem dcsl {w : World} (hL : laidMet Tryd.prog Rows.fnExactChooseGraduationRow.laid w) : Dcs w := by
  have h := hL.filter (fun x => x.1 == "loop.example/g00951/impl.scaleDecades")
  have e : Rows.fnExactChooseGraduationRow.laid.filter (fun x => x.1 == "loop.example/g00951/impl.scaleDecades") = [("loop.example/g00951/impl.scaleDecades", Lib.tabData .i64 [1, 2, 3, 1, 1, 1])] := by rfl
  rw [e] at h
  exact dcs_of (Lib.tabIs_of_head (g := 5) (by kernel_rfl) (by kernel_rfl) Tryd.underlying191 Tryd.underlying2 (by kernel_rfl) (by kernel_rfl) h)

theorem ussl {w : World} (hL : laidMet Tryd.prog Rows.fnExactChooseGraduationRow.laid w) : Uss w := by
  have h := hL.filter (fun x => x.1 == "loop.example/g00951/impl.usualSteps")
  have e : Rows.fnExactChooseGraduationRow.laid.filter (fun x => x.1 == "loop.example/g00951/impl.usualSteps") = [("loop.example/g00951/impl.usualSteps", Lib.tabData .i64 [1, 2, 5, 10, 20, 50, 100, 200, 500])] := by rfl
  rw [e] at h
  exact uss_of (Lib.tabIs_of_head (g := 1) (by kernel_rfl) (by kernel_rfl) Tryd.underlying81 Tryd.underlying2 (by kernel_rfl) (by kernel_rfl) h)

theorem chpl {w : World} (hL : laidMet Tryd.prog Rows.fnExactChooseGraduationRow.laid w) : Chp w := by
  have h := hL.filter (fun x => x.1 == "loop.example/g00951/impl.chosenParts")
  have e : Rows.fnExactChooseGraduationRow.laid.filter (fun x => x.1 == "loop.example/g00951/impl.chosenParts") = [("loop.example/g00951/impl.chosenParts", s3Data [(1000, 2000, 0), (2000, 5000, 0), (5000, 10000, 0)])] := by rfl
  rw [e] at h
  exact chp_of h

theorem coL_len (s l lim : Int) : (coL s l lim).length ≤ 3 := by
  unfold coL
  split
  · simp [chG]
  · simp


set_option maxHeartbeats 4000000 in
set_option maxRecDepth 100000 in
theorem walk (w : World) (hL : laidMet Tryd.prog Rows.fnExactChooseGraduationRow.laid w) (a0 : Int) (wf0 : (Lit.int .i64 a0).wf = true) (a1 : Int) (wf1 : (Lit.int .i64 a1).wf = true) (a2 : Int) (wf2 : (Lit.int .i64 a2).wf = true) :
    Calls Tryd.prog 6 #[.int .i64 a0, .int .i64 a1, .int .i64 a2] w (LawDone w) := by
  have HD := Lib.hid (dcsl hL)
  have HU := Lib.hid (ussl hL)
  have HP := Lib.hid (chpl hL)
  clear hL
  have HI := Lib.hid (fun W (h : Below w.heap.size w W) => co_impl a0 a1 a2 W (HD.out.gr (Gr.of_below h)) (HU.out.gr (Gr.of_below h)) (HP.out.gr (Gr.of_below h)))
  have HS := Lib.hid (co_spec a0 a1 a2 w)
  have hlen := coL_len a0 a1 a2
  clear HD HU HP
  generalize coL a0 a1 a2 = L at *
  generalize chC a0 a1 a2 = cd at *
  go_enter Tryd.func6, Tryd.ntmps6
  go_wp2_with fail
  refine HS.out.mono ?_
  rintro e w1 ⟨⟨u, rfl, hu⟩, hW1⟩
  have hub := fun g e => (World.ownsRow.lt hu g e).2
  go_wp2_with fail
  refine (HI.out w1 hW1).mono ?_
  rintro e w2 ⟨⟨v, rfl, hv⟩, hd2⟩
  replace hu := Lst3.below hu hd2
  have hW2 := hW1.trans (hd2.mono hW1.size)
  go_wp2_with fail
  refine (eqPartsLst_any v u L _ _ w2 hv hu (by omega)).mono ?_
  rintro e w3 ⟨rfl, hg3⟩
  replace hu := Lst3.below hu hg3.below
  replace hv := Lst3.below hv hg3.below
  have hW3 := hW2.trans (hg3.below.mono hW2.size)
  have hs3 := hg3.below.size
  have hs2 := hd2.size
  go_wp2_with fail
  refine (markPartsLst_any v L w1.heap.size w3 hv (by omega) (by omega)).mono ?_
  rintro e w4 ⟨rfl, hva, hb4⟩
  replace hu := Lst3.keep hu (fun g e hg => hb4.block g (hub g e))
  have hW4 := hW3.trans (hb4.mono hW1.size)
  go_wp2_with fail
  refine (heldPartsLst_any v L.length _ w4 hva (by omega)).mono ?_
  rintro e w5 ⟨rfl, rfl⟩
  go_wp2_with fail
  refine (HI.out w4 hW4).mono ?_
  rintro e w6 ⟨⟨v2, rfl, hv2⟩, hd6⟩
  replace hu := Lst3.below hu hd6
  replace hva := Lst3.below hva hd6
  have hW6 := hW4.trans (hd6.mono hW4.size)
  go_wp2_with fail
  refine (eqPartsLst_any v2 u L _ _ w6 hv2 hu (by omega)).mono ?_
  rintro e w7 ⟨rfl, hg7⟩
  replace hva := Lst3.below hva hg7.below
  have hW7 := hW6.trans (hg7.below.mono hW6.size)
  go_wp2_with fail
  refine (heldPartsLst_any v L.length _ w7 hva (by omega)).mono ?_
  rintro e w8 ⟨rfl, rfl⟩
  go_wp2_with fail
  go_ret
  exact ⟨rfl, hW7⟩

set_option maxRecDepth 100000 in
theorem lifted (os : Os) (started : os.Started) (H : Type) (enc : TypeId × Value → H) :
    ReturnsInHanded {} Tryd.checked os 6 .any (fun w args => (Rows.fnExactChooseGraduationSpec.pre enc Tryd.prog Tryd.f6 Rows.fnExactChooseGraduationRow.domain false w args ∧ laidMetH Tryd.prog Rows.fnExactChooseGraduationRow.laid w) ∧ sizedMet enc Tryd.prog Tryd.f6 (OpenSpec.ofChange Rows.fnExactChooseGraduationSpec) false w args) (Rows.fnExactChooseGraduationSpec.post enc Tryd.prog Tryd.f6 false true false false) := by
  refine returnsInHanded_of_change_and (C := Tryd.checked) (X := fun w _ => laidMetH Tryd.prog Rows.fnExactChooseGraduationRow.laid w) (fun _ _ _ hh h => h.of_heap hh) own started (by kernel_rfl) Tryd.func6
    (ChangeSpec.witness_shaped (enc := enc) (C := Tryd.checked) (os := os) (X := fun w _ => laidMetH Tryd.prog Rows.fnExactChooseGraduationRow.laid w) false (World.laidAll Tryd.prog os Rows.fnExactChooseGraduationRow.laid) #[.int .i64 0, .int .i64 0, .int .i64 0] 8 (World.laidAll_os _ _ _)
      (World.shaped_of_ZipB (by kernel_rfl) (by kernel_rfl)) (by kernel_rfl) (by kernel_rfl) (by kernel_rfl)
      (by rw [MakeChecks.laidMetH_plain _ _ _ (by kernel_rfl)]; exact laidMet_laidAll _ (by kernel_rfl) (by kernel_rfl))) ?_
  intro W base args ds gs before hval0 hW _ _ hL _
  rw [MakeChecks.laidMetH_plain _ _ _ (by kernel_rfl)] at hL
  have hval : ∀ (j : Nat) t v, Tryd.f6.params[j]? = some t → args[j]? = some v → Value.okWide Tryd.prog W .any base t v := hval0
  have hW' := hW
  obtain ⟨p, q, hA0, hV, hpq, hfz, hnd⟩ := hW
  have hA : DataW.TrodAll enc Tryd.prog W 0 (fun _ => true) true Tryd.f6.params.toList args.toList ds p := hA0
  have hT := hA
  obtain ⟨g1, g2, g3, rfl⟩ := vars_three hV
  rw [Tryd.params6] at hA hval
  obtain ⟨v0, vs0, d0, ds0, p0, q0, hargs, rfl, rfl, h0, r0⟩ := trodAll_cons hA
  obtain ⟨v1, vs1, d1, ds1, p1, q1, rfl, rfl, rfl, h1, r1⟩ := trodAll_cons r0
  obtain ⟨v2, vs2, d2, ds2, p2, q2, rfl, rfl, rfl, h2, r2⟩ := trodAll_cons r1
  obtain ⟨rfl, rfl, rfl⟩ := trodAll_nil r2
  obtain rfl : args = #[v0, v1, v2] := by cases args; simp_all
  obtain ⟨a0, rfl, -, -, wf0⟩ := open_int Tryd.underlying2 (hval 0 2 v0 rfl rfl) h0
  obtain ⟨a1, rfl, -, -, wf1⟩ := open_int Tryd.underlying2 (hval 1 2 v1 rfl rfl) h1
  obtain ⟨a2, rfl, -, -, wf2⟩ := open_int Tryd.underlying2 (hval 2 2 v2 rfl rfl) h2
  clear hA0 hval0
  refine (walk W hL a0 wf0 a1 wf1 a2 wf2).mono fun e W' ⟨he, hb⟩ => ?_
  subst he
  exact ⟨_, rfl, law_postv laidOut hW' hT hpq (by kernel_rfl) (by kernel_rfl) hV rfl rfl rfl rfl Tryd.underlying4 hb⟩

theorem over : Rows.fnExactChooseGraduationRow.holds Tryd.pinned (OpenSpec.ofChange Rows.fnExactChooseGraduationSpec) :=
  OpenClaim.holds_of_wide 6 Tryd.f6 rfl rfl rfl rfl rfl rfl rfl ⟨rfl, rfl, rfl, rfl, rfl⟩ rfl rfl rfl rfl rfl (by kernel_rfl) Tryd.func6 (by kernel_rfl)
    (of_decide_eq_true (by kernel_rfl)) (by unfold Func.isWrapper; first | (rw [if_pos (by decide +kernel)]; kernel_rfl) | (rw [if_neg (by decide +kernel)]; exact ⟨rfl, rfl⟩))
    (fun os started H enc _ => lifted os started H enc)

theorem proved : Rows.FnExactChooseGraduationCardSaid :=
  Claim7.holds_tied_plain_at .later [] Rows.fnExactChooseGraduationCard.laidKinds true Rows.fnExactChooseGraduationCard.stood.harness Rows.fnExactChooseGraduationCard.stood.looks
    over (fun _ h => by cases h) (by kernel_rfl) (fun _ h => by cases h) fnExactChooseGraduation_row_tie rfl ⟨rfl, rfl⟩ (by kernel_rfl) rfl
    (fun f fn hf hfn => by
      obtain rfl : f = 6 := Option.some.inj ((show Tryd.prog.funcNamed Rows.fnExactChooseGraduationRow.func = some 6 by kernel_rfl).symm.trans hf) |>.symm
      obtain rfl : fn = Tryd.f6 := (Option.some.inj (Tryd.func6.symm.trans hfn)).symm
      exact ⟨by kernel_rfl, fun j t ht => by
        rw [Tryd.params6] at ht
        have hm : t ∈ [2, 2, 2] := by simpa using Array.mem_of_getElem? ht
        have hall : ([2, 2, 2].all fun u => !Tryd.prog.wantsStandIn u) = true := by kernel_rfl
        exact (show Tryd.prog.wantsStandIn t = false by simpa using List.all_eq_true.1 hall t hm)⟩)
    (by kernel_rfl)
end Go.Proofs.YtenpgchkailocaaDoor.fnExactChooseGraduation
