/- For every two ticks the program's DoCollide answers as the model does, and the law returns true. No condition beyond the library's tables as the program's text lays them. -/
import Derived.Test.YtlimfpdibohioabDoorC09b
import Derived.Test.YtlimfpdibohioabDoorDr
import Derived.Test.YtlimfpdibohioabDoorTie
import Derived.Test.YtlimfpdibohioabDoorCards
import Derived.Test.YtlimfpdibohioabDoorFr
import Derived.Test.YtlimfpdibohioabDoorRows
import Derived.WalkKit
import Derived.ProofKit
import Derived.OpenShut
import Derived.Lib.SmallJoins
namespace Go.Proofs.YtlimfpdibohioabDoor.fnExactDoCollide
open Go.ChangeShapes Go.WideShapes Go.ChangeAt Go.RowKit
set_option linter.unusedVariables false
set_option linter.unusedSimpArgs false

theorem own : ownKnob Tryd.prog.godebug = none := by kernel_rfl

theorem tab {w : World} (hL : laidMet Tryd.prog Rows.fnExactDoCollideRow.laid w) : Tab w := by
  have h := hL.filter (fun x => x.1 == "internal/strconv.uint64pow10")
  have e : Rows.fnExactDoCollideRow.laid.filter (fun x => x.1 == "internal/strconv.uint64pow10") = [("internal/strconv.uint64pow10", Lib.tabData .u64 Lib.pow10Tab)] := by rfl
  rw [e] at h
  exact Lib.tabIs_of_head (g := 0) (by kernel_rfl) (by kernel_rfl) Tryd.underlying107 Tryd.underlying99 (by kernel_rfl) (by kernel_rfl) h


set_option maxHeartbeats 4000000 in
set_option maxRecDepth 100000 in
theorem walk (w : World) (hL : laidMet Tryd.prog Rows.fnExactDoCollideRow.laid w) (a0_0 : Int) (wf0_0 : (Lit.int .i64 a0_0).wf = true) (a0_1 : Int) (wf0_1 : (Lit.int .i64 a0_1).wf = true) (a0_2 : Int) (wf0_2 : (Lit.int .i64 a0_2).wf = true) (a1_0 : Int) (wf1_0 : (Lit.int .i64 a1_0).wf = true) (a1_1 : Int) (wf1_1 : (Lit.int .i64 a1_1).wf = true) (a1_2 : Int) (wf1_2 : (Lit.int .i64 a1_2).wf = true) :
    Calls Tryd.prog 3 #[.agg #[.int .i64 a0_0, .int .i64 a0_1, .int .i64 a0_2], .agg #[.int .i64 a1_0, .int .i64 a1_1, .int .i64 a1_2]] w (LawDone w) := by
  have HT := Lib.hid (tab hL)
  have HS := Lib.hid (fun W => dc_spec (a0_0, a0_1, a0_2) (a1_0, a1_1, a1_2) W)
  have HI := Lib.hid (fun W (h : Gr w W) => dc_impl (a0_0, a0_1, a0_2) (a1_0, a1_1, a1_2) W (HT.out.gr h))
  clear hL
  generalize dcV (a0_0, a0_1, a0_2) (a1_0, a1_1, a1_2) = v at *
  generalize dcE (a0_0, a0_1, a0_2) (a1_0, a1_1, a1_2) = cd at *
  go_enter Tryd.func3, Tryd.ntmps3
  go_wp2
  ((first | refine region_gr_on (by kernel_rfl) (by kernel_rfl) ?_ | refine region_gr (by kernel_rfl) (by kernel_rfl) ?_); (repeat (quiet_step (first | exact Calls.gr_of (toTick_any _ _ _ _) | exact Calls.gr_of (HS.out _)))); refine wpQuiet_nil ?_; intro _ hw'; obtain ⟨⟨kq, oq⟩, hw''⟩ := hw'; subst hw'')
  go_wp2
  ((first | refine region_gr_on (by kernel_rfl) (by kernel_rfl) ?_ | refine region_gr (by kernel_rfl) (by kernel_rfl) ?_); (repeat (quiet_step (first | exact Calls.gr_of (toTick_any _ _ _ _) | exact Calls.gr_of (HI.out _ (by repeat (first | with_reducible exact Gr.refl _ | with_reducible refine Gr.alloc ?_ _ | with_reducible refine Gr.gr ?_ _ _ | with_reducible refine Gr.drew ?_ | with_reducible refine Gr.drewN ?_ _)))))); refine wpQuiet_nil ?_; intro _ hw'; obtain ⟨⟨kq, oq⟩, hw''⟩ := hw'; subst hw'')
  go_wp2
  go_ret
  exact ⟨rfl, Gr.below (by repeat (first | with_reducible exact Gr.refl _ | with_reducible refine Gr.alloc ?_ _ | with_reducible refine Gr.gr ?_ _ _ | with_reducible refine Gr.drew ?_ | with_reducible refine Gr.drewN ?_ _))⟩

set_option maxRecDepth 100000 in
theorem lifted (os : Os) (started : os.Started) (H : Type) (enc : TypeId × Value → H) :
    ReturnsInHanded {} Tryd.checked os 3 .any (fun w args => (Rows.fnExactDoCollideSpec.pre enc Tryd.prog Tryd.f3 Rows.fnExactDoCollideRow.domain false w args ∧ laidMetH Tryd.prog Rows.fnExactDoCollideRow.laid w) ∧ sizedMet enc Tryd.prog Tryd.f3 (OpenSpec.ofChange Rows.fnExactDoCollideSpec) false w args) (Rows.fnExactDoCollideSpec.post enc Tryd.prog Tryd.f3 false true false false) := by
  refine returnsInHanded_of_change_and (C := Tryd.checked) (X := fun w _ => laidMetH Tryd.prog Rows.fnExactDoCollideRow.laid w) (fun _ _ _ hh h => h.of_heap hh) own started (by kernel_rfl) Tryd.func3
    (ChangeSpec.witness_shaped (enc := enc) (C := Tryd.checked) (os := os) (X := fun w _ => laidMetH Tryd.prog Rows.fnExactDoCollideRow.laid w) false (World.laidAll Tryd.prog os Rows.fnExactDoCollideRow.laid) #[.agg #[.int .i64 0, .int .i64 0, .int .i64 0], .agg #[.int .i64 0, .int .i64 0, .int .i64 0]] 8 (World.laidAll_os _ _ _)
      (World.shaped_of_ZipB (by kernel_rfl) (by kernel_rfl)) (by kernel_rfl) (by kernel_rfl) (by kernel_rfl)
      (by rw [MakeChecks.laidMetH_plain _ _ _ (by kernel_rfl)]; exact laidMet_laidAll _ (by kernel_rfl) (by kernel_rfl))) ?_
  intro W base args ds gs before hval0 hW _ _ hL _
  rw [MakeChecks.laidMetH_plain _ _ _ (by kernel_rfl)] at hL
  have hval : ∀ (j : Nat) t v, Tryd.f3.params[j]? = some t → args[j]? = some v → Value.okWide Tryd.prog W .any base t v := hval0
  have hW' := hW
  obtain ⟨p, q, hA0, hV, hpq, hfz, hnd⟩ := hW
  have hA : DataW.TrodAll enc Tryd.prog W 0 (fun _ => true) true Tryd.f3.params.toList args.toList ds p := hA0
  have hT := hA
  obtain ⟨rfl, rfl⟩ := trodVars_none hV
  rw [Tryd.params3] at hA hval
  obtain ⟨v0, vs0, d0, ds0, p0, q0, hargs, rfl, rfl, h0, r0⟩ := trodAll_cons hA
  obtain ⟨v1, vs1, d1, ds1, p1, q1, rfl, rfl, rfl, h1, r1⟩ := trodAll_cons r0
  obtain ⟨rfl, rfl, rfl⟩ := trodAll_nil r1
  obtain rfl : args = #[v0, v1] := by cases args; simp_all
  obtain ⟨c0_0, c0_1, c0_2, y0_0, y0_1, y0_2, m0, rfl, rfl, rfl, hy0_0, hy0_1, hy0_2⟩ := Go.Joins.open_agg3 Tryd.underlying23 (by kernel_rfl) (show Tryd.prog.cellsOf 23 = 3 by kernel_rfl) (hval 0 23 v0 rfl rfl) h0
  obtain ⟨a0_0, e0_0, rfl, wf0_0⟩ := DataW.trod_int Tryd.underlying2 hy0_0
  simp at e0_0
  subst e0_0
  obtain ⟨a0_1, e0_1, rfl, wf0_1⟩ := DataW.trod_int Tryd.underlying2 hy0_1
  simp at e0_1
  subst e0_1
  obtain ⟨a0_2, e0_2, rfl, wf0_2⟩ := DataW.trod_int Tryd.underlying2 hy0_2
  simp at e0_2
  subst e0_2
  obtain ⟨c1_0, c1_1, c1_2, y1_0, y1_1, y1_2, m1, rfl, rfl, rfl, hy1_0, hy1_1, hy1_2⟩ := Go.Joins.open_agg3 Tryd.underlying23 (by kernel_rfl) (show Tryd.prog.cellsOf 23 = 3 by kernel_rfl) (hval 1 23 v1 rfl rfl) h1
  obtain ⟨a1_0, e1_0, rfl, wf1_0⟩ := DataW.trod_int Tryd.underlying2 hy1_0
  simp at e1_0
  subst e1_0
  obtain ⟨a1_1, e1_1, rfl, wf1_1⟩ := DataW.trod_int Tryd.underlying2 hy1_1
  simp at e1_1
  subst e1_1
  obtain ⟨a1_2, e1_2, rfl, wf1_2⟩ := DataW.trod_int Tryd.underlying2 hy1_2
  simp at e1_2
  subst e1_2
  clear hA0 hval0
  refine (walk W hL a0_0 wf0_0 a0_1 wf0_1 a0_2 wf0_2 a1_0 wf1_0 a1_1 wf1_1 a1_2 wf1_2).mono fun e W' ⟨he, hb⟩ => ?_
  subst he
  exact ⟨_, rfl, law_post laidOut hW' hT hpq (by kernel_rfl) (fun _ _ => rfl) rfl rfl rfl Tryd.underlying4 hb⟩

theorem over : Rows.fnExactDoCollideRow.holds Tryd.pinned (OpenSpec.ofChange Rows.fnExactDoCollideSpec) :=
  OpenClaim.holds_of_wide 3 Tryd.f3 rfl rfl rfl rfl rfl rfl rfl ⟨rfl, rfl, rfl, rfl, rfl⟩ rfl rfl rfl rfl rfl (by kernel_rfl) Tryd.func3 (by kernel_rfl)
    (of_decide_eq_true (by kernel_rfl)) (by unfold Func.isWrapper; first | (rw [if_pos (by decide +kernel)]; kernel_rfl) | (rw [if_neg (by decide +kernel)]; exact ⟨rfl, rfl⟩))
    (fun os started H enc _ => lifted os started H enc)

theorem proved : Rows.FnExactDoCollideCardSaid :=
  Claim7.holds_tied_plain_at .later [] Rows.fnExactDoCollideCard.laidKinds true Rows.fnExactDoCollideCard.stood.harness Rows.fnExactDoCollideCard.stood.looks
    over (fun _ h => by cases h) (by kernel_rfl) (fun _ h => by cases h) fnExactDoCollide_row_tie rfl ⟨rfl, rfl⟩ (by kernel_rfl) rfl
    (fun f fn hf hfn => by
      obtain rfl : f = 3 := Option.some.inj ((show Tryd.prog.funcNamed Rows.fnExactDoCollideRow.func = some 3 by kernel_rfl).symm.trans hf) |>.symm
      obtain rfl : fn = Tryd.f3 := (Option.some.inj (Tryd.func3.symm.trans hfn)).symm
      exact ⟨by kernel_rfl, fun j t ht => by
        rw [Tryd.params3] at ht
        have hm : t ∈ [23, 23] := by simpa using Array.mem_of_getElem? ht
        have hall : ([23, 23].all fun u => !Tryd.prog.wantsStandIn u) = true := by kernel_rfl
        exact (show Tryd.prog.wantsStandIn t = false by simpa using List.all_eq_true.1 hall t hm)⟩)
    (by kernel_rfl)
end Go.Proofs.YtlimfpdibohioabDoor.fnExactDoCollide
