/- For every scale, length, three errors and figure the program's ReadingBound answers as the model does, and the law returns true. No condition beyond the table of decades as the program's text lays it. -/
import Derived.Test.YtdbeedfapkfibaaDoorC10f
import Derived.Test.YtdbeedfapkfibaaDoor2A
import Derived.Test.YtdbeedfapkfibaaDoorDr
import Derived.Test.YtdbeedfapkfibaaDoorTie
import Derived.Test.YtdbeedfapkfibaaDoorCards
import Derived.Test.YtdbeedfapkfibaaDoorFr
import Derived.Test.YtdbeedfapkfibaaDoorFv
import Derived.Test.YtdbeedfapkfibaaDoorRows
import Derived.WalkKit
import Derived.ProofKit
import Derived.OpenShut
import Derived.Lib.SmallJoins
namespace Go.Proofs.YtdbeedfapkfibaaDoor.fnExactReadingBound
open Go.ChangeShapes Go.WideShapes Go.ChangeAt Go.RowKit
set_option linter.unusedVariables false
set_option linter.unusedSimpArgs false

theorem own : ownKnob Tryd.prog.godebug = none := by kernel_rfl

theorem dcsl {w : World} (hL : laidMet Tryd.prog Rows.fnExactReadingBoundRow.laid w) : Dcs w := by
  have h := hL.filter (fun x => x.1 == "loop.example/g00951/impl.scaleDecades")
  have e : Rows.fnExactReadingBoundRow.laid.filter (fun x => x.1 == "loop.example/g00951/impl.scaleDecades") = [("loop.example/g00951/impl.scaleDecades", Lib.tabData .i64 [1, 2, 3, 1, 1, 1])] := by rfl
  rw [e] at h
  exact dcs_of (Lib.tabIs_of_head (g := 0) (by kernel_rfl) (by kernel_rfl) Tryd.underlying111 Tryd.underlying2 (by kernel_rfl) (by kernel_rfl) h)


set_option maxHeartbeats 4000000 in
set_option maxRecDepth 100000 in
theorem walk (w : World) (hL : laidMet Tryd.prog Rows.fnExactReadingBoundRow.laid w) (a0 : Int) (wf0 : (Lit.int .i64 a0).wf = true) (a1 : Int) (wf1 : (Lit.int .i64 a1).wf = true) (a2_0 : Int) (wf2_0 : (Lit.int .i64 a2_0).wf = true) (a2_1 : Int) (wf2_1 : (Lit.int .i64 a2_1).wf = true) (a2_2 : Int) (wf2_2 : (Lit.int .i64 a2_2).wf = true) (a3_0 : Int) (wf3_0 : (Lit.int .i64 a3_0).wf = true) (a3_1 : Int) (wf3_1 : (Lit.int .i64 a3_1).wf = true) :
    Calls Tryd.prog 7 #[.int .i64 a0, .int .i64 a1, .agg #[.int .i64 a2_0, .int .i64 a2_1, .int .i64 a2_2], .agg #[.int .i64 a3_0, .int .i64 a3_1]] w (LawDone w) := by
  have HD := Lib.hid (dcsl hL)
  have HI := Lib.hid (fun W h => rbR_impl a0 a1 a2_0 a2_1 a2_2 a3_0 a3_1 W h)
  have HS := Lib.hid (fun W => rbR_spec a0 a1 a2_0 a2_1 a2_2 a3_0 a3_1 W)
  generalize rbR a0 a1 a2_0 a2_1 a2_2 a3_0 a3_1 = R at *
  clear hL
  go_enter Tryd.func7, Tryd.ntmps7
  go_wp2
  ((first | refine region_gr_on (by kernel_rfl) (by kernel_rfl) ?_ | refine region_gr (by kernel_rfl) (by kernel_rfl) ?_); (repeat (quiet_step (first | exact Calls.gr_of (toErrors_any _ _ _ _) | exact Calls.gr_of (toFigure_any _ _ _) | exact Calls.gr_of (HS.out _)))); refine wpQuiet_nil ?_; intro _ hw'; obtain ⟨⟨kq, oq⟩, hw''⟩ := hw'; subst hw'')
  go_wp2
  ((first | refine region_gr_on (by kernel_rfl) (by kernel_rfl) ?_ | refine region_gr (by kernel_rfl) (by kernel_rfl) ?_); (repeat (quiet_step (first | exact Calls.gr_of (toErrors_any _ _ _ _) | exact Calls.gr_of (toFigure_any _ _ _) | exact Calls.gr_of (HI.out _ (HD.out.gr (by repeat (first | with_reducible exact Gr.refl _ | with_reducible refine Gr.alloc ?_ _ | with_reducible refine Gr.gr ?_ _ _ | with_reducible refine Gr.drew ?_ | with_reducible refine Gr.drewN ?_ _))))))); refine wpQuiet_nil ?_; intro _ hw'; obtain ⟨⟨kq, oq⟩, hw''⟩ := hw'; subst hw'')
  go_wp2
  go_ret
  exact ⟨rfl, Gr.below (by repeat (first | with_reducible exact Gr.refl _ | with_reducible refine Gr.alloc ?_ _ | with_reducible refine Gr.gr ?_ _ _ | with_reducible refine Gr.drew ?_ | with_reducible refine Gr.drewN ?_ _))⟩

set_option maxRecDepth 100000 in
theorem lifted (os : Os) (started : os.Started) (H : Type) (enc : TypeId × Value → H) :
    ReturnsInHanded {} Tryd.checked os 7 .any (fun w args => (Rows.fnExactReadingBoundSpec.pre enc Tryd.prog Tryd.f7 Rows.fnExactReadingBoundRow.domain false w args ∧ laidMetH Tryd.prog Rows.fnExactReadingBoundRow.laid w) ∧ sizedMet enc Tryd.prog Tryd.f7 (OpenSpec.ofChange Rows.fnExactReadingBoundSpec) false w args) (Rows.fnExactReadingBoundSpec.post enc Tryd.prog Tryd.f7 false true false false) := by
  refine returnsInHanded_of_change_and (C := Tryd.checked) (X := fun w _ => laidMetH Tryd.prog Rows.fnExactReadingBoundRow.laid w) (fun _ _ _ hh h => h.of_heap hh) own started (by kernel_rfl) Tryd.func7
    (ChangeSpec.witness_shaped (enc := enc) (C := Tryd.checked) (os := os) (X := fun w _ => laidMetH Tryd.prog Rows.fnExactReadingBoundRow.laid w) false (World.laidAll Tryd.prog os Rows.fnExactReadingBoundRow.laid) #[.int .i64 0, .int .i64 0, .agg #[.int .i64 0, .int .i64 0, .int .i64 0], .agg #[.int .i64 0, .int .i64 0]] 8 (World.laidAll_os _ _ _)
      (World.shaped_of_ZipB (by kernel_rfl) (by kernel_rfl)) (by kernel_rfl) (by kernel_rfl) (by kernel_rfl)
      (by rw [MakeChecks.laidMetH_plain _ _ _ (by kernel_rfl)]; exact laidMet_laidAll _ (by kernel_rfl) (by kernel_rfl))) ?_
  intro W base args ds gs before hval0 hW _ _ hL _
  rw [MakeChecks.laidMetH_plain _ _ _ (by kernel_rfl)] at hL
  have hval : ∀ (j : Nat) t v, Tryd.f7.params[j]? = some t → args[j]? = some v → Value.okWide Tryd.prog W .any base t v := hval0
  have hW' := hW
  obtain ⟨p, q, hA0, hV, hpq, hfz, hnd⟩ := hW
  have hA : DataW.TrodAll enc Tryd.prog W 0 (fun _ => true) true Tryd.f7.params.toList args.toList ds p := hA0
  have hT := hA
  obtain ⟨g1, rfl⟩ := vars_one hV
  rw [Tryd.params7] at hA hval
  obtain ⟨v0, vs0, d0, ds0, p0, q0, hargs, rfl, rfl, h0, r0⟩ := trodAll_cons hA
  obtain ⟨v1, vs1, d1, ds1, p1, q1, rfl, rfl, rfl, h1, r1⟩ := trodAll_cons r0
  obtain ⟨v2, vs2, d2, ds2, p2, q2, rfl, rfl, rfl, h2, r2⟩ := trodAll_cons r1
  obtain ⟨v3, vs3, d3, ds3, p3, q3, rfl, rfl, rfl, h3, r3⟩ := trodAll_cons r2
  obtain ⟨rfl, rfl, rfl⟩ := trodAll_nil r3
  obtain rfl : args = #[v0, v1, v2, v3] := by cases args; simp_all
  obtain ⟨a0, rfl, -, -, wf0⟩ := open_int Tryd.underlying2 (hval 0 2 v0 rfl rfl) h0
  obtain ⟨a1, rfl, -, -, wf1⟩ := open_int Tryd.underlying2 (hval 1 2 v1 rfl rfl) h1
  obtain ⟨c2_0, c2_1, c2_2, y2_0, y2_1, y2_2, m2, rfl, rfl, rfl, hy2_0, hy2_1, hy2_2⟩ := Go.Joins.open_agg3 Tryd.underlying45 (by kernel_rfl) (show Tryd.prog.cellsOf 45 = 3 by kernel_rfl) (hval 2 45 v2 rfl rfl) h2
  obtain ⟨a2_0, e2_0, rfl, wf2_0⟩ := DataW.trod_int Tryd.underlying2 hy2_0
  simp at e2_0
  subst e2_0
  obtain ⟨a2_1, e2_1, rfl, wf2_1⟩ := DataW.trod_int Tryd.underlying2 hy2_1
  simp at e2_1
  subst e2_1
  obtain ⟨a2_2, e2_2, rfl, wf2_2⟩ := DataW.trod_int Tryd.underlying2 hy2_2
  simp at e2_2
  subst e2_2
  obtain ⟨c3_0, c3_1, y3_0, y3_1, m3, rfl, rfl, rfl, hy3_0, hy3_1⟩ := Go.Joins.open_agg2 Tryd.underlying49 (by kernel_rfl) (show Tryd.prog.cellsOf 49 = 2 by kernel_rfl) (hval 3 49 v3 rfl rfl) h3
  obtain ⟨a3_0, e3_0, rfl, wf3_0⟩ := DataW.trod_int Tryd.underlying2 hy3_0
  simp at e3_0
  subst e3_0
  obtain ⟨a3_1, e3_1, rfl, wf3_1⟩ := DataW.trod_int Tryd.underlying2 hy3_1
  simp at e3_1
  subst e3_1
  clear hA0 hval0
  refine (walk W hL a0 wf0 a1 wf1 a2_0 wf2_0 a2_1 wf2_1 a2_2 wf2_2 a3_0 wf3_0 a3_1 wf3_1).mono fun e W' ⟨he, hb⟩ => ?_
  subst he
  exact ⟨_, rfl, law_postv laidOut hW' hT hpq (by kernel_rfl) (by kernel_rfl) hV rfl rfl rfl rfl Tryd.underlying4 hb⟩

theorem over : Rows.fnExactReadingBoundRow.holds Tryd.pinned (OpenSpec.ofChange Rows.fnExactReadingBoundSpec) :=
  OpenClaim.holds_of_wide 7 Tryd.f7 rfl rfl rfl rfl rfl rfl rfl ⟨rfl, rfl, rfl, rfl, rfl⟩ rfl rfl rfl rfl rfl (by kernel_rfl) Tryd.func7 (by kernel_rfl)
    (of_decide_eq_true (by kernel_rfl)) (by unfold Func.isWrapper; first | (rw [if_pos (by decide +kernel)]; kernel_rfl) | (rw [if_neg (by decide +kernel)]; exact ⟨rfl, rfl⟩))
    (fun os started H enc _ => lifted os started H enc)

theorem proved : Rows.FnExactReadingBoundCardSaid :=
  Claim7.holds_tied_plain_at .later [] Rows.fnExactReadingBoundCard.laidKinds true Rows.fnExactReadingBoundCard.stood.harness Rows.fnExactReadingBoundCard.stood.looks
    over (fun _ h => by cases h) (by kernel_rfl) (fun _ h => by cases h) fnExactReadingBound_row_tie rfl ⟨rfl, rfl⟩ (by kernel_rfl) rfl
    (fun f fn hf hfn => by
      obtain rfl : f = 7 := Option.some.inj ((show Tryd.prog.funcNamed Rows.fnExactReadingBoundRow.func = some 7 by kernel_rfl).symm.trans hf) |>.symm
      obtain rfl : fn = Tryd.f7 := (Option.some.inj (Tryd.func7.symm.trans hfn)).symm
      exact ⟨by kernel_rfl, fun j t ht => by
        rw [Tryd.params7] at ht
        have hm : t ∈ [2, 2, 45, 49] := by simpa using Array.mem_of_getElem? ht
        have hall : ([2, 2, 45, 49].all fun u => !Tryd.prog.wantsStandIn u) = true := by kernel_rfl
        exact (show Tryd.prog.wantsStandIn t = false by simpa using List.all_eq_true.1 hall t hm)⟩)
    (by kernel_rfl)
end Go.Proofs.YtdbeedfapkfibaaDoor.fnExactReadingBound
