/- For every list of parts and every two numbers the program's LeastDistance answers as the model does and leaves its argument as it was, and the law returns true. No condition beyond the table as the program's text lays it. -/
import Derived.Test.YtjpkhbcomcailaaDoorC07l
import Derived.Test.YtjpkhbcomcailaaDoorC07m
import Derived.Test.YtjpkhbcomcailaaDoorDr
import Derived.Test.YtjpkhbcomcailaaDoorTie
import Derived.Test.YtjpkhbcomcailaaDoorCards
import Derived.Test.YtjpkhbcomcailaaDoorFr
import Derived.Test.YtjpkhbcomcailaaDoorFv
import Derived.Test.YtjpkhbcomcailaaDoorRows
import Derived.WalkKit
import Derived.ProofKit
import Derived.OpenShut
namespace Go.Proofs.YtjpkhbcomcailaaDoor.fnExactLeastDistance
open Go.ChangeShapes Go.WideShapes Go.ChangeAt Go.RowKit
set_option linter.unusedVariables false
set_option linter.unusedSimpArgs false

theorem own : ownKnob Tryd.prog.godebug = none := by kernel_rfl

theorem dcsl {w : World} (hL : laidMet Tryd.prog Rows.fnExactLeastDistanceRow.laid w) : Dcs w := by
  have h := hL.filter (fun x => x.1 == "loop.example/g00951/impl.scaleDecades")
  have e : Rows.fnExactLeastDistanceRow.laid.filter (fun x => x.1 == "loop.example/g00951/impl.scaleDecades") = [("loop.example/g00951/impl.scaleDecades", Lib.tabData .i64 [1, 2, 3, 1, 1, 1])] := by rfl
  rw [e] at h
  exact dcs_of (Lib.tabIs_of_head (g := 2) (by kernel_rfl) (by kernel_rfl) Tryd.underlying148 Tryd.underlying2 (by kernel_rfl) (by kernel_rfl) h)


set_option maxHeartbeats 4000000 in
set_option maxRecDepth 100000 in
theorem walk (w : World) (hL : laidMet Tryd.prog Rows.fnExactLeastDistanceRow.laid w) (A0 : Option Addr) (n0 c0 : Nat) (zs0 : List P3) (hn0 : zs0.length = n0) (hR0 : Reads w w.heap.size A0 (cells3 zs0)) (hW0 : ∀ z ∈ zs0, (Lit.int .i64 z.1).wf = true ∧ (Lit.int .i64 z.2.1).wf = true ∧ (Lit.int .i64 z.2.2).wf = true) (hM0 : n0 ≤ maxLen) (a1 : Int) (wf1 : (Lit.int .i64 a1).wf = true) (a2 : Int) (wf2 : (Lit.int .i64 a2).wf = true) :
    Calls Tryd.prog 5 #[.slice A0 n0 c0, .int .i64 a1, .int .i64 a2] w (LawDone w) := by
  have HD := Lib.hid (dcsl hL)
  clear hL
  unfold maxLen at hM0
  by_cases hb : n0 ≤ 1048576
  rotate_left
  · go_enter Tryd.func5, Tryd.ntmps5
    go_wp2_with fail
    refine (szParts_no A0 n0 c0 _ hb (by omega)).mono ?_
    rintro e w' ⟨rfl, rfl⟩
    go_wp2_with fail
    ((try simp only [Exit.inBlock, Exit.then]); refine bodyPost_ret (v := .bool true) (by simp [results, Tryd.results5, go_sem]) rfl ?_)
    exact ⟨rfl, Below.refl _ _⟩
  have HN := Lib.hid hn0
  clear hn0
  go_enter Tryd.func5, Tryd.ntmps5
  go_wp2_with (go_at_call 28; refine (szParts_ok A0 n0 c0 _ hb).mono ?_; rintro e w' ⟨rfl, rfl⟩)
  refine (toParts_any A0 n0 c0 zs0 w HN.out hb hR0).mono ?_
  rintro e w1 ⟨b1, rfl, hb1, hr1, hl1⟩
  rw [HN.out]
  go_wp2_with fail
  refine (ld_spec (some ⟨b1, 0, none⟩) n0 n0 zs0 a1 a2 w1 HN.out (by omega) hr1.reads).mono ?_
  rintro e w2 ⟨rfl, hd2⟩
  have hW2 := hl1.trans (hd2.mono hl1.size)
  go_wp2_with fail
  refine (toParts_any A0 n0 c0 zs0 w2 HN.out hb (hR0.below hW2)).mono ?_
  rintro e w3 ⟨b3, rfl, hb3, hr3, hl3⟩
  have hW3 := hW2.trans (hl3.mono hW2.size)
  rw [HN.out]
  go_wp2_with fail
  refine (ld_impl (some ⟨b3, 0, none⟩) n0 n0 zs0 a1 a2 w3 HN.out (by omega) hr3.reads hW0 (HD.out.gr (Gr.of_below hW3))).mono ?_
  rintro e w4 ⟨rfl, hd4⟩
  have hW4 := hW3.trans (hd4.mono hW3.size)
  go_wp2_with fail
  refine (toParts_any A0 n0 c0 zs0 w4 HN.out hb (hR0.below hW4)).mono ?_
  rintro e w5 ⟨b5, rfl, hb5, hr5, hl5⟩
  have hW5 := hW4.trans (hl5.mono hW4.size)
  rw [HN.out]
  go_wp2_with fail
  refine (eqParts_same _ _ n0 n0 n0 zs0 w5 HN.out (by omega) ((hr3.below hd4 hr3.lt).below hl5 (hr3.below hd4 hr3.lt).lt).reads hr5.reads).mono ?_
  rintro e w6 ⟨rfl, hg6⟩
  go_wp2_with fail
  go_ret
  exact ⟨rfl, hW5.trans (hg6.below.mono hW5.size)⟩

set_option maxRecDepth 100000 in
theorem lifted (os : Os) (started : os.Started) (H : Type) (enc : TypeId × Value → H) :
    ReturnsInHanded {} Tryd.checked os 5 .any (fun w args => (Rows.fnExactLeastDistanceSpec.pre enc Tryd.prog Tryd.f5 Rows.fnExactLeastDistanceRow.domain false w args ∧ laidMetH Tryd.prog Rows.fnExactLeastDistanceRow.laid w) ∧ sizedMet enc Tryd.prog Tryd.f5 (OpenSpec.ofChange Rows.fnExactLeastDistanceSpec) false w args) (Rows.fnExactLeastDistanceSpec.post enc Tryd.prog Tryd.f5 false true false false) := by
  refine returnsInHanded_of_change_and (C := Tryd.checked) (X := fun w _ => laidMetH Tryd.prog Rows.fnExactLeastDistanceRow.laid w) (fun _ _ _ hh h => h.of_heap hh) own started (by kernel_rfl) Tryd.func5
    (ChangeSpec.witness_shaped (enc := enc) (C := Tryd.checked) (os := os) (X := fun w _ => laidMetH Tryd.prog Rows.fnExactLeastDistanceRow.laid w) false (World.laidAll Tryd.prog os Rows.fnExactLeastDistanceRow.laid) #[.slice none 0 0, .int .i64 0, .int .i64 0] 8 (World.laidAll_os _ _ _)
      (World.shaped_of_ZipB (by kernel_rfl) (by kernel_rfl)) (by kernel_rfl) (by kernel_rfl) (by kernel_rfl)
      (by rw [MakeChecks.laidMetH_plain _ _ _ (by kernel_rfl)]; exact laidMet_laidAll _ (by kernel_rfl) (by kernel_rfl))) ?_
  intro W base args ds gs before hval0 hW _ _ hL _
  rw [MakeChecks.laidMetH_plain _ _ _ (by kernel_rfl)] at hL
  have hval : ∀ (j : Nat) t v, Tryd.f5.params[j]? = some t → args[j]? = some v → Value.okWide Tryd.prog W .any base t v := hval0
  have hW' := hW
  obtain ⟨p, q, hA0, hV, hpq, hfz, hnd⟩ := hW
  have hA : DataW.TrodAll enc Tryd.prog W 0 (fun _ => true) true Tryd.f5.params.toList args.toList ds p := hA0
  have hT := hA
  obtain ⟨g1, rfl⟩ := vars_one hV
  rw [Tryd.params5] at hA hval
  obtain ⟨v0, vs0, d0, ds0, p0, q0, hargs, rfl, rfl, h0, r0⟩ := trodAll_cons hA
  obtain ⟨v1, vs1, d1, ds1, p1, q1, rfl, rfl, rfl, h1, r1⟩ := trodAll_cons r0
  obtain ⟨v2, vs2, d2, ds2, p2, q2, rfl, rfl, rfl, h2, r2⟩ := trodAll_cons r1
  obtain ⟨rfl, rfl, rfl⟩ := trodAll_nil r2
  obtain rfl : args = #[v0, v1, v2] := by cases args; simp_all
  obtain ⟨A0, n0, c0, zs0, rfl, hn0, hR0, hW0, hM0⟩ := open_p3 Tryd.underlying45 Tryd.underlying84 (by kernel_rfl) rfl rfl rfl Tryd.underlying2 Tryd.underlying2 Tryd.underlying2 (by kernel_rfl) (by kernel_rfl) (by kernel_rfl) (hval 0 45 v0 rfl rfl) h0
  obtain ⟨a1, rfl, -, -, wf1⟩ := open_int Tryd.underlying2 (hval 1 2 v1 rfl rfl) h1
  obtain ⟨a2, rfl, -, -, wf2⟩ := open_int Tryd.underlying2 (hval 2 2 v2 rfl rfl) h2
  clear hA0 hval0
  refine (walk W hL A0 n0 c0 zs0 hn0 hR0 hW0 hM0 a1 wf1 a2 wf2).mono fun e W' ⟨he, hb⟩ => ?_
  subst he
  exact ⟨_, rfl, law_postv laidOut hW' hT hpq (by kernel_rfl) (by kernel_rfl) hV rfl rfl rfl rfl Tryd.underlying4 hb⟩

theorem over : Rows.fnExactLeastDistanceRow.holds Tryd.pinned (OpenSpec.ofChange Rows.fnExactLeastDistanceSpec) :=
  OpenClaim.holds_of_wide 5 Tryd.f5 rfl rfl rfl rfl rfl rfl rfl ⟨rfl, rfl, rfl, rfl, rfl⟩ rfl rfl rfl rfl rfl (by kernel_rfl) Tryd.func5 (by kernel_rfl)
    (of_decide_eq_true (by kernel_rfl)) (by unfold Func.isWrapper; first | (rw [if_pos (by decide +kernel)]; kernel_rfl) | (rw [if_neg (by decide +kernel)]; exact ⟨rfl, rfl⟩))
    (fun os started H enc _ => lifted os started H enc)

theorem proved : Rows.FnExactLeastDistanceCardSaid :=
  Claim7.holds_tied_plain_at .later [] Rows.fnExactLeastDistanceCard.laidKinds true Rows.fnExactLeastDistanceCard.stood.harness Rows.fnExactLeastDistanceCard.stood.looks
    over (fun _ h => by cases h) (by kernel_rfl) (fun _ h => by cases h) fnExactLeastDistance_row_tie rfl ⟨rfl, rfl⟩ (by kernel_rfl) rfl
    (fun f fn hf hfn => by
      obtain rfl : f = 5 := Option.some.inj ((show Tryd.prog.funcNamed Rows.fnExactLeastDistanceRow.func = some 5 by kernel_rfl).symm.trans hf) |>.symm
      obtain rfl : fn = Tryd.f5 := (Option.some.inj (Tryd.func5.symm.trans hfn)).symm
      exact ⟨by kernel_rfl, fun j t ht => by
        rw [Tryd.params5] at ht
        have hm : t ∈ [45, 2, 2] := by simpa using Array.mem_of_getElem? ht
        have hall : ([45, 2, 2].all fun u => !Tryd.prog.wantsStandIn u) = true := by kernel_rfl
        exact (show Tryd.prog.wantsStandIn t = false by simpa using List.all_eq_true.1 hall t hm)⟩)
    (by kernel_rfl)
end Go.Proofs.YtjpkhbcomcailaaDoor.fnExactLeastDistance
