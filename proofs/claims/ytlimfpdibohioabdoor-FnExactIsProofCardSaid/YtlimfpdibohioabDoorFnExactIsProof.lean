/- For every list of ticks and every list of integers the program's IsProof answers as the model does and leaves its arguments as they were, and the law returns true. No condition beyond the library's tables as the program's text lays them. -/
import Derived.Test.YtlimfpdibohioabDoorC09t
import Derived.Test.YtlimfpdibohioabDoorDr
import Derived.Test.YtlimfpdibohioabDoorTie
import Derived.Test.YtlimfpdibohioabDoorCards
import Derived.Test.YtlimfpdibohioabDoorFr
import Derived.Test.YtlimfpdibohioabDoorRows
import Derived.WalkKit
import Derived.ProofKit
import Derived.OpenShut
namespace Go.Proofs.YtlimfpdibohioabDoor.fnExactIsProof
open Go.ChangeShapes Go.WideShapes Go.ChangeAt Go.RowKit
set_option linter.unusedVariables false
set_option linter.unusedSimpArgs false

theorem own : ownKnob Tryd.prog.godebug = none := by kernel_rfl

theorem tab {w : World} (hL : laidMet Tryd.prog Rows.fnExactIsProofRow.laid w) : Tab w := by
  have h := hL.filter (fun x => x.1 == "internal/strconv.uint64pow10")
  have e : Rows.fnExactIsProofRow.laid.filter (fun x => x.1 == "internal/strconv.uint64pow10") = [("internal/strconv.uint64pow10", Lib.tabData .u64 Lib.pow10Tab)] := by rfl
  rw [e] at h
  exact Lib.tabIs_of_head (g := 0) (by kernel_rfl) (by kernel_rfl) Tryd.underlying107 Tryd.underlying99 (by kernel_rfl) (by kernel_rfl) h


set_option maxHeartbeats 4000000 in
set_option maxRecDepth 100000 in
theorem walk (w : World) (hL : laidMet Tryd.prog Rows.fnExactIsProofRow.laid w) (A0 : Option Addr) (n0 c0 : Nat) (zs0 : List P3) (hn0 : zs0.length = n0) (hR0 : Reads w w.heap.size A0 (cells3 zs0)) (hW0 : ∀ z ∈ zs0, (Lit.int .i64 z.1).wf = true ∧ (Lit.int .i64 z.2.1).wf = true ∧ (Lit.int .i64 z.2.2).wf = true) (hM0 : n0 ≤ maxLen) (A1 : Option Addr) (n1 c1 : Nat) (zs1 : List Int) (hn1 : zs1.length = n1) (hR1 : Reads w w.heap.size A1 (zs1.map vi)) (hW1 : ∀ z ∈ zs1, (Lit.int .i64 z).wf = true) :
    Calls Tryd.prog 8 #[.slice A0 n0 c0, .slice A1 n1 c1] w (LawDone w) := by
  have HT := Lib.hid (tab hL)
  unfold maxLen at hM0
  by_cases hm : n1 ≤ 1048576
  rotate_left
  · go_enter Tryd.func8, Tryd.ntmps8
    go_wp2
    go_ret
    exact ⟨rfl, Below.refl _ _⟩
  by_cases hb : n0 ≤ 1048576
  rotate_left
  · go_enter Tryd.func8, Tryd.ntmps8
    go_wp2_with fail
    refine (szTicks_no A0 n0 c0 _ hb (by omega)).mono ?_
    rintro e w' ⟨rfl, rfl⟩
    go_wp2_with fail
    ((try simp only [Exit.inBlock, Exit.then]); refine bodyPost_ret (v := .bool true) (by simp [results, Tryd.results8, go_sem]) rfl ?_)
    exact ⟨rfl, Below.refl _ _⟩
  have HN := Lib.hid hn0
  have HM := Lib.hid hn1
  have HML := Lib.hid (show (zs1.map vi).length = n1 by rw [List.length_map]; exact hn1)
  have HS := Lib.hid (fun b b2 W (h1 : Row W b 26 (cells3 zs0)) (h2 : Row W b2 2 (zs1.map vi)) => ip_spec (some ⟨b, 0, none⟩) n0 n0 zs0 (some ⟨b2, 0, none⟩) n1 n1 zs1 W HN.out (by omega) h1.reads HM.out (by omega) h2.reads)
  have HI := Lib.hid (fun b b2 W (hg : Below w.heap.size w W) (h1 : Row W b 26 (cells3 zs0)) (h2 : Row W b2 2 (zs1.map vi)) => ip_impl (some ⟨b, 0, none⟩) n0 n0 zs0 (some ⟨b2, 0, none⟩) n1 n1 zs1 W (HT.out.later hg) HN.out (by omega) h1.reads HM.out (by omega) (Nat.le_refl _) h2.reads)
  clear hn0 hn1 hL hW0 hW1
  generalize ipV zs0 zs1 = v at *
  generalize lbE zs0 = cd at *
  go_enter Tryd.func8, Tryd.ntmps8
  go_wp2_with fail
  refine (szTicks_ok A0 n0 c0 _ hb).mono ?_
  rintro e w' ⟨rfl, rfl⟩
  go_wp2_with fail
  refine (toTicks_any A0 n0 c0 zs0 w HN.out hb hR0).mono ?_
  rintro e w1 ⟨b1, rfl, hb1, hr1, hl1⟩
  rw [HN.out]
  go_wp2_with fail
  refine (toInts_any A1 n1 c1 zs1 w1 HM.out hm (hR1.below hl1)).mono ?_
  rintro e w2 ⟨b2, rfl, hb2, hr2, hl2⟩
  rw [HML.out]
  have hW2 := hl1.trans (hl2.mono hl1.size)
  go_wp2_with fail
  refine (HS.out b1 b2 w2 (hr1.below hl2 hr1.lt) hr2).mono ?_
  rintro e w3 ⟨rfl, hg3⟩
  have hW3 := hW2.trans (hg3.below.mono hW2.size)
  go_wp2_with fail
  refine (toTicks_any A0 n0 c0 zs0 w3 HN.out hb (hR0.below hW3)).mono ?_
  rintro e w4 ⟨b4, rfl, hb4, hr4, hl4⟩
  rw [HN.out]
  have hW4 := hW3.trans (hl4.mono hW3.size)
  go_wp2_with fail
  refine (toInts_any A1 n1 c1 zs1 w4 HM.out hm (hR1.below hW4)).mono ?_
  rintro e w5 ⟨b5, rfl, hb5, hr5, hl5⟩
  rw [HML.out]
  have hW5 := hW4.trans (hl5.mono hW4.size)
  have hr4' := hr4.below hl5 hr4.lt
  go_wp2_with fail
  refine (HI.out b4 b5 w5 hW5 hr4' hr5).mono ?_
  rintro e w6 ⟨rfl, hg6⟩
  have hW6 := hW5.trans (hg6.below.mono hW5.size)
  have hr46 := hr4'.gr hg6
  have hr56 := hr5.gr hg6
  go_wp2_with fail
  refine (toTicks_any A0 n0 c0 zs0 w6 HN.out hb (hR0.below hW6)).mono ?_
  rintro e w7 ⟨b7, rfl, hb7, hr7, hl7⟩
  rw [HN.out]
  have hW7 := hW6.trans (hl7.mono hW6.size)
  go_wp2_with fail
  refine (eqTicks_same _ _ n0 n0 n0 zs0 w7 HN.out (by omega) (hr46.below hl7 hr46.lt).reads hr7.reads).mono ?_
  rintro e w8 ⟨rfl, hg8⟩
  have hW8 := hW7.trans (hg8.below.mono hW7.size)
  have hr58 := (hr56.below hl7 hr56.lt).gr hg8
  go_wp2_with fail
  refine (toInts_any A1 n1 c1 zs1 w8 HM.out hm (hR1.below hW8)).mono ?_
  rintro e w9 ⟨b9, rfl, hb9, hr9, hl9⟩
  rw [HML.out]
  have hW9 := hW8.trans (hl9.mono hW8.size)
  go_wp2_with fail
  refine (eqInts_same _ _ n1 n1 n1 zs1 w9 HM.out (by omega) (hr58.below hl9 hr58.lt).reads hr9.reads).mono ?_
  rintro e wa ⟨rfl, hga⟩
  go_wp2_with fail
  go_ret
  exact ⟨rfl, hW9.trans (hga.below.mono hW9.size)⟩

set_option maxRecDepth 100000 in
theorem lifted (os : Os) (started : os.Started) (H : Type) (enc : TypeId × Value → H) :
    ReturnsInHanded {} Tryd.checked os 8 .any (fun w args => (Rows.fnExactIsProofSpec.pre enc Tryd.prog Tryd.f8 Rows.fnExactIsProofRow.domain false w args ∧ laidMetH Tryd.prog Rows.fnExactIsProofRow.laid w) ∧ sizedMet enc Tryd.prog Tryd.f8 (OpenSpec.ofChange Rows.fnExactIsProofSpec) false w args) (Rows.fnExactIsProofSpec.post enc Tryd.prog Tryd.f8 false true false false) := by
  refine returnsInHanded_of_change_and (C := Tryd.checked) (X := fun w _ => laidMetH Tryd.prog Rows.fnExactIsProofRow.laid w) (fun _ _ _ hh h => h.of_heap hh) own started (by kernel_rfl) Tryd.func8
    (ChangeSpec.witness_shaped (enc := enc) (C := Tryd.checked) (os := os) (X := fun w _ => laidMetH Tryd.prog Rows.fnExactIsProofRow.laid w) false (World.laidAll Tryd.prog os Rows.fnExactIsProofRow.laid) #[.slice none 0 0, .slice none 0 0] 8 (World.laidAll_os _ _ _)
      (World.shaped_of_ZipB (by kernel_rfl) (by kernel_rfl)) (by kernel_rfl) (by kernel_rfl) (by kernel_rfl)
      (by rw [MakeChecks.laidMetH_plain _ _ _ (by kernel_rfl)]; exact laidMet_laidAll _ (by kernel_rfl) (by kernel_rfl))) ?_
  intro W base args ds gs before hval0 hW _ _ hL _
  rw [MakeChecks.laidMetH_plain _ _ _ (by kernel_rfl)] at hL
  have hval : ∀ (j : Nat) t v, Tryd.f8.params[j]? = some t → args[j]? = some v → Value.okWide Tryd.prog W .any base t v := hval0
  have hW' := hW
  obtain ⟨p, q, hA0, hV, hpq, hfz, hnd⟩ := hW
  have hA : DataW.TrodAll enc Tryd.prog W 0 (fun _ => true) true Tryd.f8.params.toList args.toList ds p := hA0
  have hT := hA
  obtain ⟨rfl, rfl⟩ := trodVars_none hV
  rw [Tryd.params8] at hA hval
  obtain ⟨v0, vs0, d0, ds0, p0, q0, hargs, rfl, rfl, h0, r0⟩ := trodAll_cons hA
  obtain ⟨v1, vs1, d1, ds1, p1, q1, rfl, rfl, rfl, h1, r1⟩ := trodAll_cons r0
  obtain ⟨rfl, rfl, rfl⟩ := trodAll_nil r1
  obtain rfl : args = #[v0, v1] := by cases args; simp_all
  obtain ⟨A0, n0, c0, zs0, rfl, hn0, hR0, hW0, hM0⟩ := open_p3 Tryd.underlying29 Tryd.underlying23 (by kernel_rfl) rfl rfl rfl Tryd.underlying2 Tryd.underlying2 Tryd.underlying2 (by kernel_rfl) (by kernel_rfl) (by kernel_rfl) (hval 0 29 v0 rfl rfl) h0
  obtain ⟨A1, n1, c1, zs1, rfl, hn1, hR1, hW1⟩ := open_islice Tryd.underlying30 Tryd.underlying2 (by kernel_rfl) (hval 1 30 v1 rfl rfl) h1
  clear hA0 hval0
  refine (walk W hL A0 n0 c0 zs0 hn0 hR0 hW0 hM0 A1 n1 c1 zs1 hn1 hR1 hW1).mono fun e W' ⟨he, hb⟩ => ?_
  subst he
  exact ⟨_, rfl, law_post laidOut hW' hT hpq (by kernel_rfl) (fun _ _ => rfl) rfl rfl rfl Tryd.underlying4 hb⟩

theorem over : Rows.fnExactIsProofRow.holds Tryd.pinned (OpenSpec.ofChange Rows.fnExactIsProofSpec) :=
  OpenClaim.holds_of_wide 8 Tryd.f8 rfl rfl rfl rfl rfl rfl rfl ⟨rfl, rfl, rfl, rfl, rfl⟩ rfl rfl rfl rfl rfl (by kernel_rfl) Tryd.func8 (by kernel_rfl)
    (of_decide_eq_true (by kernel_rfl)) (by unfold Func.isWrapper; first | (rw [if_pos (by decide +kernel)]; kernel_rfl) | (rw [if_neg (by decide +kernel)]; exact ⟨rfl, rfl⟩))
    (fun os started H enc _ => lifted os started H enc)

theorem proved : Rows.FnExactIsProofCardSaid :=
  Claim7.holds_tied_plain_at .later [] Rows.fnExactIsProofCard.laidKinds true Rows.fnExactIsProofCard.stood.harness Rows.fnExactIsProofCard.stood.looks
    over (fun _ h => by cases h) (by kernel_rfl) (fun _ h => by cases h) fnExactIsProof_row_tie rfl ⟨rfl, rfl⟩ (by kernel_rfl) rfl
    (fun f fn hf hfn => by
      obtain rfl : f = 8 := Option.some.inj ((show Tryd.prog.funcNamed Rows.fnExactIsProofRow.func = some 8 by kernel_rfl).symm.trans hf) |>.symm
      obtain rfl : fn = Tryd.f8 := (Option.some.inj (Tryd.func8.symm.trans hfn)).symm
      exact ⟨by kernel_rfl, fun j t ht => by
        rw [Tryd.params8] at ht
        have hm : t ∈ [29, 30] := by simpa using Array.mem_of_getElem? ht
        have hall : ([29, 30].all fun u => !Tryd.prog.wantsStandIn u) = true := by kernel_rfl
        exact (show Tryd.prog.wantsStandIn t = false by simpa using List.all_eq_true.1 hall t hm)⟩)
    (by kernel_rfl)
end Go.Proofs.YtlimfpdibohioabDoor.fnExactIsProof
