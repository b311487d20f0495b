/- For every code of bytes the units of the drawn errors, the total and the least length are as the law FnErrors says, and it returns true. No condition beyond the table of decades as the program's text lays it. -/
import Derived.Test.YtdbeedfapkfibaaDoorC10g
import Derived.Test.YtdbeedfapkfibaaDoorD26
import Derived.Test.YtdbeedfapkfibaaDoorHs
import Derived.Test.YtdbeedfapkfibaaDoorBig
import Derived.Test.YtdbeedfapkfibaaDoorMB
import Derived.Test.YtdbeedfapkfibaaDoorDr
import Derived.Test.YtdbeedfapkfibaaDoorTie
import Derived.Test.YtdbeedfapkfibaaDoorCards
import Derived.Test.YtdbeedfapkfibaaDoorFr
import Derived.Test.YtdbeedfapkfibaaDoorFv
import Derived.Test.YtdbeedfapkfibaaDoorRows
import Derived.WalkKit
import Derived.ProofKit
import Derived.OpenShut
namespace Go.Proofs.YtdbeedfapkfibaaDoor.fnErrors
open Go.ChangeShapes Go.WideShapes Go.ChangeAt Go.RowKit
set_option linter.unusedVariables false
set_option linter.unusedSimpArgs false

theorem own : ownKnob Tryd.prog.godebug = none := by kernel_rfl

theorem dcsl {w : World} (hL : laidMet Tryd.prog Rows.fnErrorsRow.laid w) : Dcs w := by
  have h := hL.filter (fun x => x.1 == "loop.example/g00951/impl.scaleDecades")
  have e : Rows.fnErrorsRow.laid.filter (fun x => x.1 == "loop.example/g00951/impl.scaleDecades") = [("loop.example/g00951/impl.scaleDecades", Lib.tabData .i64 [1, 2, 3, 1, 1, 1])] := by rfl
  rw [e] at h
  exact dcs_of (Lib.tabIs_of_head (g := 0) (by kernel_rfl) (by kernel_rfl) Tryd.underlying111 Tryd.underlying2 (by kernel_rfl) (by kernel_rfl) h)

theorem te_er (x y z : Int) : ((teR x y z).2 == 0) = er x y z := by
  rcases er_tf x y z with h | h
  · rw [teR_ok x y z h, h]; rfl
  · rw [teR_no x y z h, h]; rfl
theorem er_te (x y z : Int) (W : World) :
    Calls Tryd.prog 26 #[.agg #[.int .i64 (x), .int .i64 (y), .int .i64 (z)]] W fun e w' => e = .returned (.bool ((teR x y z).2 == 0)) ∧ Gr W w' := by
  rw [te_er]; exact areErrors_impl x y z W
theorem lf_case (s a b c u : Int) : (((lfR s a b c u).2 == 0) = false) ∨ ((lfR s a b c u).2 = 0 ∧ (1 ≤ (lfR s a b c u).1 ∧ (lfR s a b c u).1 ≤ 100000) ∧ (euR s (lfR s a b c u).1 a b c).2 = 0 ∧ (euR s (lfR s a b c u).1 a b c).1 ≤ u ∧
    (1 < (lfR s a b c u).1 → (euR s ((lfR s a b c u).1 - 1) a b c).2 = 0 ∧ u < (euR s ((lfR s a b c u).1 - 1) a b c).1)) := by
  by_cases h : lfC s a b c u = 0
  · right
    obtain ⟨h1, h2, h3⟩ := lf_facts s a b c u h
    have hb : lfV s a b c u ≤ 100000 := by
      rcases lfC_cases s a b c u with ⟨-, e⟩ | ⟨-, -, e⟩ | ⟨-, -, -, e⟩ | ⟨-, -, -, -, e⟩ | ⟨-, -, -, e, -⟩ <;> omega
    rw [lfR_ok _ _ _ _ _ h, euR_ok _ _ _ _ _ h1]
    refine ⟨rfl, ⟨lfV_one s a b c u, hb⟩, rfl, h2, fun hl => ?_⟩
    obtain ⟨h4, h5⟩ := h3 hl
    rw [euR_ok _ _ _ _ _ h4]
    exact ⟨rfl, h5⟩
  · left
    rw [lfR_no _ _ _ _ _ h]
    simpa using h
theorem eu_case (s l a b c : Int) : (((euR s l a b c).2 != 0) = true) ∨ ((euR s l a b c).2 = 0 ∧ (l = 100000 ∨ (((l : Int) == 100000) = false ∧ l ≤ 100000 ∧ (euR s (l + 1) a b c).2 = 0 ∧ (euR s (l + 1) a b c).1 ≤ (euR s l a b c).1))) := by
  by_cases h : euC s l a b c = 0
  · right
    rw [euR_ok _ _ _ _ _ h]
    refine ⟨rfl, ?_⟩
    by_cases hl : l = 100000
    · exact .inl hl
    · right
      obtain ⟨h1, h2⟩ := eu_longer s l a b c h hl
      have hb : l ≤ 100000 := by
        rcases euC_cases s l a b c with ⟨-, e⟩ | ⟨-, -, e⟩ | ⟨-, -, -, e⟩ | ⟨-, -, e, -⟩
        · omega
        · omega
        · omega
        · exact ((ln_iff l).1 e).2
      rw [euR_ok _ _ _ _ _ h1]
      exact ⟨by simp [hl], hb, rfl, h2⟩
  · left
    rw [euR_no _ _ _ _ _ h]
    simpa using h
set_option maxHeartbeats 8000000 in
set_option maxRecDepth 100000 in
/-- The walk of a code that is not too long. -/
theorem walk1 (w : World) (hD : Dcs w) (A0 : Option Addr) (n0 c0 : Nat) (hB0 : Bytes w w.heap.size A0 n0) (hbig : ¬ 4096 < n0) :
    Calls Tryd.prog 4 #[.slice A0 n0 c0] w (LawDone w) := by
  have HD := Lib.hid hD
  clear hD
  have hd : decide ((4096 : Int) < n0) = false := by simp; omega
  go_enter Tryd.func4, Tryd.ntmps4
  go_wp2_with fail
  refine (big_any A0 n0 c0 w).mono ?_
  rw [hd]
  rintro e w1 ⟨rfl, rfl⟩
  clear hd
  go_wp2_with fail
  refine (drawErrorUnits_any A0 n0 c0 w (by omega) hB0).mono ?_
  rintro e w1 ⟨s, l, x, y, z, rfl, hl, hb⟩
  have G1 := ((Gr.of_below hb).alloc (.cells #[.int .i64 x, .int .i64 y, .int .i64 z] 33))
  have L1 := ((show Hass w1 [] from trivial).new' [.int .i64 x, .int .i64 y, .int .i64 z] 33 (w1.heap.size) (by simp))
  clear hb
  have F := L1
  obtain ⟨⟨l0, z0⟩, -⟩ := F
  go_wp2_with fail
  clear l0 z0
  refine (euR_impl s l x y z _ (HD.out.gr G1)).mono ?_
  rintro e w2 ⟨rfl, hg⟩
  have G2 := (G1.trans hg)
  have L2 := (L1.gr hg)
  clear L1 G1 hg
  have F := L2
  obtain ⟨⟨l0, z0⟩, -⟩ := F
  go_wp2_with fail
  clear l0 z0
  refine (euR_spec s l x y z _).mono ?_
  rintro e w3 ⟨rfl, hg⟩
  have G3 := (G2.trans hg)
  have L3 := (L2.gr hg)
  clear L2 G2 hg
  have F := L3
  obtain ⟨⟨l0, z0⟩, -⟩ := F
  go_wp2_with fail
  clear l0 z0
  refine (teR_impl x y z _).mono ?_
  rintro e w4 ⟨rfl, hg⟩
  have G4 := (G3.trans hg)
  have L4 := (L3.gr hg)
  clear L3 G3 hg
  have F := L4
  obtain ⟨⟨l0, z0⟩, -⟩ := F
  go_wp2_with fail
  clear l0 z0
  refine (teR_spec x y z _).mono ?_
  rintro e w5 ⟨rfl, hg⟩
  have G5 := (G4.trans hg)
  have L5 := (L4.gr hg)
  clear L4 G4 hg
  go_wp2_with fail
  refine (drawLengthFor_any A0 n0 c0 _ (by omega) (hB0.later G5.below)).mono ?_
  rintro e w6 ⟨a, p, q, r, u, rfl, hb⟩
  have G6 := ((G5.trans (Gr.of_below hb)).alloc (.cells #[.int .i64 p, .int .i64 q, .int .i64 r] 33))
  have L6 := ((L5.below hb).new' [.int .i64 p, .int .i64 q, .int .i64 r] 33 (w6.heap.size) (by simp))
  clear L5 G5 hb
  have F := L6
  obtain ⟨⟨l0, z0⟩, -⟩ := F
  go_wp2_with fail
  clear l0 z0
  refine (lfR_impl a p q r u _ (HD.out.gr G6)).mono ?_
  rintro e w7 ⟨rfl, hg⟩
  have G7 := (G6.trans hg)
  have L7 := (L6.gr hg)
  clear L6 G6 hg
  have F := L7
  obtain ⟨⟨l0, z0⟩, -⟩ := F
  go_wp2_with fail
  clear l0 z0
  refine (lfR_spec a p q r u _).mono ?_
  rintro e w8 ⟨rfl, hg⟩
  have G8 := (G7.trans hg)
  have L8 := (L7.gr hg)
  clear L7 G7 hg
  have HP := Lib.hid (lf_case a p q r u)
  have HQ := Lib.hid (eu_case s l x y z)
  have HA := Lib.hid (fun W => er_te x y z W)
  have HE1 := Lib.hid (fun W h => euR_impl a (lfR a p q r u).1 p q r W h)
  have HE2 := Lib.hid (fun W h => euR_impl a ((lfR a p q r u).1 - 1) p q r W h)
  have HE3 := Lib.hid (fun W h => euR_impl s (l + 1) x y z W h)
  generalize euR a (lfR a p q r u).1 p q r = E1 at *
  generalize euR a ((lfR a p q r u).1 - 1) p q r = E2 at *
  generalize euR s (l + 1) x y z = E3 at *
  generalize euR s l x y z = E0 at *
  generalize lfR a p q r u = F0 at *
  generalize teR x y z = T0 at *
  obtain ⟨f1, f2⟩ := F0
  obtain ⟨t1, t2⟩ := T0
  obtain ⟨m1, m2⟩ := E0
  obtain ⟨u1, u2⟩ := E1
  obtain ⟨v1, v2⟩ := E2
  obtain ⟨y1, y2⟩ := E3
  simp only at HP HQ HA HE1 HE2 HE3
  unfold LenN at hl
  have F := L8
  obtain ⟨-, ⟨l1, z1⟩, -⟩ := F
  go_wp2_with fail
  clear l1 z1
  refine (HA.out _).mono ?_
  rintro e w9 ⟨rfl, hg⟩
  have G9 := G8.trans hg
  have L9 := L8.gr hg
  clear L8 G8 hg
  rcases HP.out with hp | ⟨rfl, ⟨hp1, hp2⟩, rfl, hp4, hp5⟩
  · clear HP
    rcases HQ.out with hq | ⟨rfl, rfl | ⟨hq1, hq2, rfl, hq3⟩⟩
    · clear HQ
      go_wp2_with fail
      go_ret
      exact ⟨rfl, G9.below⟩
    · clear HQ hl
      go_wp2_with fail
      go_ret
      exact ⟨rfl, G9.below⟩
    · clear HQ
      have F := L9
      obtain ⟨-, ⟨l1, z1⟩, -⟩ := F
      go_wp2_with fail
      clear l1 z1
      refine (HE3.out _ (HD.out.gr G9)).mono ?_
      rintro e w10 ⟨rfl, hg⟩
      have G10 := G9.trans hg
      have L10 := L9.gr hg
      clear L9 G9 hg
      go_wp2_with fail
      go_ret
      first
        | exact ⟨rfl, G10.below⟩
        | exact ⟨ret_bool (decide_eq_true hq3), G10.below⟩
  · clear HP
    have F := L9
    obtain ⟨⟨l0, z0⟩, -⟩ := F
    go_wp2_with fail
    clear l0 z0
    refine (HE1.out _ (HD.out.gr G9)).mono ?_
    rintro e w10 ⟨rfl, hg⟩
    have G10 := G9.trans hg
    have L10 := L9.gr hg
    clear L9 G9 hg
    by_cases h1 : 1 < f1
    · obtain ⟨rfl, hp6⟩ := hp5 h1
      have F := L10
      obtain ⟨⟨l0, z0⟩, -⟩ := F
      go_wp2_with fail
      clear l0 z0
      refine (HE2.out _ (HD.out.gr G10)).mono ?_
      rintro e w11 ⟨rfl, hg⟩
      have G11 := G10.trans hg
      have L11 := L10.gr hg
      clear L10 G10 hg
      rcases HQ.out with hq | ⟨rfl, rfl | ⟨hq1, hq2, rfl, hq3⟩⟩
      · clear HQ
        go_wp2_with fail
        go_ret
        exact ⟨rfl, G11.below⟩
      · clear HQ hl
        go_wp2_with fail
        go_ret
        exact ⟨rfl, G11.below⟩
      · clear HQ
        have F := L11
        obtain ⟨-, ⟨l1, z1⟩, -⟩ := F
        go_wp2_with fail
        clear l1 z1
        refine (HE3.out _ (HD.out.gr G11)).mono ?_
        rintro e w12 ⟨rfl, hg⟩
        have G12 := G11.trans hg
        have L12 := L11.gr hg
        clear L11 G11 hg
        go_wp2_with fail
        go_ret
        first
          | exact ⟨rfl, G12.below⟩
          | exact ⟨ret_bool (decide_eq_true hq3), G12.below⟩
    · clear hp5
      rcases HQ.out with hq | ⟨rfl, rfl | ⟨hq1, hq2, rfl, hq3⟩⟩
      · clear HQ
        go_wp2_with fail
        go_ret
        exact ⟨rfl, G10.below⟩
      · clear HQ hl
        go_wp2_with fail
        go_ret
        exact ⟨rfl, G10.below⟩
      · clear HQ
        have F := L10
        obtain ⟨-, ⟨l1, z1⟩, -⟩ := F
        go_wp2_with fail
        clear l1 z1
        refine (HE3.out _ (HD.out.gr G10)).mono ?_
        rintro e w11 ⟨rfl, hg⟩
        have G11 := G10.trans hg
        have L11 := L10.gr hg
        clear L10 G10 hg
        go_wp2_with fail
        go_ret
        first
          | exact ⟨rfl, G11.below⟩
          | exact ⟨ret_bool (decide_eq_true hq3), G11.below⟩

set_option maxHeartbeats 4000000 in
set_option maxRecDepth 100000 in
theorem walk (w : World) (hL : laidMet Tryd.prog Rows.fnErrorsRow.laid w) (A0 : Option Addr) (n0 c0 : Nat) (hB0 : Bytes w w.heap.size A0 n0) :
    Calls Tryd.prog 4 #[.slice A0 n0 c0] w (LawDone w) := by
  have hD := dcsl hL
  clear hL
  by_cases hbig : 4096 < n0
  · have hd : decide ((4096 : Int) < n0) = true := by simp; omega
    go_enter Tryd.func4, Tryd.ntmps4
    go_wp2_with fail
    refine (big_any A0 n0 c0 w).mono ?_
    rw [hd]
    rintro e w1 ⟨rfl, rfl⟩
    go_wp2_with fail
    go_ret
    exact ⟨rfl, Below.refl _ _⟩
  · exact walk1 w hD A0 n0 c0 hB0 hbig

set_option maxRecDepth 100000 in
theorem lifted (os : Os) (started : os.Started) (H : Type) (enc : TypeId × Value → H) :
    ReturnsInHanded {} Tryd.checked os 4 .any (fun w args => (Rows.fnErrorsSpec.pre enc Tryd.prog Tryd.f4 Rows.fnErrorsRow.domain false w args ∧ laidMetH Tryd.prog Rows.fnErrorsRow.laid w) ∧ sizedMet enc Tryd.prog Tryd.f4 (OpenSpec.ofChange Rows.fnErrorsSpec) false w args) (Rows.fnErrorsSpec.post enc Tryd.prog Tryd.f4 false true false false) := by
  refine returnsInHanded_of_change_and (C := Tryd.checked) (X := fun w _ => laidMetH Tryd.prog Rows.fnErrorsRow.laid w) (fun _ _ _ hh h => h.of_heap hh) own started (by kernel_rfl) Tryd.func4
    (ChangeSpec.witness_shaped (enc := enc) (C := Tryd.checked) (os := os) (X := fun w _ => laidMetH Tryd.prog Rows.fnErrorsRow.laid w) false (World.laidAll Tryd.prog os Rows.fnErrorsRow.laid) #[.slice none 0 0] 8 (World.laidAll_os _ _ _)
      (World.shaped_of_ZipB (by kernel_rfl) (by kernel_rfl)) (by kernel_rfl) (by kernel_rfl) (by kernel_rfl)
      (by rw [MakeChecks.laidMetH_plain _ _ _ (by kernel_rfl)]; exact laidMet_laidAll _ (by kernel_rfl) (by kernel_rfl))) ?_
  intro W base args ds gs before hval0 hW _ _ hL _
  rw [MakeChecks.laidMetH_plain _ _ _ (by kernel_rfl)] at hL
  have hval : ∀ (j : Nat) t v, Tryd.f4.params[j]? = some t → args[j]? = some v → Value.okWide Tryd.prog W .any base t v := hval0
  have hW' := hW
  obtain ⟨p, q, hA0, hV, hpq, hfz, hnd⟩ := hW
  have hA : DataW.TrodAll enc Tryd.prog W 0 (fun _ => true) true Tryd.f4.params.toList args.toList ds p := hA0
  have hT := hA
  obtain ⟨g1, rfl⟩ := vars_one hV
  rw [Tryd.params4] at hA hval
  obtain ⟨v0, vs0, d0, ds0, p0, q0, hargs, rfl, rfl, h0, r0⟩ := trodAll_cons hA
  obtain ⟨rfl, rfl, rfl⟩ := trodAll_nil r0
  obtain rfl : args = #[v0] := by cases args; simp_all
  obtain ⟨A0, n0, c0, rfl, -, hB0⟩ := open_code Tryd.underlying22 Tryd.underlying5 (by kernel_rfl) (hval 0 22 v0 rfl rfl) h0
  clear hA0 hval0
  refine (walk W hL A0 n0 c0 hB0).mono fun e W' ⟨he, hb⟩ => ?_
  subst he
  exact ⟨_, rfl, law_postv laidOut hW' hT hpq (by kernel_rfl) (by kernel_rfl) hV rfl rfl rfl rfl Tryd.underlying4 hb⟩

theorem over : Rows.fnErrorsRow.holds Tryd.pinned (OpenSpec.ofChange Rows.fnErrorsSpec) :=
  OpenClaim.holds_of_wide 4 Tryd.f4 rfl rfl rfl rfl rfl rfl rfl ⟨rfl, rfl, rfl, rfl, rfl⟩ rfl rfl rfl rfl rfl (by kernel_rfl) Tryd.func4 (by kernel_rfl)
    (of_decide_eq_true (by kernel_rfl)) (by unfold Func.isWrapper; first | (rw [if_pos (by decide +kernel)]; kernel_rfl) | (rw [if_neg (by decide +kernel)]; exact ⟨rfl, rfl⟩))
    (fun os started H enc _ => lifted os started H enc)

theorem proved : Rows.FnErrorsCardSaid :=
  Claim7.holds_tied_plain_at .later [] Rows.fnErrorsCard.laidKinds true Rows.fnErrorsCard.stood.harness Rows.fnErrorsCard.stood.looks
    over (fun _ h => by cases h) (by kernel_rfl) (fun _ h => by cases h) fnErrors_row_tie rfl ⟨rfl, rfl⟩ (by kernel_rfl) rfl
    (fun f fn hf hfn => by
      obtain rfl : f = 4 := Option.some.inj ((show Tryd.prog.funcNamed Rows.fnErrorsRow.func = some 4 by kernel_rfl).symm.trans hf) |>.symm
      obtain rfl : fn = Tryd.f4 := (Option.some.inj (Tryd.func4.symm.trans hfn)).symm
      exact ⟨by kernel_rfl, fun j t ht => by
        rw [Tryd.params4] at ht
        have hm : t ∈ [22] := by simpa using Array.mem_of_getElem? ht
        have hall : ([22].all fun u => !Tryd.prog.wantsStandIn u) = true := by kernel_rfl
        exact (show Tryd.prog.wantsStandIn t = false by simpa using List.all_eq_true.1 hall t hm)⟩)
    (by kernel_rfl)
end Go.Proofs.YtdbeedfapkfibaaDoor.fnErrors
