/- For every list of parts and every four numbers the program's TicksOf answers as the model does, leaves its argument as it was and answers so again when the first answer was written over, and the law returns true. No condition beyond the tables as the program's text lays them. -/
import Derived.Test.YtggflladheemoaaDoor8A
import Derived.Test.YtggflladheemoaaDoorDt
import Derived.Test.YtggflladheemoaaDoorDr
import Derived.Test.YtggflladheemoaaDoorTie
import Derived.Test.YtggflladheemoaaDoorCards
import Derived.Test.YtggflladheemoaaDoorFr
import Derived.Test.YtggflladheemoaaDoorFv
import Derived.Test.YtggflladheemoaaDoorRows
import Derived.WalkKit
import Derived.ProofKit
import Derived.OpenShut
namespace Go.Proofs.YtggflladheemoaaDoor.fnExactTicksOf
open Go.ChangeShapes Go.WideShapes Go.ChangeAt Go.RowKit
set_option linter.unusedVariables false
set_option linter.unusedSimpArgs false

theorem own : ownKnob Tryd.prog.godebug = none := by kernel_rfl

theorem dcsl {w : World} (hL : laidMet Tryd.prog Rows.fnExactTicksOfRow.laid w) : Dcs w := by
  have h := hL.filter (fun x => x.1 == "loop.example/g00951/impl.scaleDecades")
  have e : Rows.fnExactTicksOfRow.laid.filter (fun x => x.1 == "loop.example/g00951/impl.scaleDecades") = [("loop.example/g00951/impl.scaleDecades", Lib.tabData .i64 [1, 2, 3, 1, 1, 1])] := by rfl
  rw [e] at h
  exact dcs_of (Lib.tabIs_of_head (g := 5) (by kernel_rfl) (by kernel_rfl) Tryd.underlying245 Tryd.underlying2 (by kernel_rfl) (by kernel_rfl) h)

theorem htsl {w : World} (hL : laidMet Tryd.prog Rows.fnExactTicksOfRow.laid w) : Hts w := by
  have h := hL.filter (fun x => x.1 == "loop.example/g00951/impl.heightSteps")
  have e : Rows.fnExactTicksOfRow.laid.filter (fun x => x.1 == "loop.example/g00951/impl.heightSteps") = [("loop.example/g00951/impl.heightSteps", Lib.tabData .i64 [1, 50, 100, 500, 1000])] := by rfl
  rw [e] at h
  exact hts_of (Lib.tabIs_of_head (g := 2) (by kernel_rfl) (by kernel_rfl) Tryd.underlying175 Tryd.underlying2 (by kernel_rfl) (by kernel_rfl) h)

theorem toL_len (zs : List P3) (s l f t : Int) : (toL zs s l f t).length ≤ 150 := by
  unfold toL
  split
  · rename_i h
    rw [toF_len]
    unfold toE at h
    split at h
    · omega
    split at h
    · omega
    split at h
    · omega
    · omega
  · simp


set_option maxHeartbeats 4000000 in
set_option maxRecDepth 100000 in
theorem walk (w : World) (hL : laidMet Tryd.prog Rows.fnExactTicksOfRow.laid w) (A0 : Option Addr) (n0 c0 : Nat) (zs0 : List P3) (hn0 : zs0.length = n0) (hR0 : Reads w w.heap.size A0 (cells3 zs0)) (hW0 : ∀ z ∈ zs0, (Lit.int .i64 z.1).wf = true ∧ (Lit.int .i64 z.2.1).wf = true ∧ (Lit.int .i64 z.2.2).wf = true) (hM0 : n0 ≤ maxLen) (a1 : Int) (wf1 : (Lit.int .i64 a1).wf = true) (a2 : Int) (wf2 : (Lit.int .i64 a2).wf = true) (a3 : Int) (wf3 : (Lit.int .i64 a3).wf = true) (a4 : Int) (wf4 : (Lit.int .i64 a4).wf = true) :
    Calls Tryd.prog 9 #[.slice A0 n0 c0, .int .i64 a1, .int .i64 a2, .int .i64 a3, .int .i64 a4] w (LawDone w) := by
  have HDC := Lib.hid (dcsl hL)
  have HHT := Lib.hid (htsl hL)
  clear hL
  unfold maxLen at hM0
  by_cases hb : n0 ≤ 1048576
  rotate_left
  · go_enter Tryd.func9, Tryd.ntmps9
    go_wp2_with fail
    refine (szParts_no A0 n0 c0 _ hb (by omega)).mono ?_
    rintro e w' ⟨rfl, rfl⟩
    go_wp2_with fail
    ((try simp only [Exit.inBlock, Exit.then]); refine bodyPost_ret (v := .bool true) (by simp [results, Tryd.results9, go_sem]) rfl ?_)
    exact ⟨rfl, Below.refl _ _⟩
  have HN := Lib.hid hn0
  have HS := Lib.hid (fun (b : Nat) (W : World) (h : Row W b 39 (cells3 zs0)) => to_spec (some ⟨b, 0, none⟩) n0 n0 zs0 a1 a2 a3 a4 W HN.out (by omega) h.reads)
  have HI := Lib.hid (fun (b : Nat) (W : World) (h : Row W b 39 (cells3 zs0)) (hg : Below w.heap.size w W) => to_impl (some ⟨b, 0, none⟩) n0 n0 zs0 a1 a2 a3 a4 W (HDC.out.blw hg) (HHT.out.blw hg) HN.out (by omega) h.reads hW0)
  have hlen := toL_len zs0 a1 a2 a3 a4
  clear hn0 hW0
  generalize toL zs0 a1 a2 a3 a4 = L at *
  generalize toE zs0 a1 a2 a3 a4 = cd at *
  go_enter Tryd.func9, Tryd.ntmps9
  go_wp2_with (go_at_call 67; refine (szParts_ok A0 n0 c0 _ hb).mono ?_; rintro e w' ⟨rfl, rfl⟩)
  refine (toParts_any A0 n0 c0 zs0 w HN.out hb hR0).mono ?_
  rintro e w1 ⟨b1, rfl, hb1, hr1, hl1⟩
  rw [HN.out]
  go_wp2_with fail
  refine (HS.out b1 w1 hr1).mono ?_
  rintro e w2 ⟨⟨u, rfl, hu⟩, hd2⟩
  replace hu : Lst3 60 w2 w1.heap.size u L := hu
  have hW2 := hl1.trans (hd2.mono hl1.size)
  have hub := fun g e => (World.ownsRow.lt hu g e).2
  go_wp2_with fail
  refine (toParts_any A0 n0 c0 zs0 w2 HN.out hb (hR0.below hW2)).mono ?_
  rintro e w3 ⟨b3, rfl, hb3, hr3, hl3⟩
  have hb3' := hr3.lt
  replace hu := Lst3.below hu hl3
  have hW3 := hW2.trans (hl3.mono hW2.size)
  rw [HN.out]
  go_wp2_with fail
  refine (HI.out b3 w3 hr3 hW3).mono ?_
  rintro e w4 ⟨⟨v, rfl, hv⟩, hd4⟩
  replace hv : Lst3 60 w4 w3.heap.size v L := hv
  replace hu := Lst3.below hu hd4
  have hr4 := hr3.below hd4 hb3'
  have hW4 := hW3.trans (hd4.mono hW3.size)
  go_wp2_with fail
  refine (eqTicksLst_any v u L _ _ w4 hv hu (by omega)).mono ?_
  rintro e w5 ⟨rfl, hg5⟩
  replace hu := Lst3.below hu hg5.below
  replace hv := Lst3.below hv hg5.below
  have hr5 := hr4.gr hg5
  have hW5 := hW4.trans (hg5.below.mono hW4.size)
  have hZ5 := hd4.trans (hg5.below.mono hd4.size)
  go_wp2_with fail
  refine (toParts_any A0 n0 c0 zs0 w5 HN.out hb (hR0.below hW5)).mono ?_
  rintro e w6 ⟨b6, rfl, hb6, hr6, hl6⟩
  rw [HN.out]
  replace hu := Lst3.below hu hl6
  replace hv := Lst3.below hv hl6
  have hr6' := hr5.below hl6 hr5.lt
  have hW6 := hW5.trans (hl6.mono hW5.size)
  have hZ6 := hZ5.trans (hl6.mono hZ5.size)
  go_wp2_with fail
  refine (eqParts_same _ _ n0 n0 n0 zs0 w6 HN.out (by omega) hr6'.reads hr6.reads).mono ?_
  rintro e w7 ⟨rfl, hg7⟩
  replace hu := Lst3.below hu hg7.below
  replace hv := Lst3.below hv hg7.below
  have hr7 := hr6'.gr hg7
  have hW7 := hW6.trans (hg7.below.mono hW6.size)
  have hZ7 := hZ6.trans (hg7.below.mono hZ6.size)
  go_wp2_with fail
  refine (markParts_any b3 n0 n0 (cells3 zs0) w7 (by rw [cells3_len, HN.out]) (by omega) hr7).mono ?_
  rintro e w8 ⟨rfl, hd8⟩
  have hs3 := hl3.size
  have hvb := fun g e => (World.ownsRow.lt hv g e).1
  replace hu := Lst3.keep hu (fun g e hg => hd8.block g hg (by have := hub g e; omega))
  replace hv := Lst3.keep hv (fun g e hg => hd8.block g hg (by have := hvb g e; omega))
  have hW8 := hW7.trans (hd8.below (show w.heap.size ≤ b3 by have := hW2.size; omega) hW7.size)
  have hZ8 := hZ7.size
  have hs8 := hd8.size
  go_wp2_with fail
  refine (eqTicksLst_any v u L _ _ w8 hv hu (by omega)).mono ?_
  rintro e w9 ⟨rfl, hg9⟩
  replace hu := Lst3.below hu hg9.below
  replace hv := Lst3.below hv hg9.below
  have hW9 := hW8.trans (hg9.below.mono hW8.size)
  have hs9 := hg9.below.size
  go_wp2_with fail
  refine (markTicksLst_any v L w3.heap.size w9 hv (by omega) (by omega)).mono ?_
  rintro e wa ⟨rfl, hva, hba⟩
  replace hu := Lst3.keep hu (fun g e hg => hba.block g (by have := hub g e; omega))
  have hWa := hW9.trans (hba.mono (by have := hW3.size; omega))
  go_wp2_with fail
  refine (heldTicksLst_any v L.length _ wa hva (by omega)).mono ?_
  rintro e wb ⟨rfl, rfl⟩
  go_wp2_with fail
  refine (toParts_any A0 n0 c0 zs0 wa HN.out hb (hR0.below hWa)).mono ?_
  rintro e wc ⟨bc, rfl, hbc, hrc, hlc⟩
  rw [HN.out]
  replace hu := Lst3.below hu hlc
  replace hva := Lst3.below hva hlc
  have hWc := hWa.trans (hlc.mono hWa.size)
  go_wp2_with fail
  refine (HI.out bc wc hrc hWc).mono ?_
  rintro e wd ⟨⟨v2, rfl, hv2⟩, hdd⟩
  replace hv2 : Lst3 60 wd wc.heap.size v2 L := hv2
  replace hu := Lst3.below hu hdd
  replace hva := Lst3.below hva hdd
  have hWd := hWc.trans (hdd.mono hWc.size)
  go_wp2_with fail
  refine (eqTicksLst_any v2 u L _ _ wd hv2 hu (by omega)).mono ?_
  rintro e we ⟨rfl, hge⟩
  replace hva := Lst3.below hva hge.below
  have hWe := hWd.trans (hge.below.mono hWd.size)
  go_wp2_with fail
  refine (heldTicksLst_any v L.length _ we hva (by omega)).mono ?_
  rintro e wf ⟨rfl, rfl⟩
  go_wp2_with fail
  go_ret
  exact ⟨rfl, hWe⟩

set_option maxRecDepth 100000 in
theorem lifted (os : Os) (started : os.Started) (H : Type) (enc : TypeId × Value → H) :
    ReturnsInHanded {} Tryd.checked os 9 .any (fun w args => (Rows.fnExactTicksOfSpec.pre enc Tryd.prog Tryd.f9 Rows.fnExactTicksOfRow.domain false w args ∧ laidMetH Tryd.prog Rows.fnExactTicksOfRow.laid w) ∧ sizedMet enc Tryd.prog Tryd.f9 (OpenSpec.ofChange Rows.fnExactTicksOfSpec) false w args) (Rows.fnExactTicksOfSpec.post enc Tryd.prog Tryd.f9 false true false false) := by
  refine returnsInHanded_of_change_and (C := Tryd.checked) (X := fun w _ => laidMetH Tryd.prog Rows.fnExactTicksOfRow.laid w) (fun _ _ _ hh h => h.of_heap hh) own started (by kernel_rfl) Tryd.func9
    (ChangeSpec.witness_shaped (enc := enc) (C := Tryd.checked) (os := os) (X := fun w _ => laidMetH Tryd.prog Rows.fnExactTicksOfRow.laid w) false (World.laidAll Tryd.prog os Rows.fnExactTicksOfRow.laid) #[.slice none 0 0, .int .i64 0, .int .i64 0, .int .i64 0, .int .i64 0] 8 (World.laidAll_os _ _ _)
      (World.shaped_of_ZipB (by kernel_rfl) (by kernel_rfl)) (by kernel_rfl) (by kernel_rfl) (by kernel_rfl)
      (by rw [MakeChecks.laidMetH_plain _ _ _ (by kernel_rfl)]; exact laidMet_laidAll _ (by kernel_rfl) (by kernel_rfl))) ?_
  intro W base args ds gs before hval0 hW _ _ hL _
  rw [MakeChecks.laidMetH_plain _ _ _ (by kernel_rfl)] at hL
  have hval : ∀ (j : Nat) t v, Tryd.f9.params[j]? = some t → args[j]? = some v → Value.okWide Tryd.prog W .any base t v := hval0
  have hW' := hW
  obtain ⟨p, q, hA0, hV, hpq, hfz, hnd⟩ := hW
  have hA : DataW.TrodAll enc Tryd.prog W 0 (fun _ => true) true Tryd.f9.params.toList args.toList ds p := hA0
  have hT := hA
  obtain ⟨g1, g2, rfl⟩ := vars_two hV
  rw [Tryd.params9] at hA hval
  obtain ⟨v0, vs0, d0, ds0, p0, q0, hargs, rfl, rfl, h0, r0⟩ := trodAll_cons hA
  obtain ⟨v1, vs1, d1, ds1, p1, q1, rfl, rfl, rfl, h1, r1⟩ := trodAll_cons r0
  obtain ⟨v2, vs2, d2, ds2, p2, q2, rfl, rfl, rfl, h2, r2⟩ := trodAll_cons r1
  obtain ⟨v3, vs3, d3, ds3, p3, q3, rfl, rfl, rfl, h3, r3⟩ := trodAll_cons r2
  obtain ⟨v4, vs4, d4, ds4, p4, q4, rfl, rfl, rfl, h4, r4⟩ := trodAll_cons r3
  obtain ⟨rfl, rfl, rfl⟩ := trodAll_nil r4
  obtain rfl : args = #[v0, v1, v2, v3, v4] := by cases args; simp_all
  obtain ⟨A0, n0, c0, zs0, rfl, hn0, hR0, hW0, hM0⟩ := open_p3 Tryd.underlying76 Tryd.underlying149 (by kernel_rfl) rfl rfl rfl Tryd.underlying2 Tryd.underlying2 Tryd.underlying2 (by kernel_rfl) (by kernel_rfl) (by kernel_rfl) (hval 0 76 v0 rfl rfl) h0
  obtain ⟨a1, rfl, -, -, wf1⟩ := open_int Tryd.underlying2 (hval 1 2 v1 rfl rfl) h1
  obtain ⟨a2, rfl, -, -, wf2⟩ := open_int Tryd.underlying2 (hval 2 2 v2 rfl rfl) h2
  obtain ⟨a3, rfl, -, -, wf3⟩ := open_int Tryd.underlying2 (hval 3 2 v3 rfl rfl) h3
  obtain ⟨a4, rfl, -, -, wf4⟩ := open_int Tryd.underlying2 (hval 4 2 v4 rfl rfl) h4
  clear hA0 hval0
  refine (walk W hL A0 n0 c0 zs0 hn0 hR0 hW0 hM0 a1 wf1 a2 wf2 a3 wf3 a4 wf4).mono fun e W' ⟨he, hb⟩ => ?_
  subst he
  exact ⟨_, rfl, law_postv laidOut hW' hT hpq (by kernel_rfl) (by kernel_rfl) hV rfl rfl rfl rfl Tryd.underlying4 hb⟩

theorem over : Rows.fnExactTicksOfRow.holds Tryd.pinned (OpenSpec.ofChange Rows.fnExactTicksOfSpec) :=
  OpenClaim.holds_of_wide 9 Tryd.f9 rfl rfl rfl rfl rfl rfl rfl ⟨rfl, rfl, rfl, rfl, rfl⟩ rfl rfl rfl rfl rfl (by kernel_rfl) Tryd.func9 (by kernel_rfl)
    (of_decide_eq_true (by kernel_rfl)) (by unfold Func.isWrapper; first | (rw [if_pos (by decide +kernel)]; kernel_rfl) | (rw [if_neg (by decide +kernel)]; exact ⟨rfl, rfl⟩))
    (fun os started H enc _ => lifted os started H enc)

theorem proved : Rows.FnExactTicksOfCardSaid :=
  Claim7.holds_tied_plain_at .later [] Rows.fnExactTicksOfCard.laidKinds true Rows.fnExactTicksOfCard.stood.harness Rows.fnExactTicksOfCard.stood.looks
    over (fun _ h => by cases h) (by kernel_rfl) (fun _ h => by cases h) fnExactTicksOf_row_tie rfl ⟨rfl, rfl⟩ (by kernel_rfl) rfl
    (fun f fn hf hfn => by
      obtain rfl : f = 9 := Option.some.inj ((show Tryd.prog.funcNamed Rows.fnExactTicksOfRow.func = some 9 by kernel_rfl).symm.trans hf) |>.symm
      obtain rfl : fn = Tryd.f9 := (Option.some.inj (Tryd.func9.symm.trans hfn)).symm
      exact ⟨by kernel_rfl, fun j t ht => by
        rw [Tryd.params9] at ht
        have hm : t ∈ [76, 2, 2, 2, 2] := by simpa using Array.mem_of_getElem? ht
        have hall : ([76, 2, 2, 2, 2].all fun u => !Tryd.prog.wantsStandIn u) = true := by kernel_rfl
        exact (show Tryd.prog.wantsStandIn t = false by simpa using List.all_eq_true.1 hall t hm)⟩)
    (by kernel_rfl)
end Go.Proofs.YtggflladheemoaaDoor.fnExactTicksOf
