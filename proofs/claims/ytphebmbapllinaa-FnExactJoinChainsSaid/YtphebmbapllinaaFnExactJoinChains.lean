/- For every two lists of terms and either kind of joining the program's JoinChains answers as the model does, leaves its arguments as they were and answers so again when the first answer was written over, and the law returns true. No condition. -/
import Derived.Test.YtphebmbapllinaaC13d
import Derived.Test.YtphebmbapllinaaCT
import Derived.Test.YtphebmbapllinaaFF
import Derived.Test.YtphebmbapllinaaRows
import Derived.WalkKit
import Derived.ProofKit
import Derived.OpenShut
namespace Go.Proofs.Ytphebmbapllinaa.fnExactJoinChains
open Go.ChangeShapes Go.WideShapes Go.ChangeAt Go.RowKit
set_option linter.unusedVariables false
set_option linter.unusedSimpArgs false

theorem own : ownKnob Try.prog.godebug = none := by kernel_rfl

theorem FnExactJoinChains_len (ms mse : List Tm) (b : Bool) : (joR ms mse b).1.length ≤ 6 := by
  unfold joR
  split
  · rename_i h
    show (joL ms mse b).length ≤ 6
    rw [joL_len]
    unfold joC at h
    split at h
    · omega
    split at h
    · omega
    · omega
  · simp


set_option maxHeartbeats 4000000 in
set_option maxRecDepth 100000 in
theorem walk (w : World) (M : Option Addr) (p cp : Nat) (ms : List Tm) (hml : ms.length = p) (hM : Reads w w.heap.size M (tcells ms)) (hpM : p ≤ maxLen) (Me : Option Addr) (pe cpe : Nat) (mse : List Tm) (hmle : mse.length = pe) (hMe : Reads w w.heap.size Me (tcells mse)) (hpMe : pe ≤ maxLen) (a2 : Bool) :
    Calls Try.prog 11 #[.slice M p cp, .slice Me pe cpe, .bool a2] w (LawDone w) := by
  unfold maxLen at hpM hpMe
  by_cases hb : p ≤ 1048576
  rotate_left
  · have hsz := szTerms_any M p cp 1048576 w (by unfold maxLen; omega) (by omega) (by omega)
    rw [if_pos (by omega)] at hsz
    go_enter Try.func11, Try.ntmps11
    go_wp2_with fail
    refine hsz.mono ?_
    rintro e w' ⟨rfl, rfl⟩
    go_wp2_with fail
    ((try simp only [Exit.inBlock, Exit.then]); refine bodyPost_ret (v := .bool true) (by simp [results, Try.results11, go_sem]) rfl ?_)
    exact ⟨rfl, Below.refl _ _⟩
  have hsz := szTerms_any M p cp 1048576 w (by unfold maxLen; omega) (by omega) (by omega)
  rw [if_neg (by omega)] at hsz
  have hl0 : ((1048576 : Int) - p < 0) = False := by simp; omega
  by_cases hbe : p + pe ≤ 1048576
  rotate_left
  · have hsze := szTerms_any Me pe cpe (1048576 - p) w (by unfold maxLen; omega) (by omega) (by omega)
    rw [if_pos (by omega)] at hsze
    go_enter Try.func11, Try.ntmps11
    go_wp2_with fail
    refine hsz.mono ?_
    rintro e w' ⟨rfl, rfl⟩
    go_wp2_with fail
    refine hsze.mono ?_
    rintro e w' ⟨rfl, rfl⟩
    go_wp2_with fail
    ((try simp only [Exit.inBlock, Exit.then]); refine bodyPost_ret (v := .bool true) (by simp [results, Try.results11, go_sem]) rfl ?_)
    exact ⟨rfl, Below.refl _ _⟩
  have hsze := szTerms_any Me pe cpe (1048576 - p) w (by unfold maxLen; omega) (by omega) (by omega)
  rw [if_neg (by omega)] at hsze
  have hl1 : ((1048576 : Int) - p - pe < 0) = False := by simp; omega
  have hpe1 : pe ≤ 1048576 := by omega
  have HN := Lib.hid hml
  have HNe := Lib.hid hmle
  have HS := Lib.hid (fun (b : Nat) (be : Nat) W h he => jo_spec (some ⟨b, 0, none⟩) p p (some ⟨be, 0, none⟩) pe pe ms mse a2 W hml (by omega) hmle (by omega) h he)
  have HI := Lib.hid (fun (b : Nat) (be : Nat) W h he => jo_impl (some ⟨b, 0, none⟩) p p (some ⟨be, 0, none⟩) pe pe ms mse a2 W hml (by omega) hmle (by omega) h he)
  have hlen := FnExactJoinChains_len ms mse a2
  unfold LsT at HS HI
  clear hml hmle
  generalize hRR : joR ms mse a2 = R at *
  clear hRR
  obtain ⟨L, cd⟩ := R
  simp only at HS HI hlen
  go_enter Try.func11, Try.ntmps11
  go_wp2_with fail
  refine hsz.mono ?_
  rintro e w' ⟨rfl, rfl⟩
  clear hsz
  go_wp2_with fail
  refine hsze.mono ?_
  rintro e w' ⟨rfl, rfl⟩
  clear hsze
  go_wp2_with fail
  refine (toTerms_any M p cp ms w HN.out hb hM).mono ?_
  rintro e w1a ⟨b1a, rfl, hb1a, hr1a, hl1a⟩
  have hbl1a := hr1a.lt
  rw [HN.out]
  have hW1a := hl1a
  have hs1a := hl1a.size
  go_wp2_with fail
  refine (toTerms_any Me pe cpe mse w1a HNe.out hpe1 (hMe.below hW1a)).mono ?_
  rintro e w1b ⟨b1b, rfl, hb1b, hr1b, hl1b⟩
  have hbl1b := hr1b.lt
  rw [HNe.out]
  replace hr1a := hr1a.below hl1b hr1a.lt
  have hW1b := hW1a.trans ((hl1b).mono hW1a.size)
  have hs1b := hl1b.size
  go_wp2_with fail
  refine (HS.out b1a b1b w1b hr1a.reads hr1b.reads).mono ?_
  rintro e w2 ⟨⟨u, rfl, hu⟩, hd2⟩
  have hs2 := hd2.size
  replace hr1a := hr1a.below hd2 hr1a.lt
  replace hr1b := hr1b.below hd2 hr1b.lt
  have hW2 := hW1b.trans ((hd2).mono hW1b.size)
  have hubu := fun g e => World.ownsRow.lt hu g e
  go_wp2_with fail
  refine (toTerms_any M p cp ms w2 HN.out hb (hM.below hW2)).mono ?_
  rintro e w3a ⟨b3a, rfl, hb3a, hr3a, hl3a⟩
  have hbl3a := hr3a.lt
  rw [HN.out]
  replace hu := LstG.below hu hl3a
  have hW3a := hW2.trans ((hl3a).mono hW2.size)
  have hs3a := hl3a.size
  go_wp2_with fail
  refine (toTerms_any Me pe cpe mse w3a HNe.out hpe1 (hMe.below hW3a)).mono ?_
  rintro e w3b ⟨b3b, rfl, hb3b, hr3b, hl3b⟩
  have hbl3b := hr3b.lt
  rw [HNe.out]
  replace hu := LstG.below hu hl3b
  replace hr3a := hr3a.below hl3b hr3a.lt
  have hW3b := hW3a.trans ((hl3b).mono hW3a.size)
  have hs3b := hl3b.size
  go_wp2_with fail
  refine (HI.out b3a b3b w3b hr3a.reads hr3b.reads).mono ?_
  rintro e w4 ⟨⟨v, rfl, hv⟩, hd4⟩
  have hs4 := hd4.size
  replace hu := LstG.below hu hd4
  replace hr3a := hr3a.below hd4 hr3a.lt
  replace hr3b := hr3b.below hd4 hr3b.lt
  have hW4 := hW3b.trans ((hd4).mono hW3b.size)
  have hubv := fun g e => World.ownsRow.lt hv g e
  go_wp2_with fail
  refine (eqTermsLst_any v u L _ _ w4 hv hu (by omega)).mono ?_
  rintro e w5 ⟨rfl, hg5⟩
  have hs5 := hg5.below.size
  replace hu := LstG.below hu hg5.below
  replace hr3a := hr3a.below hg5.below hr3a.lt
  replace hr3b := hr3b.below hg5.below hr3b.lt
  replace hv := LstG.below hv hg5.below
  have hW5 := hW4.trans ((hg5.below).mono hW4.size)
  go_wp2_with fail
  refine (toTerms_any M p cp ms w5 HN.out hb (hM.below hW5)).mono ?_
  rintro e w6a ⟨b6a, rfl, hb6a, hr6a, hl6a⟩
  have hbl6a := hr6a.lt
  rw [HN.out]
  replace hu := LstG.below hu hl6a
  replace hr3a := hr3a.below hl6a hr3a.lt
  replace hr3b := hr3b.below hl6a hr3b.lt
  replace hv := LstG.below hv hl6a
  have hW6a := hW5.trans ((hl6a).mono hW5.size)
  have hs6a := hl6a.size
  go_wp2_with fail
  refine (eqTerms_same _ _ p p p ms w6a HN.out (by omega) hr3a.reads hr6a.reads).mono ?_
  rintro e w7a ⟨rfl, hg7a⟩
  have hs7a := hg7a.below.size
  replace hu := LstG.below hu hg7a.below
  replace hr3a := hr3a.below hg7a.below hr3a.lt
  replace hr3b := hr3b.below hg7a.below hr3b.lt
  replace hv := LstG.below hv hg7a.below
  replace hr6a := hr6a.below hg7a.below hr6a.lt
  have hW7a := hW6a.trans ((hg7a.below).mono hW6a.size)
  go_wp2_with fail
  refine (toTerms_any Me pe cpe mse w7a HNe.out hpe1 (hMe.below hW7a)).mono ?_
  rintro e w6b ⟨b6b, rfl, hb6b, hr6b, hl6b⟩
  have hbl6b := hr6b.lt
  rw [HNe.out]
  replace hu := LstG.below hu hl6b
  replace hr3a := hr3a.below hl6b hr3a.lt
  replace hr3b := hr3b.below hl6b hr3b.lt
  replace hv := LstG.below hv hl6b
  have hW6b := hW7a.trans ((hl6b).mono hW7a.size)
  have hs6b := hl6b.size
  go_wp2_with fail
  refine (eqTerms_same _ _ pe pe pe mse w6b HNe.out (by omega) hr3b.reads hr6b.reads).mono ?_
  rintro e w7b ⟨rfl, hg7b⟩
  have hs7b := hg7b.below.size
  replace hu := LstG.below hu hg7b.below
  replace hr3a := hr3a.below hg7b.below hr3a.lt
  replace hr3b := hr3b.below hg7b.below hr3b.lt
  replace hv := LstG.below hv hg7b.below
  replace hr6b := hr6b.below hg7b.below hr6b.lt
  have hW7b := hW6b.trans ((hg7b.below).mono hW6b.size)
  go_wp2_with fail
  refine (markTermsRow_0 b3a p p ms w7b HN.out (by omega) hr3a).mono ?_
  rintro e w8a ⟨rfl, hd8a⟩
  have hs8a := hd8a.size
  replace hu := LstG.keepT hu (fun g e hg => hd8a.block g hg (by have := hubu g e; omega))
  replace hv := LstG.keepT hv (fun g e hg => hd8a.block g hg (by have := hubv g e; omega))
  replace hr3b : Row w8a b3b 64 (tcells mse) := (hd8a.block b3b hr3b.lt (by omega)).trans hr3b
  have hW8a := hW7b.trans (hd8a.below (show w.heap.size ≤ b3a by omega) hW7b.size)
  go_wp2_with fail
  refine (markTermsRow_j b3b pe pe p mse w8a HNe.out (by omega) (by omega) hr3b).mono ?_
  rintro e w8b ⟨rfl, hd8b⟩
  have hs8b := hd8b.size
  replace hu := LstG.keepT hu (fun g e hg => hd8b.block g hg (by have := hubu g e; omega))
  replace hv := LstG.keepT hv (fun g e hg => hd8b.block g hg (by have := hubv g e; omega))
  have hW8b := hW8a.trans (hd8b.below (show w.heap.size ≤ b3b by omega) hW8a.size)
  go_wp2_with fail
  refine (eqTermsLst_any v u L _ _ w8b hv hu (by omega)).mono ?_
  rintro e w9 ⟨rfl, hg9⟩
  have hs9 := hg9.below.size
  replace hu := LstG.below hu hg9.below
  replace hv := LstG.below hv hg9.below
  have hW9 := hW8b.trans ((hg9.below).mono hW8b.size)
  go_wp2_with fail
  refine (markTermsLst_0 v L w3b.heap.size w9 hv (by omega) (by omega)).mono ?_
  rintro e wa ⟨rfl, hva, hba⟩
  have hsa := hba.size
  replace hu := LstG.keepT hu (fun g e hg => hba.block g (by have := hubu g e; omega))
  have hWa := hW9.trans (hba.mono (by omega))
  clear hv
  go_wp2_with fail
  refine (heldTermsLst_0 v L.length _ wa hva (by omega)).mono ?_
  rintro e wb ⟨rfl, rfl⟩
  go_wp2_with fail
  refine (toTerms_any M p cp ms wa HN.out hb (hM.below hWa)).mono ?_
  rintro e wca ⟨bca, rfl, hbca, hrca, hlca⟩
  have hblca := hrca.lt
  rw [HN.out]
  replace hu := LstG.below hu hlca
  replace hva := LstG.below hva hlca
  have hWca := hWa.trans ((hlca).mono hWa.size)
  have hsca := hlca.size
  go_wp2_with fail
  refine (toTerms_any Me pe cpe mse wca HNe.out hpe1 (hMe.below hWca)).mono ?_
  rintro e wcb ⟨bcb, rfl, hbcb, hrcb, hlcb⟩
  have hblcb := hrcb.lt
  rw [HNe.out]
  replace hu := LstG.below hu hlcb
  replace hva := LstG.below hva hlcb
  replace hrca := hrca.below hlcb hrca.lt
  have hWcb := hWca.trans ((hlcb).mono hWca.size)
  have hscb := hlcb.size
  go_wp2_with fail
  refine (HI.out bca bcb wcb hrca.reads hrcb.reads).mono ?_
  rintro e wd ⟨⟨v2, rfl, hv2⟩, hdd⟩
  have hsd := hdd.size
  replace hu := LstG.below hu hdd
  replace hva := LstG.below hva hdd
  replace hrca := hrca.below hdd hrca.lt
  replace hrcb := hrcb.below hdd hrcb.lt
  have hWd := hWcb.trans ((hdd).mono hWcb.size)
  have hubv2 := fun g e => World.ownsRow.lt hv2 g e
  go_wp2_with fail
  refine (eqTermsLst_any v2 u L _ _ wd hv2 hu (by omega)).mono ?_
  rintro e we ⟨rfl, hge⟩
  have hse := hge.below.size
  replace hu := LstG.below hu hge.below
  replace hva := LstG.below hva hge.below
  replace hv2 := LstG.below hv2 hge.below
  have hWe := hWd.trans ((hge.below).mono hWd.size)
  go_wp2_with fail
  refine (heldTermsLst_0 v L.length _ we hva (by omega)).mono ?_
  rintro e wf ⟨rfl, rfl⟩
  go_wp2_with fail
  go_ret
  exact ⟨rfl, hWe⟩

set_option maxRecDepth 100000 in
theorem lifted (os : Os) (started : os.Started) (H : Type) (enc : TypeId × Value → H) :
    ReturnsInHanded {} Try.checked os 11 .any (Rows.fnExactJoinChainsSpec.pre6 enc Try.prog Try.f11 Rows.fnExactJoinChainsRow.domain false) (Rows.fnExactJoinChainsSpec.post enc Try.prog Try.f11 false true false false) := by
  refine returnsInHanded_of_change (C := Try.checked) own started (by kernel_rfl) Try.func11
    (ChangeSpec.witness6 (enc := enc) (C := Try.checked) false ⟨#[], #[.slice none 0 0, .slice none 0 0, .bool false], []⟩ 8 (by kernel_rfl) (by kernel_rfl) (by kernel_rfl) (by kernel_rfl)) ?_
  intro W base args ds gs before hval0 hW hcnd _
  have hval : ∀ (j : Nat) t v, Try.f11.params[j]? = some t → args[j]? = some v → Value.okWide Try.prog W .any base t v := hval0
  have hW' := hW
  obtain ⟨p, q, hA0, hV, hpq, hfz, hnd⟩ := hW
  have hA : DataW.TrodAll enc Try.prog W 0 (fun _ => true) true Try.f11.params.toList args.toList ds p := hA0
  have hT := hA
  obtain ⟨rfl, rfl⟩ := trodVars_none hV
  rw [Try.params11] at hA hval
  obtain ⟨v0, vs0, d0, ds0, p0, q0, hargs, rfl, rfl, h0, r0⟩ := trodAll_cons hA
  obtain ⟨v1, vs1, d1, ds1, p1, q1, rfl, rfl, rfl, h1, r1⟩ := trodAll_cons r0
  obtain ⟨v2, vs2, d2, ds2, p2, q2, rfl, rfl, rfl, h2, r2⟩ := trodAll_cons r1
  obtain ⟨rfl, rfl, rfl⟩ := trodAll_nil r2
  obtain rfl : args = #[v0, v1, v2] := by cases args; simp_all
  obtain ⟨M, p, cp, ms, rfl, hml, hM, hpM⟩ := open_t3 Try.underlying49 Try.underlying83 Try.underlying81 (by kernel_rfl) rfl rfl rfl rfl Try.underlying4 Try.underlying2 Try.underlying2 (by kernel_rfl) (by kernel_rfl) (by kernel_rfl) (by kernel_rfl) (hval 0 49 v0 rfl rfl) h0
  obtain ⟨Me, pe, cpe, mse, rfl, hmle, hMe, hpMe⟩ := open_t3 Try.underlying49 Try.underlying83 Try.underlying81 (by kernel_rfl) rfl rfl rfl rfl Try.underlying4 Try.underlying2 Try.underlying2 (by kernel_rfl) (by kernel_rfl) (by kernel_rfl) (by kernel_rfl) (hval 1 49 v1 rfl rfl) h1
  obtain ⟨a2, rfl, -, -⟩ := open_bool Try.underlying4 (hval 2 4 v2 rfl rfl) h2
  clear hA0 hval0
  refine (walk W M p cp ms hml hM hpM Me pe cpe mse hmle hMe hpMe a2).mono fun e W' ⟨he, hb⟩ => ?_
  subst he
  exact ⟨_, rfl, law_post laidOut hW' hT hpq (by kernel_rfl) (fun _ _ => rfl) rfl rfl rfl Try.underlying4 hb⟩

theorem over : Rows.fnExactJoinChainsRow.holds Try.pinned (OpenSpec.ofChange Rows.fnExactJoinChainsSpec) :=
  OpenClaim.holds_of_wide 11 Try.f11 rfl rfl rfl rfl rfl rfl rfl ⟨rfl, rfl, rfl, rfl, rfl⟩ rfl rfl rfl rfl rfl (by kernel_rfl) Try.func11 (by kernel_rfl)
    (of_decide_eq_true (by kernel_rfl)) (by unfold Func.isWrapper; first | (rw [if_pos (by decide +kernel)]; kernel_rfl) | (rw [if_neg (by decide +kernel)]; exact ⟨rfl, rfl⟩))
    (fun os started H enc _ => lifted os started H enc)

theorem proved : Rows.FnExactJoinChainsSaid :=
  over
end Go.Proofs.Ytphebmbapllinaa.fnExactJoinChains
