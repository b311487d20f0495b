/- For every list of terms the program's SortTerms answers as the model does, leaves its arguments as they were and answers so again when the first answer was written over, and the law returns true. No condition. -/
import Derived.Test.YtphebmbapllinaaC13g
import Derived.Test.YtphebmbapllinaaCT
import Derived.Test.YtphebmbapllinaaFF
import Derived.Test.YtphebmbapllinaaRows
import Derived.WalkKit
import Derived.ProofKit
import Derived.OpenShut
namespace Go.Proofs.Ytphebmbapllinaa.fnExactSortTerms
open Go.ChangeShapes Go.WideShapes Go.ChangeAt Go.RowKit
set_option linter.unusedVariables false
set_option linter.unusedSimpArgs false

theorem own : ownKnob Try.prog.godebug = none := by kernel_rfl

theorem FnExactSortTerms_len (ms : List Tm) : (soR ms).1.length ≤ 6 := by
  rcases chnB_tf ms with hb | hb
  · rw [soR_ok hb]
    show (soL ms).length ≤ 6
    have h := ((chnB_iff ms).1 hb).1
    rw [soL_len h.1]; exact h.2
  · rw [soR_no hb]; simp


set_option maxHeartbeats 4000000 in
set_option maxRecDepth 100000 in
theorem walk (w : World) (M : Option Addr) (p cp : Nat) (ms : List Tm) (hml : ms.length = p) (hM : Reads w w.heap.size M (tcells ms)) (hpM : p ≤ maxLen) :
    Calls Try.prog 10 #[.slice M p cp] w (LawDone w) := by
  unfold maxLen at hpM
  by_cases hb : p ≤ 1048576
  rotate_left
  · have hsz := szTerms_any M p cp 1048576 w (by unfold maxLen; omega) (by omega) (by omega)
    rw [if_pos (by omega)] at hsz
    go_enter Try.func10, Try.ntmps10
    go_wp2_with fail
    refine hsz.mono ?_
    rintro e w' ⟨rfl, rfl⟩
    go_wp2_with fail
    ((try simp only [Exit.inBlock, Exit.then]); refine bodyPost_ret (v := .bool true) (by simp [results, Try.results10, go_sem]) rfl ?_)
    exact ⟨rfl, Below.refl _ _⟩
  have hsz := szTerms_any M p cp 1048576 w (by unfold maxLen; omega) (by omega) (by omega)
  rw [if_neg (by omega)] at hsz
  have hl0 : ((1048576 : Int) - p < 0) = False := by simp; omega
  have HN := Lib.hid hml
  have HS := Lib.hid (fun (b : Nat) W h => so_spec (some ⟨b, 0, none⟩) p p ms W hml (by omega) h)
  have HI := Lib.hid (fun (b : Nat) W h => so_impl (some ⟨b, 0, none⟩) p p ms W hml (by omega) (Nat.le_refl _) h)
  have hlen := FnExactSortTerms_len ms
  unfold LsT at HS HI
  clear hml
  generalize hRR : soR ms = R at *
  clear hRR
  obtain ⟨L, cd⟩ := R
  simp only at HS HI hlen
  go_enter Try.func10, Try.ntmps10
  go_wp2_with fail
  refine hsz.mono ?_
  rintro e w' ⟨rfl, rfl⟩
  clear hsz
  go_wp2_with fail
  refine (toTerms_any M p cp ms w HN.out hb hM).mono ?_
  rintro e w1a ⟨b1a, rfl, hb1a, hr1a, hl1a⟩
  have hbl1a := hr1a.lt
  rw [HN.out]
  have hW1a := hl1a
  have hs1a := hl1a.size
  go_wp2_with fail
  refine (HS.out b1a w1a hr1a.reads).mono ?_
  rintro e w2 ⟨⟨u, rfl, hu⟩, hd2⟩
  have hs2 := hd2.size
  replace hr1a := hr1a.below hd2 hr1a.lt
  have hW2 := hW1a.trans ((hd2).mono hW1a.size)
  have hubu := fun g e => World.ownsRow.lt hu g e
  go_wp2_with fail
  refine (toTerms_any M p cp ms w2 HN.out hb (hM.below hW2)).mono ?_
  rintro e w3a ⟨b3a, rfl, hb3a, hr3a, hl3a⟩
  have hbl3a := hr3a.lt
  rw [HN.out]
  replace hu := LstG.below hu hl3a
  have hW3a := hW2.trans ((hl3a).mono hW2.size)
  have hs3a := hl3a.size
  go_wp2_with fail
  refine (HI.out b3a w3a hr3a.reads).mono ?_
  rintro e w4 ⟨⟨v, rfl, hv⟩, hd4⟩
  have hs4 := hd4.size
  replace hu := LstG.below hu hd4
  replace hr3a := hr3a.below hd4 hr3a.lt
  have hW4 := hW3a.trans ((hd4).mono hW3a.size)
  have hubv := fun g e => World.ownsRow.lt hv g e
  go_wp2_with fail
  refine (eqTermsLst_any v u L _ _ w4 hv hu (by omega)).mono ?_
  rintro e w5 ⟨rfl, hg5⟩
  have hs5 := hg5.below.size
  replace hu := LstG.below hu hg5.below
  replace hr3a := hr3a.below hg5.below hr3a.lt
  replace hv := LstG.below hv hg5.below
  have hW5 := hW4.trans ((hg5.below).mono hW4.size)
  go_wp2_with fail
  refine (toTerms_any M p cp ms w5 HN.out hb (hM.below hW5)).mono ?_
  rintro e w6a ⟨b6a, rfl, hb6a, hr6a, hl6a⟩
  have hbl6a := hr6a.lt
  rw [HN.out]
  replace hu := LstG.below hu hl6a
  replace hr3a := hr3a.below hl6a hr3a.lt
  replace hv := LstG.below hv hl6a
  have hW6a := hW5.trans ((hl6a).mono hW5.size)
  have hs6a := hl6a.size
  go_wp2_with fail
  refine (eqTerms_same _ _ p p p ms w6a HN.out (by omega) hr3a.reads hr6a.reads).mono ?_
  rintro e w7a ⟨rfl, hg7a⟩
  have hs7a := hg7a.below.size
  replace hu := LstG.below hu hg7a.below
  replace hr3a := hr3a.below hg7a.below hr3a.lt
  replace hv := LstG.below hv hg7a.below
  replace hr6a := hr6a.below hg7a.below hr6a.lt
  have hW7a := hW6a.trans ((hg7a.below).mono hW6a.size)
  go_wp2_with fail
  refine (markTermsRow_0 b3a p p ms w7a HN.out (by omega) hr3a).mono ?_
  rintro e w8a ⟨rfl, hd8a⟩
  have hs8a := hd8a.size
  replace hu := LstG.keepT hu (fun g e hg => hd8a.block g hg (by have := hubu g e; omega))
  replace hv := LstG.keepT hv (fun g e hg => hd8a.block g hg (by have := hubv g e; omega))
  have hW8a := hW7a.trans (hd8a.below (show w.heap.size ≤ b3a by omega) hW7a.size)
  go_wp2_with fail
  refine (eqTermsLst_any v u L _ _ w8a hv hu (by omega)).mono ?_
  rintro e w9 ⟨rfl, hg9⟩
  have hs9 := hg9.below.size
  replace hu := LstG.below hu hg9.below
  replace hv := LstG.below hv hg9.below
  have hW9 := hW8a.trans ((hg9.below).mono hW8a.size)
  go_wp2_with fail
  refine (markTermsLst_0 v L w3a.heap.size w9 hv (by omega) (by omega)).mono ?_
  rintro e wa ⟨rfl, hva, hba⟩
  have hsa := hba.size
  replace hu := LstG.keepT hu (fun g e hg => hba.block g (by have := hubu g e; omega))
  have hWa := hW9.trans (hba.mono (by omega))
  clear hv
  go_wp2_with fail
  refine (heldTermsLst_0 v L.length _ wa hva (by omega)).mono ?_
  rintro e wb ⟨rfl, rfl⟩
  go_wp2_with fail
  refine (toTerms_any M p cp ms wa HN.out hb (hM.below hWa)).mono ?_
  rintro e wca ⟨bca, rfl, hbca, hrca, hlca⟩
  have hblca := hrca.lt
  rw [HN.out]
  replace hu := LstG.below hu hlca
  replace hva := LstG.below hva hlca
  have hWca := hWa.trans ((hlca).mono hWa.size)
  have hsca := hlca.size
  go_wp2_with fail
  refine (HI.out bca wca hrca.reads).mono ?_
  rintro e wd ⟨⟨v2, rfl, hv2⟩, hdd⟩
  have hsd := hdd.size
  replace hu := LstG.below hu hdd
  replace hva := LstG.below hva hdd
  replace hrca := hrca.below hdd hrca.lt
  have hWd := hWca.trans ((hdd).mono hWca.size)
  have hubv2 := fun g e => World.ownsRow.lt hv2 g e
  go_wp2_with fail
  refine (eqTermsLst_any v2 u L _ _ wd hv2 hu (by omega)).mono ?_
  rintro e we ⟨rfl, hge⟩
  have hse := hge.below.size
  replace hu := LstG.below hu hge.below
  replace hva := LstG.below hva hge.below
  replace hv2 := LstG.below hv2 hge.below
  have hWe := hWd.trans ((hge.below).mono hWd.size)
  go_wp2_with fail
  refine (heldTermsLst_0 v L.length _ we hva (by omega)).mono ?_
  rintro e wf ⟨rfl, rfl⟩
  go_wp2_with fail
  go_ret
  exact ⟨rfl, hWe⟩

set_option maxRecDepth 100000 in
theorem lifted (os : Os) (started : os.Started) (H : Type) (enc : TypeId × Value → H) :
    ReturnsInHanded {} Try.checked os 10 .any (Rows.fnExactSortTermsSpec.pre6 enc Try.prog Try.f10 Rows.fnExactSortTermsRow.domain false) (Rows.fnExactSortTermsSpec.post enc Try.prog Try.f10 false true false false) := by
  refine returnsInHanded_of_change (C := Try.checked) own started (by kernel_rfl) Try.func10
    (ChangeSpec.witness6 (enc := enc) (C := Try.checked) false ⟨#[], #[.slice none 0 0], []⟩ 8 (by kernel_rfl) (by kernel_rfl) (by kernel_rfl) (by kernel_rfl)) ?_
  intro W base args ds gs before hval0 hW hcnd _
  have hval : ∀ (j : Nat) t v, Try.f10.params[j]? = some t → args[j]? = some v → Value.okWide Try.prog W .any base t v := hval0
  have hW' := hW
  obtain ⟨p, q, hA0, hV, hpq, hfz, hnd⟩ := hW
  have hA : DataW.TrodAll enc Try.prog W 0 (fun _ => true) true Try.f10.params.toList args.toList ds p := hA0
  have hT := hA
  obtain ⟨rfl, rfl⟩ := trodVars_none hV
  rw [Try.params10] at hA hval
  obtain ⟨v0, vs0, d0, ds0, p0, q0, hargs, rfl, rfl, h0, r0⟩ := trodAll_cons hA
  obtain ⟨rfl, rfl, rfl⟩ := trodAll_nil r0
  obtain rfl : args = #[v0] := by cases args; simp_all
  obtain ⟨M, p, cp, ms, rfl, hml, hM, hpM⟩ := open_t3 Try.underlying49 Try.underlying83 Try.underlying81 (by kernel_rfl) rfl rfl rfl rfl Try.underlying4 Try.underlying2 Try.underlying2 (by kernel_rfl) (by kernel_rfl) (by kernel_rfl) (by kernel_rfl) (hval 0 49 v0 rfl rfl) h0
  clear hA0 hval0
  refine (walk W M p cp ms hml hM hpM).mono fun e W' ⟨he, hb⟩ => ?_
  subst he
  exact ⟨_, rfl, law_post laidOut hW' hT hpq (by kernel_rfl) (fun _ _ => rfl) rfl rfl rfl Try.underlying4 hb⟩

theorem over : Rows.fnExactSortTermsRow.holds Try.pinned (OpenSpec.ofChange Rows.fnExactSortTermsSpec) :=
  OpenClaim.holds_of_wide 10 Try.f10 rfl rfl rfl rfl rfl rfl rfl ⟨rfl, rfl, rfl, rfl, rfl⟩ rfl rfl rfl rfl rfl (by kernel_rfl) Try.func10 (by kernel_rfl)
    (of_decide_eq_true (by kernel_rfl)) (by unfold Func.isWrapper; first | (rw [if_pos (by decide +kernel)]; kernel_rfl) | (rw [if_neg (by decide +kernel)]; exact ⟨rfl, rfl⟩))
    (fun os started H enc _ => lifted os started H enc)

theorem proved : Rows.FnExactSortTermsSaid :=
  over
end Go.Proofs.Ytphebmbapllinaa.fnExactSortTerms
