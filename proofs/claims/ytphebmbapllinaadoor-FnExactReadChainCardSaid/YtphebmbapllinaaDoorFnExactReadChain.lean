/- For every string the program's ReadChain answers as the model does and answers so again when the first answer was written over, and the law returns true. No condition beyond the library's tables and errors as its text lays them. -/
import Derived.Test.YtphebmbapllinaaDoorT44
import Derived.Test.YtphebmbapllinaaDoorCT
import Derived.Test.YtphebmbapllinaaDoorDr
import Derived.Test.YtphebmbapllinaaDoorTie
import Derived.Test.YtphebmbapllinaaDoorCards
import Derived.Test.YtphebmbapllinaaDoorFF
import Derived.Test.YtphebmbapllinaaDoorRows
import Derived.WalkKit
import Derived.ProofKit
import Derived.OpenShut
namespace Go.Proofs.YtphebmbapllinaaDoor.fnExactReadChain
open Go.ChangeShapes Go.WideShapes Go.ChangeAt Go.RowKit
set_option linter.unusedVariables false
set_option linter.unusedSimpArgs false

theorem own : ownKnob Tryd.prog.godebug = none := by kernel_rfl

theorem tab {w : World} (hL : laidMet Tryd.prog Rows.fnExactReadChainRow.laid w) : Tab w := by
  have h := hL.filter (fun x => x.1 == "internal/strconv.uint64pow10")
  have e : Rows.fnExactReadChainRow.laid.filter (fun x => x.1 == "internal/strconv.uint64pow10") = [("internal/strconv.uint64pow10", Lib.tabData .u64 Lib.pow10Tab)] := by rfl
  rw [e] at h
  exact Lib.tabIs_of_head (g := 0) (by kernel_rfl) (by kernel_rfl) Tryd.underlying106 Tryd.underlying94 (by kernel_rfl) (by kernel_rfl) h

theorem errs {w : World} (hL : laidMet Tryd.prog Rows.fnExactReadChainRow.laid w) : Errs w := by
  have h1 := hL.filter (fun x => x.1 == "strconv.ErrSyntax")
  have e1 : Rows.fnExactReadChainRow.laid.filter (fun x => x.1 == "strconv.ErrSyntax") = [("strconv.ErrSyntax", Rows.laid_strconv_ErrSyntax)] := by rfl
  rw [e1] at h1
  have h2 := hL.filter (fun x => x.1 == "strconv.ErrRange")
  have e2 : Rows.fnExactReadChainRow.laid.filter (fun x => x.1 == "strconv.ErrRange") = [("strconv.ErrRange", Rows.laid_strconv_ErrRange)] := by rfl
  rw [e2] at h2
  exact errs_of h1 h2

theorem rc_len {f : List UInt8 → (Int × Int) × Int} {l : List UInt8} : (rcR f l).1.length ≤ 6 := by
  unfold rcR rcO rcP
  split
  · rename_i h
    show (List.map _ _).length ≤ 6
    rw [List.length_map]; exact h.2
  · exact Nat.zero_le _


set_option maxHeartbeats 4000000 in
set_option maxRecDepth 100000 in
theorem walk (w : World) (hL : laidMet Tryd.prog Rows.fnExactReadChainRow.laid w) (s0 : ByteArray) (ws0 : s0.size ≤ maxLen) :
    Calls Tryd.prog 5 #[.string s0] w (LawDone w) := by
  have HT := Lib.hid (tab hL)
  have HE := Lib.hid (errs hL)
  clear hL
  unfold maxLen at ws0
  by_cases hb : 1048576 < s0.size
  · go_enter Tryd.func5, Tryd.ntmps5
    go_wp2
    go_ret
    exact ⟨rfl, Below.refl _ _⟩
  have hsz : s0.size ≤ 1048576 := by omega
  have HI := Lib.hid (fun W (h : Below w.heap.size w W) => readChain_impl s0 W (HE.out.gr (Gr.of_below h)) (HT.out.later h) hsz)
  have HS := Lib.hid (readChain_spec s0 w hsz)
  rw [show rdI = rdS from funext rdI_rdS] at HI
  have hlen := rc_len (f := rdS) (l := s0.data.toList)
  unfold LsT at HI HS
  clear HT HE
  generalize rcR rdS s0.data.toList = R at *
  obtain ⟨L, cd⟩ := R
  simp only at HI HS hlen
  go_enter Tryd.func5, Tryd.ntmps5
  go_wp2_with fail
  refine HS.out.mono ?_
  rintro e w1 ⟨⟨u, rfl, hu⟩, hW1⟩
  have hub := fun g e => (World.ownsRow.lt hu g e).2
  go_wp2_with fail
  refine (HI.out w1 hW1).mono ?_
  rintro e w2 ⟨⟨v, rfl, hv⟩, hd2⟩
  replace hu := LstG.below hu hd2
  have hW2 := hW1.trans (hd2.mono hW1.size)
  go_wp2_with fail
  refine (eqTermsLst_any v u L _ _ w2 hv hu (by omega)).mono ?_
  rintro e w3 ⟨rfl, hg3⟩
  replace hu := LstG.below hu hg3.below
  replace hv := LstG.below hv hg3.below
  have hW3 := hW2.trans (hg3.below.mono hW2.size)
  have hs3 := hg3.below.size
  have hs2 := hd2.size
  go_wp2_with fail
  refine (markTermsLst_0 v L w1.heap.size w3 hv (by omega) (by omega)).mono ?_
  rintro e w4 ⟨rfl, hva, hb4⟩
  replace hu := LstG.keepT hu (fun g e hg => hb4.block g (hub g e))
  have hW4 := hW3.trans (hb4.mono hW1.size)
  go_wp2_with fail
  refine (heldTermsLst_0 v L.length _ w4 hva (by omega)).mono ?_
  rintro e w5 ⟨rfl, rfl⟩
  go_wp2_with fail
  refine (HI.out w4 hW4).mono ?_
  rintro e w6 ⟨⟨v2, rfl, hv2⟩, hd6⟩
  replace hu := LstG.below hu hd6
  replace hva := LstG.below hva hd6
  have hW6 := hW4.trans (hd6.mono hW4.size)
  go_wp2_with fail
  refine (eqTermsLst_any v2 u L _ _ w6 hv2 hu (by omega)).mono ?_
  rintro e w7 ⟨rfl, hg7⟩
  replace hva := LstG.below hva hg7.below
  have hW7 := hW6.trans (hg7.below.mono hW6.size)
  go_wp2_with fail
  refine (heldTermsLst_0 v L.length _ w7 hva (by omega)).mono ?_
  rintro e w8 ⟨rfl, rfl⟩
  go_wp2_with fail
  go_ret
  exact ⟨rfl, hW7⟩

set_option maxRecDepth 100000 in
theorem lifted (os : Os) (started : os.Started) (H : Type) (enc : TypeId × Value → H) :
    ReturnsInHanded {} Tryd.checked os 5 .any (fun w args => (Rows.fnExactReadChainSpec.pre enc Tryd.prog Tryd.f5 Rows.fnExactReadChainRow.domain false w args ∧ laidMetH Tryd.prog Rows.fnExactReadChainRow.laid w) ∧ sizedMet enc Tryd.prog Tryd.f5 (OpenSpec.ofChange Rows.fnExactReadChainSpec) false w args) (Rows.fnExactReadChainSpec.post enc Tryd.prog Tryd.f5 false true false false) := by
  refine returnsInHanded_of_change_and (C := Tryd.checked) (X := fun w _ => laidMetH Tryd.prog Rows.fnExactReadChainRow.laid w) (fun _ _ _ hh h => h.of_heap hh) own started (by kernel_rfl) Tryd.func5
    (ChangeSpec.witness_shaped (enc := enc) (C := Tryd.checked) (os := os) (X := fun w _ => laidMetH Tryd.prog Rows.fnExactReadChainRow.laid w) false (World.laidAll Tryd.prog os Rows.fnExactReadChainRow.laid) #[.string ⟨#[]⟩] 8 (World.laidAll_os _ _ _)
      (World.shaped_of_ZipB (by kernel_rfl) (by kernel_rfl)) (by kernel_rfl) (by kernel_rfl) (by kernel_rfl)
      (by rw [MakeChecks.laidMetH_plain _ _ _ (by kernel_rfl)]; exact laidMet_laidAll _ (by kernel_rfl) (by kernel_rfl))) ?_
  intro W base args ds gs before hval0 hW _ _ hL _
  rw [MakeChecks.laidMetH_plain _ _ _ (by kernel_rfl)] at hL
  have hval : ∀ (j : Nat) t v, Tryd.f5.params[j]? = some t → args[j]? = some v → Value.okWide Tryd.prog W .any base t v := hval0
  have hW' := hW
  obtain ⟨p, q, hA0, hV, hpq, hfz, hnd⟩ := hW
  have hA : DataW.TrodAll enc Tryd.prog W 0 (fun _ => true) true Tryd.f5.params.toList args.toList ds p := hA0
  have hT := hA
  obtain ⟨rfl, rfl⟩ := trodVars_none hV
  rw [Tryd.params5] at hA hval
  obtain ⟨v0, vs0, d0, ds0, p0, q0, hargs, rfl, rfl, h0, r0⟩ := trodAll_cons hA
  obtain ⟨rfl, rfl, rfl⟩ := trodAll_nil r0
  obtain rfl : args = #[v0] := by cases args; simp_all
  obtain ⟨s0, rfl, -, -, ws0⟩ := Go.ChangeMaps.open_string Tryd.underlying9 (hval 0 9 v0 rfl rfl) h0
  clear hA0 hval0
  refine (walk W hL s0 ws0).mono fun e W' ⟨he, hb⟩ => ?_
  subst he
  exact ⟨_, rfl, law_post laidOut hW' hT hpq (by kernel_rfl) (fun _ _ => rfl) rfl rfl rfl Tryd.underlying4 hb⟩

theorem over : Rows.fnExactReadChainRow.holds Tryd.pinned (OpenSpec.ofChange Rows.fnExactReadChainSpec) :=
  OpenClaim.holds_of_wide 5 Tryd.f5 rfl rfl rfl rfl rfl rfl rfl ⟨rfl, rfl, rfl, rfl, rfl⟩ rfl rfl rfl rfl rfl (by kernel_rfl) Tryd.func5 (by kernel_rfl)
    (of_decide_eq_true (by kernel_rfl)) (by unfold Func.isWrapper; first | (rw [if_pos (by decide +kernel)]; kernel_rfl) | (rw [if_neg (by decide +kernel)]; exact ⟨rfl, rfl⟩))
    (fun os started H enc _ => lifted os started H enc)

theorem proved : Rows.FnExactReadChainCardSaid :=
  Claim7.holds_tied_plain_at .later [] Rows.fnExactReadChainCard.laidKinds true Rows.fnExactReadChainCard.stood.harness Rows.fnExactReadChainCard.stood.looks
    over (fun _ h => by cases h) (by kernel_rfl) (fun _ h => by cases h) fnExactReadChain_row_tie rfl ⟨rfl, rfl⟩ (by kernel_rfl) rfl
    (fun f fn hf hfn => by
      obtain rfl : f = 5 := Option.some.inj ((show Tryd.prog.funcNamed Rows.fnExactReadChainRow.func = some 5 by kernel_rfl).symm.trans hf) |>.symm
      obtain rfl : fn = Tryd.f5 := (Option.some.inj (Tryd.func5.symm.trans hfn)).symm
      exact ⟨by kernel_rfl, fun j t ht => by
        rw [Tryd.params5] at ht
        have hm : t ∈ [9] := by simpa using Array.mem_of_getElem? ht
        have hall : ([9].all fun u => !Tryd.prog.wantsStandIn u) = true := by kernel_rfl
        exact (show Tryd.prog.wantsStandIn t = false by simpa using List.all_eq_true.1 hall t hm)⟩)
    (by kernel_rfl)
end Go.Proofs.YtphebmbapllinaaDoor.fnExactReadChain
