/- For every list of terms the program's IsChain answers as the model does and leaves its argument as it was, and the law returns true. No condition. -/
import Derived.Test.YtphebmbapllinaaC13a
import Derived.Test.YtphebmbapllinaaCT
import Derived.Test.YtphebmbapllinaaFF
import Derived.Test.YtphebmbapllinaaRows
import Derived.WalkKit
import Derived.ProofKit
import Derived.OpenShut
namespace Go.Proofs.Ytphebmbapllinaa.fnExactIsChain
open Go.ChangeShapes Go.WideShapes Go.ChangeAt Go.RowKit
set_option linter.unusedVariables false
set_option linter.unusedSimpArgs false

theorem own : ownKnob Try.prog.godebug = none := by kernel_rfl


set_option maxHeartbeats 4000000 in
set_option maxRecDepth 100000 in
theorem walk (w : World) (M : Option Addr) (p cp : Nat) (ms : List Tm) (hml : ms.length = p) (hM : Reads w w.heap.size M (tcells ms)) (hpM : p ≤ maxLen) :
    Calls Try.prog 5 #[.slice M p cp] w (LawDone w) := by
  unfold maxLen at hpM
  by_cases hb : p ≤ 1048576
  rotate_left
  · have hsz := szTerms_any M p cp 1048576 w (by unfold maxLen; omega) (by omega) (by omega)
    rw [if_pos (by omega)] at hsz
    go_enter Try.func5, Try.ntmps5
    go_wp2_with fail
    refine hsz.mono ?_
    rintro e w' ⟨rfl, rfl⟩
    go_wp2_with fail
    ((try simp only [Exit.inBlock, Exit.then]); refine bodyPost_ret (v := .bool true) (by simp [results, Try.results5, go_sem]) rfl ?_)
    exact ⟨rfl, Below.refl _ _⟩
  have hsz := szTerms_any M p cp 1048576 w (by unfold maxLen; omega) (by omega) (by omega)
  rw [if_neg (by omega)] at hsz
  have hl0 : ((1048576 : Int) - p < 0) = False := by simp; omega
  have HN := Lib.hid hml
  have HS := Lib.hid (fun (b : Nat) W h => isChain_spec (some ⟨b, 0, none⟩) p p ms W hml (by omega) h)
  have HI := Lib.hid (fun (b : Nat) W h => isChain_impl (some ⟨b, 0, none⟩) p p ms W hml (by omega) h)
  generalize chnB ms = z at *
  clear hml
  go_enter Try.func5, Try.ntmps5
  go_wp2_with fail
  refine hsz.mono ?_
  rintro e w' ⟨rfl, rfl⟩
  clear hsz
  go_wp2_with fail
  refine (toTerms_any M p cp ms w HN.out hb hM).mono ?_
  rintro e w1 ⟨b1, rfl, hb1, hr1, hl1⟩
  rw [HN.out]
  go_wp2_with fail
  refine (HS.out b1 w1 hr1.reads).mono ?_
  rintro e w2 ⟨rfl, hg2⟩
  have hW2 := hl1.trans (hg2.below.mono hl1.size)
  go_wp2_with fail
  refine (toTerms_any M p cp ms w2 HN.out hb (hM.below hW2)).mono ?_
  rintro e w3 ⟨b3, rfl, hb3, hr3, hl3⟩
  have hW3 := hW2.trans (hl3.mono hW2.size)
  rw [HN.out]
  go_wp2_with fail
  refine (HI.out b3 w3 hr3.reads).mono ?_
  rintro e w4 ⟨rfl, hg4⟩
  have hW4 := hW3.trans (hg4.below.mono hW3.size)
  go_wp2_with fail
  refine (toTerms_any M p cp ms w4 HN.out hb (hM.below hW4)).mono ?_
  rintro e w5 ⟨b5, rfl, hb5, hr5, hl5⟩
  have hW5 := hW4.trans (hl5.mono hW4.size)
  rw [HN.out]
  go_wp2_with fail
  refine (eqTerms_same _ _ p p p ms w5 HN.out (by omega) ((hr3.gr hg4).below hl5 (hr3.gr hg4).lt).reads hr5.reads).mono ?_
  rintro e w6 ⟨rfl, hg6⟩
  go_wp2_with fail
  go_ret
  exact ⟨rfl, hW5.trans (hg6.below.mono hW5.size)⟩

set_option maxRecDepth 100000 in
theorem lifted (os : Os) (started : os.Started) (H : Type) (enc : TypeId × Value → H) :
    ReturnsInHanded {} Try.checked os 5 .any (Rows.fnExactIsChainSpec.pre6 enc Try.prog Try.f5 Rows.fnExactIsChainRow.domain false) (Rows.fnExactIsChainSpec.post enc Try.prog Try.f5 false true false false) := by
  refine returnsInHanded_of_change (C := Try.checked) own started (by kernel_rfl) Try.func5
    (ChangeSpec.witness6 (enc := enc) (C := Try.checked) false ⟨#[], #[.slice none 0 0], []⟩ 8 (by kernel_rfl) (by kernel_rfl) (by kernel_rfl) (by kernel_rfl)) ?_
  intro W base args ds gs before hval0 hW hcnd _
  have hval : ∀ (j : Nat) t v, Try.f5.params[j]? = some t → args[j]? = some v → Value.okWide Try.prog W .any base t v := hval0
  have hW' := hW
  obtain ⟨p, q, hA0, hV, hpq, hfz, hnd⟩ := hW
  have hA : DataW.TrodAll enc Try.prog W 0 (fun _ => true) true Try.f5.params.toList args.toList ds p := hA0
  have hT := hA
  obtain ⟨rfl, rfl⟩ := trodVars_none hV
  rw [Try.params5] at hA hval
  obtain ⟨v0, vs0, d0, ds0, p0, q0, hargs, rfl, rfl, h0, r0⟩ := trodAll_cons hA
  obtain ⟨rfl, rfl, rfl⟩ := trodAll_nil r0
  obtain rfl : args = #[v0] := by cases args; simp_all
  obtain ⟨M, p, cp, ms, rfl, hml, hM, hpM⟩ := open_t3 Try.underlying49 Try.underlying83 Try.underlying81 (by kernel_rfl) rfl rfl rfl rfl Try.underlying4 Try.underlying2 Try.underlying2 (by kernel_rfl) (by kernel_rfl) (by kernel_rfl) (by kernel_rfl) (hval 0 49 v0 rfl rfl) h0
  clear hA0 hval0
  refine (walk W M p cp ms hml hM hpM).mono fun e W' ⟨he, hb⟩ => ?_
  subst he
  exact ⟨_, rfl, law_post laidOut hW' hT hpq (by kernel_rfl) (fun _ _ => rfl) rfl rfl rfl Try.underlying4 hb⟩

theorem over : Rows.fnExactIsChainRow.holds Try.pinned (OpenSpec.ofChange Rows.fnExactIsChainSpec) :=
  OpenClaim.holds_of_wide 5 Try.f5 rfl rfl rfl rfl rfl rfl rfl ⟨rfl, rfl, rfl, rfl, rfl⟩ rfl rfl rfl rfl rfl (by kernel_rfl) Try.func5 (by kernel_rfl)
    (of_decide_eq_true (by kernel_rfl)) (by unfold Func.isWrapper; first | (rw [if_pos (by decide +kernel)]; kernel_rfl) | (rw [if_neg (by decide +kernel)]; exact ⟨rfl, rfl⟩))
    (fun os started H enc _ => lifted os started H enc)

theorem proved : Rows.FnExactIsChainSaid :=
  over
end Go.Proofs.Ytphebmbapllinaa.fnExactIsChain
