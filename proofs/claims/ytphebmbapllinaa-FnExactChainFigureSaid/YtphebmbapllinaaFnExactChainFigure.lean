/- For every list of terms the program's ChainFigure answers as the model does and leaves its argument as it was, and the law returns true. No condition. -/
import Derived.Test.YtphebmbapllinaaC13b
import Derived.Test.YtphebmbapllinaaCT
import Derived.Test.YtphebmbapllinaaFF
import Derived.Test.YtphebmbapllinaaRows
import Derived.WalkKit
import Derived.ProofKit
import Derived.OpenShut
namespace Go.Proofs.Ytphebmbapllinaa.fnExactChainFigure
open Go.ChangeShapes Go.WideShapes Go.ChangeAt Go.RowKit
set_option linter.unusedVariables false
set_option linter.unusedSimpArgs false

theorem own : ownKnob Try.prog.godebug = none := by kernel_rfl


set_option maxHeartbeats 4000000 in
set_option maxRecDepth 100000 in
theorem walk (w : World) (M : Option Addr) (p cp : Nat) (ms : List Tm) (hml : ms.length = p) (hM : Reads w w.heap.size M (tcells ms)) (hpM : p ≤ maxLen) :
    Calls Try.prog 8 #[.slice M p cp] w (LawDone w) := by
  unfold maxLen at hpM
  by_cases hb : p ≤ 1048576
  rotate_left
  · have hsz := szTerms_any M p cp 1048576 w (by unfold maxLen; omega) (by omega) (by omega)
    rw [if_pos (by omega)] at hsz
    go_enter Try.func8, Try.ntmps8
    go_wp2_with fail
    refine hsz.mono ?_
    rintro e w' ⟨rfl, rfl⟩
    go_wp2_with fail
    ((try simp only [Exit.inBlock, Exit.then]); refine bodyPost_ret (v := .bool true) (by simp [results, Try.results8, go_sem]) rfl ?_)
    exact ⟨rfl, Below.refl _ _⟩
  have hsz := szTerms_any M p cp 1048576 w (by unfold maxLen; omega) (by omega) (by omega)
  rw [if_neg (by omega)] at hsz
  have hl0 : ((1048576 : Int) - p < 0) = False := by simp; omega
  have HN := Lib.hid hml
  have HS := Lib.hid (fun (b : Nat) W h => cfR_spec (some ⟨b, 0, none⟩) p p ms W hml (by omega) h)
  have HI := Lib.hid (fun (b : Nat) W h => cfR_impl (some ⟨b, 0, none⟩) p p ms W hml (by omega) (Nat.le_refl _) h)
  generalize hRR : cfR ms = R at *
  clear hRR
  obtain ⟨⟨x1, y1⟩, z⟩ := R
  simp only at HS HI
  clear hml
  go_enter Try.func8, Try.ntmps8
  go_wp2_with fail
  refine hsz.mono ?_
  rintro e w' ⟨rfl, rfl⟩
  clear hsz
  go_wp2_with fail
  refine (toTerms_any M p cp ms w HN.out hb hM).mono ?_
  rintro e w1 ⟨b1, rfl, hb1, hr1, hl1⟩
  rw [HN.out]
  go_wp2_with fail
  refine (HS.out b1 w1 hr1.reads).mono ?_
  rintro e w2 ⟨rfl, hg2⟩
  have hW2 := hl1.trans (hg2.below.mono hl1.size)
  go_wp2_with fail
  have Q1 := Blk.new w2 38 #[.int .i64 x1, .int .i64 y1]
  have hW2v : Below w.heap.size w (w2.alloc (.cells #[.int .i64 x1, .int .i64 y1] 38)) := hW2.trans ((show Gr w2 (w2.alloc (.cells #[.int .i64 x1, .int .i64 y1] 38)) from (by repeat (first | with_reducible exact Gr.refl _ | with_reducible refine Gr.alloc ?_ _ | with_reducible refine Gr.gr ?_ _ _ | with_reducible refine Gr.drew ?_ | with_reducible refine Gr.drewN ?_ _))).below.mono hW2.size)
  generalize (w2.alloc (.cells #[.int .i64 x1, .int .i64 y1] 38)) = v2 at *
  refine (toTerms_any M p cp ms v2 HN.out hb (hM.below hW2v)).mono ?_
  rintro e w3 ⟨b3, rfl, hb3, hr3, hl3⟩
  have hW3 := hW2v.trans (hl3.mono hW2v.size)
  replace Q1 := Q1.below hl3 Q1.lt
  rw [HN.out]
  go_wp2_with fail
  refine (HI.out b3 w3 hr3.reads).mono ?_
  rintro e w4 ⟨rfl, hg4⟩
  have hW4 := hW3.trans (hg4.below.mono hW3.size)
  replace Q1 := Q1.gr hg4
  obtain ⟨q10, q11, -⟩ := Q1.two
  have ql1 := Q1.lt
  go_wp2_with fail
  have hG4 : Gr w4 (w4.alloc (.cells #[.int .i64 x1, .int .i64 y1] 38)) := (by repeat (first | with_reducible exact Gr.refl _ | with_reducible refine Gr.alloc ?_ _ | with_reducible refine Gr.gr ?_ _ _ | with_reducible refine Gr.drew ?_ | with_reducible refine Gr.drewN ?_ _))
  generalize (w4.alloc (.cells #[.int .i64 x1, .int .i64 y1] 38)) = v4 at *
  refine (eqFigure_same _ _ _).mono ?_
  rintro e w6 ⟨rfl, hg6⟩
  have hr6 := ((hr3.gr hg4).gr hG4).gr hg6
  have hW6 := (hW4.trans (hG4.below.mono hW4.size)).trans (hg6.below.mono (hW4.trans (hG4.below.mono hW4.size)).size)
  go_wp2_with fail
  refine (toTerms_any M p cp ms w6 HN.out hb (hM.below hW6)).mono ?_
  rintro e w7 ⟨b7, rfl, hb7, hr7, hl7⟩
  have hW7 := hW6.trans (hl7.mono hW6.size)
  rw [HN.out]
  go_wp2_with fail
  refine (eqTerms_same _ _ p p p ms w7 HN.out (by omega) (hr6.below hl7 hr6.lt).reads hr7.reads).mono ?_
  rintro e w8 ⟨rfl, hg8⟩
  go_wp2_with fail
  go_ret
  exact ⟨rfl, hW7.trans (hg8.below.mono hW7.size)⟩

set_option maxRecDepth 100000 in
theorem lifted (os : Os) (started : os.Started) (H : Type) (enc : TypeId × Value → H) :
    ReturnsInHanded {} Try.checked os 8 .any (Rows.fnExactChainFigureSpec.pre6 enc Try.prog Try.f8 Rows.fnExactChainFigureRow.domain false) (Rows.fnExactChainFigureSpec.post enc Try.prog Try.f8 false true false false) := by
  refine returnsInHanded_of_change (C := Try.checked) own started (by kernel_rfl) Try.func8
    (ChangeSpec.witness6 (enc := enc) (C := Try.checked) false ⟨#[], #[.slice none 0 0], []⟩ 8 (by kernel_rfl) (by kernel_rfl) (by kernel_rfl) (by kernel_rfl)) ?_
  intro W base args ds gs before hval0 hW hcnd _
  have hval : ∀ (j : Nat) t v, Try.f8.params[j]? = some t → args[j]? = some v → Value.okWide Try.prog W .any base t v := hval0
  have hW' := hW
  obtain ⟨p, q, hA0, hV, hpq, hfz, hnd⟩ := hW
  have hA : DataW.TrodAll enc Try.prog W 0 (fun _ => true) true Try.f8.params.toList args.toList ds p := hA0
  have hT := hA
  obtain ⟨rfl, rfl⟩ := trodVars_none hV
  rw [Try.params8] at hA hval
  obtain ⟨v0, vs0, d0, ds0, p0, q0, hargs, rfl, rfl, h0, r0⟩ := trodAll_cons hA
  obtain ⟨rfl, rfl, rfl⟩ := trodAll_nil r0
  obtain rfl : args = #[v0] := by cases args; simp_all
  obtain ⟨M, p, cp, ms, rfl, hml, hM, hpM⟩ := open_t3 Try.underlying49 Try.underlying83 Try.underlying81 (by kernel_rfl) rfl rfl rfl rfl Try.underlying4 Try.underlying2 Try.underlying2 (by kernel_rfl) (by kernel_rfl) (by kernel_rfl) (by kernel_rfl) (hval 0 49 v0 rfl rfl) h0
  clear hA0 hval0
  refine (walk W M p cp ms hml hM hpM).mono fun e W' ⟨he, hb⟩ => ?_
  subst he
  exact ⟨_, rfl, law_post laidOut hW' hT hpq (by kernel_rfl) (fun _ _ => rfl) rfl rfl rfl Try.underlying4 hb⟩

theorem over : Rows.fnExactChainFigureRow.holds Try.pinned (OpenSpec.ofChange Rows.fnExactChainFigureSpec) :=
  OpenClaim.holds_of_wide 8 Try.f8 rfl rfl rfl rfl rfl rfl rfl ⟨rfl, rfl, rfl, rfl, rfl⟩ rfl rfl rfl rfl rfl (by kernel_rfl) Try.func8 (by kernel_rfl)
    (of_decide_eq_true (by kernel_rfl)) (by unfold Func.isWrapper; first | (rw [if_pos (by decide +kernel)]; kernel_rfl) | (rw [if_neg (by decide +kernel)]; exact ⟨rfl, rfl⟩))
    (fun os started H enc _ => lifted os started H enc)

theorem proved : Rows.FnExactChainFigureSaid :=
  over
end Go.Proofs.Ytphebmbapllinaa.fnExactChainFigure
