/- For every list of ticks the program's ClosestTicks answers as the model does and leaves its argument as it was, and the law returns true. No condition. -/
import Derived.Test.YtenpgchkailocabC08e
import Derived.Test.YtenpgchkailocabFr
import Derived.Test.YtenpgchkailocabRows
import Derived.WalkKit
import Derived.ProofKit
import Derived.OpenShut
namespace Go.Proofs.Ytenpgchkailocab.fnExactClosestTicks
open Go.ChangeShapes Go.WideShapes Go.ChangeAt Go.RowKit
set_option linter.unusedVariables false
set_option linter.unusedSimpArgs false

theorem own : ownKnob Try.prog.godebug = none := by kernel_rfl


set_option maxHeartbeats 4000000 in
set_option maxRecDepth 100000 in
theorem walk (w : World) (A0 : Option Addr) (n0 c0 : Nat) (zs0 : List P3) (hn0 : zs0.length = n0) (hR0 : Reads w w.heap.size A0 (cells3 zs0)) (hW0 : ∀ z ∈ zs0, (Lit.int .i64 z.1).wf = true ∧ (Lit.int .i64 z.2.1).wf = true ∧ (Lit.int .i64 z.2.2).wf = true) (hM0 : n0 ≤ maxLen) :
    Calls Try.prog 5 #[.slice A0 n0 c0] w (LawDone w) := by
  unfold maxLen at hM0
  by_cases hb : n0 ≤ 1048576
  rotate_left
  · go_enter Try.func5, Try.ntmps5
    go_wp2_with fail
    refine (szTicks_no A0 n0 c0 _ hb (by omega)).mono ?_
    rintro e w' ⟨rfl, rfl⟩
    go_wp2_with fail
    ((try simp only [Exit.inBlock, Exit.then]); refine bodyPost_ret (v := .bool true) (by simp [results, Try.results5, go_sem]) rfl ?_)
    exact ⟨rfl, Below.refl _ _⟩
  have HN := Lib.hid hn0
  clear hn0
  go_enter Try.func5, Try.ntmps5
  go_wp2_with (go_at_call 7; refine (szTicks_ok A0 n0 c0 _ hb).mono ?_; rintro e w' ⟨rfl, rfl⟩)
  refine (toTicks_any A0 n0 c0 zs0 w HN.out hb hR0).mono ?_
  rintro e w1 ⟨b1, rfl, hb1, hr1, hl1⟩
  rw [HN.out]
  go_wp2_with fail
  refine (ct_spec (some ⟨b1, 0, none⟩) n0 n0 zs0 w1 HN.out (by omega) hr1.reads).mono ?_
  rintro e w2 ⟨rfl, hd2⟩
  have hW2 := hl1.trans (hd2.below.mono hl1.size)
  go_wp2_with fail
  refine (toTicks_any A0 n0 c0 zs0 w2 HN.out hb (hR0.below hW2)).mono ?_
  rintro e w3 ⟨b3, rfl, hb3, hr3, hl3⟩
  have hW3 := hW2.trans (hl3.mono hW2.size)
  rw [HN.out]
  go_wp2_with fail
  refine (ct_impl (some ⟨b3, 0, none⟩) n0 n0 zs0 w3 HN.out (by omega) hr3.reads).mono ?_
  rintro e w4 ⟨rfl, hd4⟩
  have hW4 := hW3.trans (hd4.below.mono hW3.size)
  go_wp2_with fail
  refine (toTicks_any A0 n0 c0 zs0 w4 HN.out hb (hR0.below hW4)).mono ?_
  rintro e w5 ⟨b5, rfl, hb5, hr5, hl5⟩
  have hW5 := hW4.trans (hl5.mono hW4.size)
  rw [HN.out]
  go_wp2_with fail
  refine (eqTicks_same _ _ n0 n0 n0 zs0 w5 HN.out (by omega) ((hr3.gr hd4).below hl5 (hr3.gr hd4).lt).reads hr5.reads).mono ?_
  rintro e w6 ⟨rfl, hg6⟩
  go_wp2_with fail
  go_ret
  exact ⟨rfl, hW5.trans (hg6.below.mono hW5.size)⟩

set_option maxRecDepth 100000 in
theorem lifted (os : Os) (started : os.Started) (H : Type) (enc : TypeId × Value → H) :
    ReturnsInHanded {} Try.checked os 5 .any (Rows.fnExactClosestTicksSpec.pre6 enc Try.prog Try.f5 Rows.fnExactClosestTicksRow.domain false) (Rows.fnExactClosestTicksSpec.post enc Try.prog Try.f5 false true false false) := by
  refine returnsInHanded_of_change (C := Try.checked) own started (by kernel_rfl) Try.func5
    (ChangeSpec.witness6 (enc := enc) (C := Try.checked) false ⟨#[], #[.slice none 0 0], []⟩ 8 (by kernel_rfl) (by kernel_rfl) (by kernel_rfl) (by kernel_rfl)) ?_
  intro W base args ds gs before hval0 hW hcnd _
  have hval : ∀ (j : Nat) t v, Try.f5.params[j]? = some t → args[j]? = some v → Value.okWide Try.prog W .any base t v := hval0
  have hW' := hW
  obtain ⟨p, q, hA0, hV, hpq, hfz, hnd⟩ := hW
  have hA : DataW.TrodAll enc Try.prog W 0 (fun _ => true) true Try.f5.params.toList args.toList ds p := hA0
  have hT := hA
  obtain ⟨rfl, rfl⟩ := trodVars_none hV
  rw [Try.params5] at hA hval
  obtain ⟨v0, vs0, d0, ds0, p0, q0, hargs, rfl, rfl, h0, r0⟩ := trodAll_cons hA
  obtain ⟨rfl, rfl, rfl⟩ := trodAll_nil r0
  obtain rfl : args = #[v0] := by cases args; simp_all
  obtain ⟨A0, n0, c0, zs0, rfl, hn0, hR0, hW0, hM0⟩ := open_p3 Try.underlying22 Try.underlying47 (by kernel_rfl) rfl rfl rfl Try.underlying2 Try.underlying2 Try.underlying2 (by kernel_rfl) (by kernel_rfl) (by kernel_rfl) (hval 0 22 v0 rfl rfl) h0
  clear hA0 hval0
  refine (walk W A0 n0 c0 zs0 hn0 hR0 hW0 hM0).mono fun e W' ⟨he, hb⟩ => ?_
  subst he
  exact ⟨_, rfl, law_post laidOut hW' hT hpq (by kernel_rfl) (fun _ _ => rfl) rfl rfl rfl Try.underlying4 hb⟩

theorem over : Rows.fnExactClosestTicksRow.holds Try.pinned (OpenSpec.ofChange Rows.fnExactClosestTicksSpec) :=
  OpenClaim.holds_of_wide 5 Try.f5 rfl rfl rfl rfl rfl rfl rfl ⟨rfl, rfl, rfl, rfl, rfl⟩ rfl rfl rfl rfl rfl (by kernel_rfl) Try.func5 (by kernel_rfl)
    (of_decide_eq_true (by kernel_rfl)) (by unfold Func.isWrapper; first | (rw [if_pos (by decide +kernel)]; kernel_rfl) | (rw [if_neg (by decide +kernel)]; exact ⟨rfl, rfl⟩))
    (fun os started H enc _ => lifted os started H enc)

theorem proved : Rows.FnExactClosestTicksSaid :=
  over
end Go.Proofs.Ytenpgchkailocab.fnExactClosestTicks
