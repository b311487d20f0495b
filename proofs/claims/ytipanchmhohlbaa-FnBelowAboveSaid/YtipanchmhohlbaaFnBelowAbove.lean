/- For every code of bytes the figures below and above the drawn number of units are as the law FnBelowAbove says, and it returns true. No condition. -/
import Derived.Test.YtipanchmhohlbaaC04b
import Derived.Test.YtipanchmhohlbaaC04g
import Derived.Test.YtipanchmhohlbaaC02e
import Derived.Test.YtipanchmhohlbaaC03e
import Derived.Test.YtipanchmhohlbaaD11
import Derived.Test.YtipanchmhohlbaaSe
import Derived.Test.YtipanchmhohlbaaHs
import Derived.Test.YtipanchmhohlbaaBig
import Derived.Test.YtipanchmhohlbaaM14
import Derived.Test.YtipanchmhohlbaaFr
import Derived.Test.YtipanchmhohlbaaRows
import Derived.WalkKit
import Derived.ProofKit
import Derived.OpenShut
namespace Go.Proofs.Ytipanchmhohlbaa.fnBelowAbove
open Go.ChangeShapes Go.WideShapes Go.ChangeAt Go.RowKit
set_option linter.unusedVariables false
set_option linter.unusedSimpArgs false

theorem own : ownKnob Try.prog.godebug = none := by kernel_rfl

attribute [local go_sem high] guard_fig neq_fig eql_fig

set_option maxHeartbeats 4000000 in
set_option maxRecDepth 100000 in
/-- The walk of a code that is not too long. -/
theorem walk1 (w : World) (A0 : Option Addr) (n0 c0 : Nat) (hB0 : Bytes w w.heap.size A0 n0) (hbig : ¬ 4096 < n0) :
    Calls Try.prog 3 #[.slice A0 n0 c0] w (LawDone w) := by
  have hd : decide ((4096 : Int) < n0) = false := by simp; omega
  go_enter Try.func3, Try.ntmps3
  go_wp2_with fail
  refine (big_any A0 n0 c0 w).mono ?_
  rw [hd]
  rintro e w1 ⟨rfl, rfl⟩
  clear hd
  go_wp2_with fail
  refine (drawFigureBelow_any A0 n0 c0 w (by omega) hB0).mono ?_
  rintro e w1 ⟨u, rfl, -, hb⟩
  have G1 := (Gr.of_below hb)
  have L1 := (show Hass w1 [] from trivial)
  clear hb
  go_wp2_with fail
  refine (fbR_impl u _).mono ?_
  rintro e w2 ⟨rfl, hg⟩
  have G2 := ((G1.trans hg).alloc (.cells #[.int .i64 ((fbR u).1.1), .int .i64 ((fbR u).1.2)] 26))
  have L2 := ((L1.gr hg).new' [.int .i64 ((fbR u).1.1), .int .i64 ((fbR u).1.2)] 26 (w2.heap.size) (by simp))
  clear L1 G1 hg
  go_wp2_with fail
  refine (fbR_spec u _).mono ?_
  rintro e w3 ⟨rfl, hg⟩
  have G3 := ((G2.trans hg).alloc (.cells #[.int .i64 ((fbR u).1.1), .int .i64 ((fbR u).1.2)] 26))
  have L3 := ((L2.gr hg).new' [.int .i64 ((fbR u).1.1), .int .i64 ((fbR u).1.2)] 26 (w3.heap.size) (by simp))
  clear L2 G2 hg
  go_wp2_with fail
  refine (faR_impl u _).mono ?_
  rintro e w4 ⟨rfl, hg⟩
  have G4 := ((G3.trans hg).alloc (.cells #[.int .i64 ((faR u).1.1), .int .i64 ((faR u).1.2)] 26))
  have L4 := ((L3.gr hg).new' [.int .i64 ((faR u).1.1), .int .i64 ((faR u).1.2)] 26 (w4.heap.size) (by simp))
  clear L3 G3 hg
  go_wp2_with fail
  refine (faR_spec u _).mono ?_
  rintro e w5 ⟨rfl, hg⟩
  have G5 := ((G4.trans hg).alloc (.cells #[.int .i64 ((faR u).1.1), .int .i64 ((faR u).1.2)] 26))
  have L5 := ((L4.gr hg).new' [.int .i64 ((faR u).1.1), .int .i64 ((faR u).1.2)] 26 (w5.heap.size) (by simp))
  clear L4 G4 hg
  have hb := fb_facts u
  have ha := fa_facts u
  have HB := Lib.hid (ba_facts u)
  have F := L5
  obtain ⟨⟨l0, z0⟩, ⟨l1, z1⟩, ⟨l2, z2⟩, ⟨l3, z3⟩, -⟩ := F
  generalize (fbR u).1.1 = a at *
  generalize (fbR u).1.2 = s at *
  generalize (fbR u).2 = c1 at *
  generalize (faR u).1.1 = b at *
  generalize (faR u).1.2 = t at *
  generalize (faR u).2 = c2 at *
  rcases hb with hb | ⟨rfl, hb1, hb2⟩
  · have k1 : (c1 == 0) = false := by simp [hb]
    have k2 : (c1 != 0) = true := by simp [hb]
    clear hb HB
    rcases ha with ha | ⟨rfl, ha1, ha2⟩
    · have k3 : (c2 == 0) = false := by simp [ha]
      have k4 : (c2 != 0) = true := by simp [ha]
      clear ha
      go_wp2_with fail
      go_ret
      exact ⟨rfl, G5.below⟩
    · have hL := Lib.hid (fun W => flR_impl b t W)
      rw [ha1] at hL
      simp only at hL
      clear ha1
      generalize (flg b t).1 = x at *
      generalize (flg b t).2 = y at *
      go_wp2_with fail
      clear l0 z0 l1 z1 l2 z2 l3 z3
      refine (hL.out _).mono ?_
      rintro e v1 ⟨rfl, hg⟩
      go_wp2_with fail
      go_ret
      exact ⟨rfl, ((G5.trans hg).alloc _).below⟩
  · have hL1 := Lib.hid (fun W => flR_impl a s W)
    rw [hb1] at hL1
    simp only at hL1
    clear hb1
    generalize (flg a s).1 = x1 at *
    generalize (flg a s).2 = y1 at *
    rcases ha with ha | ⟨rfl, ha1, ha2⟩
    · have k3 : (c2 == 0) = false := by simp [ha]
      have k4 : (c2 != 0) = true := by simp [ha]
      clear ha HB
      go_wp2_with fail
      clear l0 z0 l1 z1 l2 z2 l3 z3
      refine (hL1.out _).mono ?_
      rintro e v1 ⟨rfl, hg⟩
      go_wp2_with fail
      go_ret
      exact ⟨rfl, ((G5.trans hg).alloc _).below⟩
    · have hL2 := Lib.hid (fun W => flR_impl b t W)
      rw [ha1] at hL2
      simp only at hL2
      clear ha1
      generalize (flg b t).1 = x2 at *
      generalize (flg b t).2 = y2 at *
      obtain ⟨hw, hr0, hr1⟩ := HB.out rfl rfl
      have hR := Lib.hid (fun W => reR_impl b t a s W)
      have W := Lib.hid hw
      clear HB hw
      rw [hr0] at hR
      generalize (reR b t a s).1 = n at *
      clear hr0
      go_wp2_with fail
      clear l0 z0 l1 z1 l2 z2 l3 z3
      refine (hL1.out _).mono ?_
      rintro e v1 ⟨rfl, hg⟩
      have G6 := (G5.trans hg).alloc (.cells #[.int .i64 x1, .int .i64 y1] 30)
      have L6 := (L5.gr hg).new [.int .i64 x1, .int .i64 y1] 30
      clear L5 G5 hg
      have F := L6
      obtain ⟨⟨l0, z0⟩, -, ⟨l2, z2⟩, -, -, -⟩ := F
      go_wp2_with fail
      clear l0 z0 l2 z2
      refine (hL2.out _).mono ?_
      rintro e v2 ⟨rfl, hg⟩
      have G7 := (G6.trans hg).alloc (.cells #[.int .i64 x2, .int .i64 y2] 30)
      have L7 := (L6.gr hg).new [.int .i64 x2, .int .i64 y2] 30
      clear L6 G6 hg
      have F := L7
      obtain ⟨⟨l0, z0⟩, -, -, ⟨l3, z3⟩, -, ⟨l5, z5⟩, -⟩ := F
      go_wp2_with fail
      clear l0 z0 l3 z3 l5 z5
      refine (hR.out _).mono ?_
      rintro e v3 ⟨rfl, hg⟩
      have G8 := G7.trans hg
      have L8 := L7.gr hg
      clear L7 G7 hg
      have F := L8
      obtain ⟨-, -, -, ⟨l3, z3⟩, -, ⟨l5, z5⟩, -⟩ := F
      go_wp2_with fail
      refine (between_any a s a s b t _ W.out).mono ?_
      rintro e v4 ⟨rfl, hg⟩
      go_wp2_with fail
      go_ret
      exact ⟨rfl, (G8.trans hg).below⟩

set_option maxHeartbeats 4000000 in
set_option maxRecDepth 100000 in
theorem walk (w : World) (A0 : Option Addr) (n0 c0 : Nat) (hB0 : Bytes w w.heap.size A0 n0) :
    Calls Try.prog 3 #[.slice A0 n0 c0] w (LawDone w) := by
  by_cases hbig : 4096 < n0
  · have hd : decide ((4096 : Int) < n0) = true := by simp; omega
    go_enter Try.func3, Try.ntmps3
    go_wp2_with fail
    refine (big_any A0 n0 c0 w).mono ?_
    rw [hd]
    rintro e w1 ⟨rfl, rfl⟩
    go_wp2_with fail
    go_ret
    exact ⟨rfl, Below.refl _ _⟩
  · exact walk1 w A0 n0 c0 hB0 hbig

set_option maxRecDepth 100000 in
theorem lifted (os : Os) (started : os.Started) (H : Type) (enc : TypeId × Value → H) :
    ReturnsInHanded {} Try.checked os 3 .any (Rows.fnBelowAboveSpec.pre6 enc Try.prog Try.f3 Rows.fnBelowAboveRow.domain false) (Rows.fnBelowAboveSpec.post enc Try.prog Try.f3 false true false false) := by
  refine returnsInHanded_of_change (C := Try.checked) own started (by kernel_rfl) Try.func3
    (ChangeSpec.witness6 (enc := enc) (C := Try.checked) false ⟨#[], #[.slice none 0 0], []⟩ 8 (by kernel_rfl) (by kernel_rfl) (by kernel_rfl) (by kernel_rfl)) ?_
  intro W base args ds gs before hval0 hW hcnd _
  have hval : ∀ (j : Nat) t v, Try.f3.params[j]? = some t → args[j]? = some v → Value.okWide Try.prog W .any base t v := hval0
  have hW' := hW
  obtain ⟨p, q, hA0, hV, hpq, hfz, hnd⟩ := hW
  have hA : DataW.TrodAll enc Try.prog W 0 (fun _ => true) true Try.f3.params.toList args.toList ds p := hA0
  have hT := hA
  obtain ⟨rfl, rfl⟩ := trodVars_none hV
  rw [Try.params3] at hA hval
  obtain ⟨v0, vs0, d0, ds0, p0, q0, hargs, rfl, rfl, h0, r0⟩ := trodAll_cons hA
  obtain ⟨rfl, rfl, rfl⟩ := trodAll_nil r0
  obtain rfl : args = #[v0] := by cases args; simp_all
  obtain ⟨A0, n0, c0, rfl, -, hB0⟩ := open_code Try.underlying22 Try.underlying5 (by kernel_rfl) (hval 0 22 v0 rfl rfl) h0
  clear hA0 hval0
  refine (walk W A0 n0 c0 hB0).mono fun e W' ⟨he, hb⟩ => ?_
  subst he
  exact ⟨_, rfl, law_post laidOut hW' hT hpq (by kernel_rfl) (fun _ _ => rfl) rfl rfl rfl Try.underlying4 hb⟩

theorem over : Rows.fnBelowAboveRow.holds Try.pinned (OpenSpec.ofChange Rows.fnBelowAboveSpec) :=
  OpenClaim.holds_of_wide 3 Try.f3 rfl rfl rfl rfl rfl rfl rfl ⟨rfl, rfl, rfl, rfl, rfl⟩ rfl rfl rfl rfl rfl (by kernel_rfl) Try.func3 (by kernel_rfl)
    (of_decide_eq_true (by kernel_rfl)) (by unfold Func.isWrapper; first | (rw [if_pos (by decide +kernel)]; kernel_rfl) | (rw [if_neg (by decide +kernel)]; exact ⟨rfl, rfl⟩))
    (fun os started H enc _ => lifted os started H enc)

theorem proved : Rows.FnBelowAboveSaid :=
  over
end Go.Proofs.Ytipanchmhohlbaa.fnBelowAbove
