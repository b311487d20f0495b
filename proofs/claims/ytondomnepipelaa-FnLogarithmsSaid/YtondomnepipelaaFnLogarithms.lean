/- For every code of bytes the logarithms of the drawn figure and number are as the law FnLogarithms says, and it returns true. No condition. -/
import Derived.Test.YtondomnepipelaaC03b
import Derived.Test.YtondomnepipelaaC03e
import Derived.Test.YtondomnepipelaaD6
import Derived.Test.YtondomnepipelaaSe
import Derived.Test.YtondomnepipelaaHs
import Derived.Test.YtondomnepipelaaBig
import Derived.Test.YtondomnepipelaaM10
import Derived.Test.YtondomnepipelaaFr
import Derived.Test.YtondomnepipelaaRows
import Derived.WalkKit
import Derived.ProofKit
import Derived.OpenShut
namespace Go.Proofs.Ytondomnepipelaa.fnLogarithms
open Go.ChangeShapes Go.WideShapes Go.ChangeAt Go.RowKit
set_option linter.unusedVariables false
set_option linter.unusedSimpArgs false

theorem own : ownKnob Try.prog.godebug = none := by kernel_rfl

attribute [local go_sem high] guard_itv neq_itv

set_option maxHeartbeats 4000000 in
set_option maxRecDepth 100000 in
/-- The walk of a code that is not too long. -/
theorem walk1 (w : World) (A0 : Option Addr) (n0 c0 : Nat) (hB0 : Bytes w w.heap.size A0 n0) (hbig : ¬ 4096 < n0) :
    Calls Try.prog 3 #[.slice A0 n0 c0] w (LawDone w) := by
  have hd : decide ((4096 : Int) < n0) = false := by simp; omega
  go_enter Try.func3, Try.ntmps3
  go_wp2_with fail
  refine (big_any A0 n0 c0 w).mono ?_
  rw [hd]
  rintro e w1 ⟨rfl, rfl⟩
  clear hd
  go_wp2_with fail
  refine (drawFigureLog_any A0 n0 c0 w (by omega) hB0).mono ?_
  rintro e w1 ⟨d, t, rfl, -, hb⟩
  have G1 := ((Gr.of_below hb).alloc (.cells #[.int .i64 d, .int .i64 t] 25))
  have L1 := ((show Hass w1 [] from trivial).new' [.int .i64 d, .int .i64 t] 25 (w1.heap.size) (by simp))
  clear hb
  go_wp2_with fail
  refine (flR_impl d t _).mono ?_
  rintro e w2 ⟨rfl, hg⟩
  have G2 := ((G1.trans hg).alloc (.cells #[.int .i64 ((flR d t).1.1), .int .i64 ((flR d t).1.2)] 28))
  have L2 := ((L1.gr hg).new' [.int .i64 ((flR d t).1.1), .int .i64 ((flR d t).1.2)] 28 (w2.heap.size) (by simp))
  clear L1 G1 hg
  have F := L2
  obtain ⟨-, ⟨l1, z1⟩, -⟩ := F
  go_wp2_with fail
  clear l1 z1
  refine (flR_spec d t _).mono ?_
  rintro e w3 ⟨rfl, hg⟩
  have G3 := ((G2.trans hg).alloc (.cells #[.int .i64 ((flR d t).1.1), .int .i64 ((flR d t).1.2)] 28))
  have L3 := ((L2.gr hg).new' [.int .i64 ((flR d t).1.1), .int .i64 ((flR d t).1.2)] 28 (w3.heap.size) (by simp))
  clear L2 G2 hg
  go_wp2_with fail
  refine (drawLogarithm_any A0 n0 c0 _ (by omega) (hB0.later G3.below)).mono ?_
  rintro e w4 ⟨x, rfl, -, hb⟩
  have G4 := (G3.trans (Gr.of_below hb))
  have L4 := (L3.below hb)
  clear L3 G3 hb
  go_wp2_with fail
  refine (loR_impl x _).mono ?_
  rintro e w5 ⟨rfl, hg⟩
  have G5 := ((G4.trans hg).alloc (.cells #[.int .i64 ((loR x).1.1), .int .i64 ((loR x).1.2)] 28))
  have L5 := ((L4.gr hg).new' [.int .i64 ((loR x).1.1), .int .i64 ((loR x).1.2)] 28 (w5.heap.size) (by simp))
  clear L4 G4 hg
  go_wp2_with fail
  refine (loR_spec x _).mono ?_
  rintro e w6 ⟨rfl, hg⟩
  have G6 := ((G5.trans hg).alloc (.cells #[.int .i64 ((loR x).1.1), .int .i64 ((loR x).1.2)] 28))
  have L6 := ((L5.gr hg).new' [.int .i64 ((loR x).1.1), .int .i64 ((loR x).1.2)] 28 (w6.heap.size) (by simp))
  clear L5 G5 hg
  have hl : (((loR x).2 == 0) = false) ∨ ((loR x).2 = 0 ∧ 0 ≤ (loR x).1.1 ∧ (loR x).1.1 ≤ 1048576 ∧ (loR x).1.2 ≤ 1048576 ∧ 0 ≤ (loR x).1.2 ∧ (loR x).1.2 - (loR x).1.1 ≤ 3) := by
    rcases loR_facts x with h | h
    · exact .inl (by rw [h]; rfl)
    · exact .inr h
  have hf : (((flR d t).2 != 0) = true) ∨ ((flR d t).2 = 0 ∧ fg d t = true ∧ (flR d t).1 = flg d t) := by
    cases h : fg d t
    · exact .inl (by rw [flR_no d t h]; rfl)
    · exact .inr (by rw [flR_ok d t h]; exact ⟨rfl, rfl, rfl⟩)
  have hs : fg d t = true → (flR d t).1 = flg d t → (iv (flR d t).1.1 (flR d t).1.2 = true ∧ 1 ≤ (flR d t).1.2 - (flR d t).1.1 ∧ (flR d t).1.2 - (flR d t).1.1 ≤ 2) ∧ (-40000000 ≤ (flR d t).1.1 ∧ (flR d t).1.1 ≤ 40000000) ∧
      (-40000000 ≤ (flR d t).1.2 ∧ (flR d t).1.2 ≤ 40000000) ∧ ((1000 ≤ d ∧ d ≤ 9999) ∧ (d ≤ 9998 → flR (d + 1) t = (flg (d + 1) t, 0) ∧ (flR d t).1.2 < (flg (d + 1) t).1)) := by
    intro h e
    rw [e]
    have w := flg_width d t h
    have b := flg_bd d t h
    obtain ⟨⟨d1, d2⟩, t1, t2⟩ := (fg_iff d t).1 h
    exact ⟨⟨(iv_iff _ _).2 (by omega), w⟩, by omega, by omega, ⟨d1, d2⟩, fun hd => ⟨flR_ok _ _ ((fg_iff _ _).2 (by omega)), flg_next d t h hd⟩⟩
  have F := L6
  obtain ⟨⟨l0, z0⟩, ⟨l1, z1⟩, ⟨l2, z2⟩, ⟨l3, z3⟩, ⟨l4, z4⟩, -⟩ := F
  generalize (loR x).1.1 = l1v at *
  generalize (loR x).1.2 = l2v at *
  generalize (loR x).2 = lc at *
  have HS := Lib.hid hs
  clear hs
  generalize hv1 : (flR d t).1.1 = a1 at *
  generalize hv2 : (flR d t).1.2 = a2 at *
  generalize hv3 : (flR d t).2 = ac at *
  clear hv1 hv2 hv3
  rcases hl with hl | ⟨rfl, y1, y2, y3, y4, y5⟩
  · rcases hf with hf | ⟨rfl, hf, he⟩
    · go_wp2_with fail
      go_ret
      exact ⟨rfl, G6.below⟩
    · obtain ⟨⟨i1, w1', w2'⟩, ⟨b1, b2⟩, ⟨b3, b4⟩, ⟨d1, d2⟩, hn⟩ := HS.out hf he
      have HW := Lib.hid (wiR_ok a1 a2 i1)
      have HN := Lib.hid hn
      clear hf he HS i1 hn
      go_wp2_with fail
      clear l0 z0 l1 z1 l2 z2 l3 z3 l4 z4
      refine (wiR_impl a1 a2 _).mono ?_
      rw [HW.out]
      rintro e w7 ⟨rfl, hg⟩
      have G7 := G6.trans hg
      have L7 := L6.gr hg
      clear hg
      have F := L7
      obtain ⟨-, -, -, ⟨l3, z3⟩, ⟨l4, z4⟩, -⟩ := F
      by_cases h9 : d = 9999
      · have hb : ((d : Int) == 9999) = true := by simp [h9]
        clear h9
        go_wp2_with fail
        go_ret
        exact ⟨rfl, G7.below⟩
      · have hb : ((d : Int) == 9999) = false := by simp [h9]
        obtain ⟨e1, e2⟩ := HN.out (by omega)
        have HE := Lib.hid e1
        clear e1 h9 HN
        go_wp2_with fail
        clear l3 z3 l4 z4
        refine (flR_impl (d + 1) t _).mono ?_
        rw [HE.out]
        rintro e w8 ⟨rfl, hg⟩
        have L8 := (L7.gr hg).new [.int .i64 (flg (d + 1) t).1, .int .i64 (flg (d + 1) t).2] 28
        have G8 := (G7.trans hg).alloc (.cells #[.int .i64 (flg (d + 1) t).1, .int .i64 (flg (d + 1) t).2] 28)
        obtain ⟨⟨l0, z0⟩, -, -, -, ⟨l4, z4⟩, -, -⟩ := L8
        generalize (flg (d + 1) t).1 = n1 at *
        generalize (flg (d + 1) t).2 = n2 at *
        clear HE
        go_wp2_with fail
        go_ret
        exact ⟨rfl, G8.below⟩
  · rcases hf with hf | ⟨rfl, hf, he⟩
    · go_wp2_with fail
      go_ret
      exact ⟨rfl, G6.below⟩
    · obtain ⟨⟨i1, w1', w2'⟩, ⟨b1, b2⟩, ⟨b3, b4⟩, ⟨d1, d2⟩, hn⟩ := HS.out hf he
      have HW := Lib.hid (wiR_ok a1 a2 i1)
      have HN := Lib.hid hn
      clear hf he HS i1 hn
      go_wp2_with fail
      clear l0 z0 l1 z1 l2 z2 l3 z3 l4 z4
      refine (wiR_impl a1 a2 _).mono ?_
      rw [HW.out]
      rintro e w7 ⟨rfl, hg⟩
      have G7 := G6.trans hg
      have L7 := L6.gr hg
      clear hg
      have F := L7
      obtain ⟨-, -, -, ⟨l3, z3⟩, ⟨l4, z4⟩, -⟩ := F
      by_cases h9 : d = 9999
      · have hb : ((d : Int) == 9999) = true := by simp [h9]
        clear h9
        go_wp2_with fail
        go_ret
        exact ⟨rfl, G7.below⟩
      · have hb : ((d : Int) == 9999) = false := by simp [h9]
        obtain ⟨e1, e2⟩ := HN.out (by omega)
        have HE := Lib.hid e1
        clear e1 h9 HN
        go_wp2_with fail
        clear l3 z3 l4 z4
        refine (flR_impl (d + 1) t _).mono ?_
        rw [HE.out]
        rintro e w8 ⟨rfl, hg⟩
        have L8 := (L7.gr hg).new [.int .i64 (flg (d + 1) t).1, .int .i64 (flg (d + 1) t).2] 28
        have G8 := (G7.trans hg).alloc (.cells #[.int .i64 (flg (d + 1) t).1, .int .i64 (flg (d + 1) t).2] 28)
        obtain ⟨⟨l0, z0⟩, -, -, -, ⟨l4, z4⟩, -, -⟩ := L8
        generalize (flg (d + 1) t).1 = n1 at *
        generalize (flg (d + 1) t).2 = n2 at *
        clear HE
        go_wp2_with fail
        go_ret
        exact ⟨rfl, G8.below⟩

set_option maxHeartbeats 4000000 in
set_option maxRecDepth 100000 in
theorem walk (w : World) (A0 : Option Addr) (n0 c0 : Nat) (hB0 : Bytes w w.heap.size A0 n0) :
    Calls Try.prog 3 #[.slice A0 n0 c0] w (LawDone w) := by
  by_cases hbig : 4096 < n0
  · have hd : decide ((4096 : Int) < n0) = true := by simp; omega
    go_enter Try.func3, Try.ntmps3
    go_wp2_with fail
    refine (big_any A0 n0 c0 w).mono ?_
    rw [hd]
    rintro e w1 ⟨rfl, rfl⟩
    go_wp2_with fail
    go_ret
    exact ⟨rfl, Below.refl _ _⟩
  · exact walk1 w A0 n0 c0 hB0 hbig

set_option maxRecDepth 100000 in
theorem lifted (os : Os) (started : os.Started) (H : Type) (enc : TypeId × Value → H) :
    ReturnsInHanded {} Try.checked os 3 .any (Rows.fnLogarithmsSpec.pre6 enc Try.prog Try.f3 Rows.fnLogarithmsRow.domain false) (Rows.fnLogarithmsSpec.post enc Try.prog Try.f3 false true false false) := by
  refine returnsInHanded_of_change (C := Try.checked) own started (by kernel_rfl) Try.func3
    (ChangeSpec.witness6 (enc := enc) (C := Try.checked) false ⟨#[], #[.slice none 0 0], []⟩ 8 (by kernel_rfl) (by kernel_rfl) (by kernel_rfl) (by kernel_rfl)) ?_
  intro W base args ds gs before hval0 hW hcnd _
  have hval : ∀ (j : Nat) t v, Try.f3.params[j]? = some t → args[j]? = some v → Value.okWide Try.prog W .any base t v := hval0
  have hW' := hW
  obtain ⟨p, q, hA0, hV, hpq, hfz, hnd⟩ := hW
  have hA : DataW.TrodAll enc Try.prog W 0 (fun _ => true) true Try.f3.params.toList args.toList ds p := hA0
  have hT := hA
  obtain ⟨rfl, rfl⟩ := trodVars_none hV
  rw [Try.params3] at hA hval
  obtain ⟨v0, vs0, d0, ds0, p0, q0, hargs, rfl, rfl, h0, r0⟩ := trodAll_cons hA
  obtain ⟨rfl, rfl, rfl⟩ := trodAll_nil r0
  obtain rfl : args = #[v0] := by cases args; simp_all
  obtain ⟨A0, n0, c0, rfl, -, hB0⟩ := open_code Try.underlying22 Try.underlying5 (by kernel_rfl) (hval 0 22 v0 rfl rfl) h0
  clear hA0 hval0
  refine (walk W A0 n0 c0 hB0).mono fun e W' ⟨he, hb⟩ => ?_
  subst he
  exact ⟨_, rfl, law_post laidOut hW' hT hpq (by kernel_rfl) (fun _ _ => rfl) rfl rfl rfl Try.underlying4 hb⟩

theorem over : Rows.fnLogarithmsRow.holds Try.pinned (OpenSpec.ofChange Rows.fnLogarithmsSpec) :=
  OpenClaim.holds_of_wide 3 Try.f3 rfl rfl rfl rfl rfl rfl rfl ⟨rfl, rfl, rfl, rfl, rfl⟩ rfl rfl rfl rfl rfl (by kernel_rfl) Try.func3 (by kernel_rfl)
    (of_decide_eq_true (by kernel_rfl)) (by unfold Func.isWrapper; first | (rw [if_pos (by decide +kernel)]; kernel_rfl) | (rw [if_neg (by decide +kernel)]; exact ⟨rfl, rfl⟩))
    (fun os started H enc _ => lifted os started H enc)

theorem proved : Rows.FnLogarithmsSaid :=
  over
end Go.Proofs.Ytondomnepipelaa.fnLogarithms
