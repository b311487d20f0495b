/- For every code of bytes the products and the made figures of the drawn numbers are as the law FnFigures says, and it returns true. No condition. -/
import Derived.Test.YtddnmhkhgpangaaC02c
import Derived.Test.YtddnmhkhgpangaaD4
import Derived.Test.YtddnmhkhgpangaaSe
import Derived.Test.YtddnmhkhgpangaaHs
import Derived.Test.YtddnmhkhgpangaaBig
import Derived.Test.YtddnmhkhgpangaaM06
import Derived.Test.YtddnmhkhgpangaaFr
import Derived.Test.YtddnmhkhgpangaaRows
import Derived.WalkKit
import Derived.ProofKit
import Derived.OpenShut
namespace Go.Proofs.Ytddnmhkhgpangaa.fnFigures
open Go.ChangeShapes Go.WideShapes Go.ChangeAt Go.RowKit
set_option linter.unusedVariables false
set_option linter.unusedSimpArgs false

theorem own : ownKnob Try.prog.godebug = none := by kernel_rfl

attribute [local go_sem high] guard_fig neq_fig

theorem mul_end (a s b t : Int) (h1 : fg a s = true) (h2 : fg b t = true) (hr : (muR a s b t).1 = rdd (a * b) 1 (s + t - 3)) :
    (s + t < (muR a s b t).1.2 ∧ 2 * ((muR a s b t).1.1 * 10000 - a * b) ≤ 10000 ∧ 2 * (a * b - (muR a s b t).1.1 * 10000) ≤ 10000) ∨
    ((muR a s b t).1.2 ≤ s + t ∧ 2 * ((muR a s b t).1.1 * 1000 - a * b) ≤ 1000 ∧ 2 * (a * b - (muR a s b t).1.1 * 1000) ≤ 1000) := by
  obtain ⟨⟨a1, a2⟩, -⟩ := (fg_iff a s).1 h1
  obtain ⟨⟨b1, b2⟩, -⟩ := (fg_iff b t).1 h2
  obtain ⟨p1, p2⟩ := prod_bd a b a1 a2 b1 b2
  rw [hr]
  rcases mul_near (a * b) (s + t - 3) p1 p2 with ⟨x, -, y, z⟩ | ⟨x, -, y, z⟩
  · left; exact ⟨by omega, y, z⟩
  · right; exact ⟨by omega, y, z⟩

set_option maxHeartbeats 4000000 in
set_option maxRecDepth 100000 in
/-- The walk of a code that is not too long. -/
theorem walk1 (w : World) (A0 : Option Addr) (n0 c0 : Nat) (hB0 : Bytes w w.heap.size A0 n0) (hbig : ¬ 4096 < n0) :
    Calls Try.prog 3 #[.slice A0 n0 c0] w (LawDone w) := by
  have hd : decide ((4096 : Int) < n0) = false := by simp; omega
  go_enter Try.func3, Try.ntmps3
  go_wp2_with fail
  refine (big_any A0 n0 c0 w).mono ?_
  rw [hd]
  rintro e w1 ⟨rfl, rfl⟩
  clear hd
  go_wp2_with fail
  refine (drawMultiply_any A0 n0 c0 w (by omega) hB0).mono ?_
  rintro e w1 ⟨a, s, b, t, rfl, ⟨⟨a1, a2⟩, s1, s2⟩, ⟨⟨b1, b2⟩, t1, t2⟩, hb1⟩
  have G1 := (Gr.of_below hb1).trans (Gr.alloc (Gr.alloc (Gr.refl w1) (.cells #[.int .i64 a, .int .i64 s] 25)) (.cells #[.int .i64 b, .int .i64 t] 25))
  have L1 := (Hass.new (w := w1) (l := []) trivial [.int .i64 a, .int .i64 s] 25).new' [.int .i64 b, .int .i64 t] 25 (w1.heap.size + 1) (by simp)
  clear hb1
  go_wp2_with fail
  refine (muR_impl a s b t _).mono ?_
  rintro e w2 ⟨rfl, hg⟩
  have G2 := (G1.trans hg).alloc (.cells #[.int .i64 (muR a s b t).1.1, .int .i64 (muR a s b t).1.2] 25)
  have L2 := (L1.gr hg).new [.int .i64 (muR a s b t).1.1, .int .i64 (muR a s b t).1.2] 25
  clear L1 G1 hg
  have F := L2
  obtain ⟨-, ⟨l1, c1⟩, ⟨l2, c2⟩, -⟩ := F
  go_wp2_with fail
  clear l1 c1 l2 c2
  refine (muR_spec a s b t _).mono ?_
  rintro e w3 ⟨rfl, hg⟩
  have G3 := (G2.trans hg).alloc (.cells #[.int .i64 (muR a s b t).1.1, .int .i64 (muR a s b t).1.2] 25)
  have L3 := (L2.gr hg).new [.int .i64 (muR a s b t).1.1, .int .i64 (muR a s b t).1.2] 25
  clear L2 G2 hg
  go_wp2_with fail
  refine (drawMake_any A0 n0 c0 _ (by omega) (hB0.later G3.below)).mono ?_
  rintro e w4 ⟨n, d, rfl, -, -, hb⟩
  have G4 := G3.trans (Gr.of_below hb)
  have L4 := L3.below hb
  clear L3 G3 hb
  go_wp2_with fail
  refine (mkR_impl n d _).mono ?_
  rintro e w5 ⟨rfl, hg⟩
  have G5 := (G4.trans hg).alloc (.cells #[.int .i64 (mkR n d).1.1, .int .i64 (mkR n d).1.2] 25)
  have L5 := (L4.gr hg).new [.int .i64 (mkR n d).1.1, .int .i64 (mkR n d).1.2] 25
  clear L4 G4 hg
  go_wp2_with fail
  refine (mkR_spec n d _).mono ?_
  rintro e w6 ⟨rfl, hg⟩
  have G6 := (G5.trans hg).alloc (.cells #[.int .i64 (mkR n d).1.1, .int .i64 (mkR n d).1.2] 25)
  have L6 := (L5.gr hg).new [.int .i64 (mkR n d).1.1, .int .i64 (mkR n d).1.2] 25
  clear L5 G5 hg
  go_wp2_with fail
  refine (drawIsFigure_any A0 n0 c0 _ (by omega) (hB0.later G6.below)).mono ?_
  rintro e w7 ⟨x, y, rfl, -, hb⟩
  have G7 := (G6.trans (Gr.of_below hb)).alloc (.cells #[.int .i64 x, .int .i64 y] 25)
  have L7 := (L6.below hb).new [.int .i64 x, .int .i64 y] 25
  clear L6 G6 hb
  have HM := Lib.hid (muR_facts a s b t)
  have HK := Lib.hid (mkR_facts n d)
  go_wp2_with fail
  generalize w7.alloc (.cells #[.int .i64 x, .int .i64 y] 25) = W at *
  have LL := L7
  obtain ⟨⟨r0, d0⟩, ⟨r1, d1⟩, ⟨r2, d2⟩, ⟨r3, d3⟩, ⟨r4, d4⟩, ⟨r5, d5⟩, ⟨r6, d6⟩, -⟩ := LL
  have hk : (((mkR n d).2 == 0) = false) ∨ ((mkR n d).2 = 0 ∧ fg (mkR n d).1.1 (mkR n d).1.2 = true) := by
    rcases HK.out with h | ⟨h, h'⟩
    · exact .inl (by rw [h]; rfl)
    · exact .inr ⟨h, h'⟩
  clear HK
  have hm : (((muR a s b t).2 != 0) = true) ∨ ((muR a s b t).2 = 0 ∧ fg a s = true ∧ fg b t = true ∧ (muR a s b t).1 = rdd (a * b) 1 (s + t - 3) ∧ fg (muR a s b t).1.1 (muR a s b t).1.2 = true) := by
    rcases HM.out with ⟨h, -⟩ | h
    · exact .inl (by simp [h])
    · exact .inr h
  clear HM
  have HC := Lib.hid (muR_comm a s b t)
  have HE := Lib.hid (mul_end a s b t)
  generalize (mkR n d).1.1 = m1 at *
  generalize (mkR n d).1.2 = m2 at *
  generalize (mkR n d).2 = mc at *
  generalize hp1 : (muR a s b t).1.1 = p at *
  generalize hq1 : (muR a s b t).1.2 = q at *
  generalize hc1 : (muR a s b t).2 = cm at *
  have HP := Lib.hid hp1
  have HQ := Lib.hid hq1
  have HR := Lib.hid hc1
  clear hp1 hq1 hc1
  rcases hk with hk | ⟨rfl, hf⟩
  · rcases hm with hm | ⟨rfl, f1, f2, f3, f4⟩
    · ((first | refine region_gr_on (by kernel_rfl) (by kernel_rfl) ?_ | refine region_gr (by kernel_rfl) (by kernel_rfl) ?_); (repeat (quiet_step ({first | exact Calls.gr_of (isFigure_impl _ _ _) | exact Calls.gr_of (isFigure_spec _ _ _)}))); refine wpQuiet_nil ?_; intro _ hw'; obtain ⟨⟨kq, oq⟩, hw''⟩ := hw'; subst hw'')
      go_wp2_with fail
      go_ret
      exact ⟨rfl, (G7.gr _ _).below⟩
    · have hE := HE.out f1 f2 f3
      obtain ⟨⟨p1, p2⟩, q1, q2⟩ := (fg_iff p q).1 f4
      obtain ⟨⟨a3, a4⟩, s3, s4⟩ := (fg_iff a s).1 f1
      obtain ⟨⟨b3, b4⟩, t3, t4⟩ := (fg_iff b t).1 f2
      obtain ⟨e1, e2⟩ := prod_bd a b a3 a4 b3 b4
      clear f1 f2 f3 f4 HE
      ((first | refine region_gr_on (by kernel_rfl) (by kernel_rfl) ?_ | refine region_gr (by kernel_rfl) (by kernel_rfl) ?_); (repeat (quiet_step ({first | exact Calls.gr_of (isFigure_impl _ _ _) | exact Calls.gr_of (isFigure_spec _ _ _)}))); refine wpQuiet_nil ?_; intro _ hw'; obtain ⟨⟨kq, oq⟩, hw''⟩ := hw'; subst hw'')
      go_wp2_with fail
      refine (muR_impl b t a s _).mono ?_
      rw [HC.out, HP.out, HQ.out, HR.out]
      rintro e w8 ⟨rfl, hg⟩
      have G8 := ((G7.gr kq oq).trans hg).alloc (.cells #[.int .i64 p, .int .i64 q] 25)
      have L8 := ((L7.gr ((Gr.refl W).gr kq oq)).gr hg).new [.int .i64 p, .int .i64 q] 25
      clear r0 d0 r1 d1 r2 d2 r3 d3 r4 d4 r5 d5 r6 d6
      obtain ⟨⟨r0, d0⟩, -, -, -, -, ⟨r5, d5⟩, ⟨r6, d6⟩, ⟨r7, d7⟩, -⟩ := L8
      rcases hE with ⟨hq, h1, h2⟩ | ⟨hq, h1, h2⟩
      all_goals
        go_wp2_with fail
        go_ret
        exact ⟨rfl, G8.below⟩
  · have HF0 : True := trivial
    rcases hm with hm | ⟨rfl, f1, f2, f3, f4⟩
    · ((first | refine region_gr_on (by kernel_rfl) (by kernel_rfl) ?_ | refine region_gr (by kernel_rfl) (by kernel_rfl) ?_); (repeat (quiet_step ({first | exact Calls.gr_of (isFigure_impl _ _ _) | exact Calls.gr_of (isFigure_spec _ _ _)}))); refine wpQuiet_nil ?_; intro _ hw'; obtain ⟨⟨kq, oq⟩, hw''⟩ := hw'; subst hw'')
      go_wp2_with fail
      go_ret
      exact ⟨rfl, (G7.gr _ _).below⟩
    · have hE := HE.out f1 f2 f3
      obtain ⟨⟨p1, p2⟩, q1, q2⟩ := (fg_iff p q).1 f4
      obtain ⟨⟨a3, a4⟩, s3, s4⟩ := (fg_iff a s).1 f1
      obtain ⟨⟨b3, b4⟩, t3, t4⟩ := (fg_iff b t).1 f2
      obtain ⟨e1, e2⟩ := prod_bd a b a3 a4 b3 b4
      clear f1 f2 f3 f4 HE
      ((first | refine region_gr_on (by kernel_rfl) (by kernel_rfl) ?_ | refine region_gr (by kernel_rfl) (by kernel_rfl) ?_); (repeat (quiet_step ({first | exact Calls.gr_of (isFigure_impl _ _ _) | exact Calls.gr_of (isFigure_spec _ _ _)}))); refine wpQuiet_nil ?_; intro _ hw'; obtain ⟨⟨kq, oq⟩, hw''⟩ := hw'; subst hw'')
      go_wp2_with fail
      refine (muR_impl b t a s _).mono ?_
      rw [HC.out, HP.out, HQ.out, HR.out]
      rintro e w8 ⟨rfl, hg⟩
      have G8 := ((G7.gr kq oq).trans hg).alloc (.cells #[.int .i64 p, .int .i64 q] 25)
      have L8 := ((L7.gr ((Gr.refl W).gr kq oq)).gr hg).new [.int .i64 p, .int .i64 q] 25
      clear r0 d0 r1 d1 r2 d2 r3 d3 r4 d4 r5 d5 r6 d6
      obtain ⟨⟨r0, d0⟩, -, -, -, -, ⟨r5, d5⟩, ⟨r6, d6⟩, ⟨r7, d7⟩, -⟩ := L8
      rcases hE with ⟨hq, h1, h2⟩ | ⟨hq, h1, h2⟩
      all_goals
        go_wp2_with fail
        go_ret
        exact ⟨rfl, G8.below⟩

set_option maxHeartbeats 4000000 in
set_option maxRecDepth 100000 in
theorem walk (w : World) (A0 : Option Addr) (n0 c0 : Nat) (hB0 : Bytes w w.heap.size A0 n0) :
    Calls Try.prog 3 #[.slice A0 n0 c0] w (LawDone w) := by
  by_cases hbig : 4096 < n0
  · have hd : decide ((4096 : Int) < n0) = true := by simp; omega
    go_enter Try.func3, Try.ntmps3
    go_wp2_with fail
    refine (big_any A0 n0 c0 w).mono ?_
    rw [hd]
    rintro e w1 ⟨rfl, rfl⟩
    go_wp2_with fail
    go_ret
    exact ⟨rfl, Below.refl _ _⟩
  · exact walk1 w A0 n0 c0 hB0 hbig

set_option maxRecDepth 100000 in
theorem lifted (os : Os) (started : os.Started) (H : Type) (enc : TypeId × Value → H) :
    ReturnsInHanded {} Try.checked os 3 .any (Rows.fnFiguresSpec.pre6 enc Try.prog Try.f3 Rows.fnFiguresRow.domain false) (Rows.fnFiguresSpec.post enc Try.prog Try.f3 false true false false) := by
  refine returnsInHanded_of_change (C := Try.checked) own started (by kernel_rfl) Try.func3
    (ChangeSpec.witness6 (enc := enc) (C := Try.checked) false ⟨#[], #[.slice none 0 0], []⟩ 8 (by kernel_rfl) (by kernel_rfl) (by kernel_rfl) (by kernel_rfl)) ?_
  intro W base args ds gs before hval0 hW hcnd _
  have hval : ∀ (j : Nat) t v, Try.f3.params[j]? = some t → args[j]? = some v → Value.okWide Try.prog W .any base t v := hval0
  have hW' := hW
  obtain ⟨p, q, hA0, hV, hpq, hfz, hnd⟩ := hW
  have hA : DataW.TrodAll enc Try.prog W 0 (fun _ => true) true Try.f3.params.toList args.toList ds p := hA0
  have hT := hA
  obtain ⟨rfl, rfl⟩ := trodVars_none hV
  rw [Try.params3] at hA hval
  obtain ⟨v0, vs0, d0, ds0, p0, q0, hargs, rfl, rfl, h0, r0⟩ := trodAll_cons hA
  obtain ⟨rfl, rfl, rfl⟩ := trodAll_nil r0
  obtain rfl : args = #[v0] := by cases args; simp_all
  obtain ⟨A0, n0, c0, rfl, -, hB0⟩ := open_code Try.underlying22 Try.underlying5 (by kernel_rfl) (hval 0 22 v0 rfl rfl) h0
  clear hA0 hval0
  refine (walk W A0 n0 c0 hB0).mono fun e W' ⟨he, hb⟩ => ?_
  subst he
  exact ⟨_, rfl, law_post laidOut hW' hT hpq (by kernel_rfl) (fun _ _ => rfl) rfl rfl rfl Try.underlying4 hb⟩

theorem over : Rows.fnFiguresRow.holds Try.pinned (OpenSpec.ofChange Rows.fnFiguresSpec) :=
  OpenClaim.holds_of_wide 3 Try.f3 rfl rfl rfl rfl rfl rfl rfl ⟨rfl, rfl, rfl, rfl, rfl⟩ rfl rfl rfl rfl rfl (by kernel_rfl) Try.func3 (by kernel_rfl)
    (of_decide_eq_true (by kernel_rfl)) (by unfold Func.isWrapper; first | (rw [if_pos (by decide +kernel)]; kernel_rfl) | (rw [if_neg (by decide +kernel)]; exact ⟨rfl, rfl⟩))
    (fun os started H enc _ => lifted os started H enc)

theorem proved : Rows.FnFiguresSaid :=
  over
end Go.Proofs.Ytddnmhkhgpangaa.fnFigures
