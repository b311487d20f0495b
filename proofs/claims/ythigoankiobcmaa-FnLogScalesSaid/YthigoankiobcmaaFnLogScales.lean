/- For every code of bytes the scaled intervals, the mantissas and the widths of the drawn numbers are as the law FnLogScales says, and it returns true. No condition. -/
import Derived.Test.YthigoankiobcmaaC03c
import Derived.Test.YthigoankiobcmaaC03e
import Derived.Test.YthigoankiobcmaaD6
import Derived.Test.YthigoankiobcmaaSe
import Derived.Test.YthigoankiobcmaaHs
import Derived.Test.YthigoankiobcmaaMm
import Derived.Test.YthigoankiobcmaaBig
import Derived.Test.YthigoankiobcmaaM08
import Derived.Test.YthigoankiobcmaaFr
import Derived.Test.YthigoankiobcmaaRows
import Derived.WalkKit
import Derived.ProofKit
import Derived.OpenShut
namespace Go.Proofs.Ythigoankiobcmaa.fnLogScales
open Go.ChangeShapes Go.WideShapes Go.ChangeAt Go.RowKit
set_option linter.unusedVariables false
set_option linter.unusedSimpArgs false

theorem own : ownKnob Try.prog.godebug = none := by kernel_rfl

attribute [local go_sem high] guard_itv neq_itv run_imax
theorem inside_true (a b c d : Int) (w : World) (h1 : c ≤ a) (h2 : b ≤ d) :
    Calls Try.prog 31 #[.agg #[.int .i64 a, .int .i64 b], .agg #[.int .i64 c, .int .i64 d]] w fun e w' => e = .returned (.bool true) ∧ Gr w w' := by
  go_enter Try.func31, Try.ntmps31
  go_wp2
  go_ret
  exact ⟨rfl, (by repeat (first | with_reducible exact Gr.refl _ | with_reducible refine Gr.alloc ?_ _ | with_reducible refine Gr.gr ?_ _ _ | with_reducible refine Gr.drew ?_ | with_reducible refine Gr.drewN ?_ _))⟩

set_option maxHeartbeats 4000000 in
set_option maxRecDepth 100000 in
/-- The walk of a code that is not too long. -/
theorem walk1 (w : World) (A0 : Option Addr) (n0 c0 : Nat) (hB0 : Bytes w w.heap.size A0 n0) (hbig : ¬ 4096 < n0) :
    Calls Try.prog 5 #[.slice A0 n0 c0] w (LawDone w) := by
  have hd : decide ((4096 : Int) < n0) = false := by simp; omega
  go_enter Try.func5, Try.ntmps5
  go_wp2_with fail
  refine (big_any A0 n0 c0 w).mono ?_
  rw [hd]
  rintro e w1 ⟨rfl, rfl⟩
  clear hd
  go_wp2_with fail
  refine (drawScale_any A0 n0 c0 w (by omega) hB0).mono ?_
  rintro e w1 ⟨a, b, n, d, rfl, hI, ⟨n1, n2⟩, ⟨d1, d2⟩, hb⟩
  have G1 := ((Gr.of_below hb).alloc (.cells #[.int .i64 a, .int .i64 b] 28))
  have L1 := ((show Hass w1 [] from trivial).new' [.int .i64 a, .int .i64 b] 28 (w1.heap.size) (by simp))
  clear hb
  go_wp2_with fail
  refine (scR_impl a b n d _).mono ?_
  rintro e w2 ⟨rfl, hg⟩
  have G2 := ((G1.trans hg).alloc (.cells #[.int .i64 ((scR a b n d).1.1), .int .i64 ((scR a b n d).1.2)] 28))
  have L2 := ((L1.gr hg).new' [.int .i64 ((scR a b n d).1.1), .int .i64 ((scR a b n d).1.2)] 28 (w2.heap.size) (by simp))
  clear L1 G1 hg
  have F := L2
  obtain ⟨-, ⟨l1, z1⟩, -⟩ := F
  go_wp2_with fail
  clear l1 z1
  refine (scR_spec a b n d _).mono ?_
  rintro e w3 ⟨rfl, hg⟩
  have G3 := ((G2.trans hg).alloc (.cells #[.int .i64 ((scR a b n d).1.1), .int .i64 ((scR a b n d).1.2)] 28))
  have L3 := ((L2.gr hg).new' [.int .i64 ((scR a b n d).1.1), .int .i64 ((scR a b n d).1.2)] 28 (w3.heap.size) (by simp))
  clear L2 G2 hg
  go_wp2_with fail
  refine (drawMantissa_any A0 n0 c0 _ (by omega) (hB0.later G3.below)).mono ?_
  rintro e w4 ⟨u, rfl, hu, hb⟩
  have G4 := (G3.trans (Gr.of_below hb))
  have L4 := (L3.below hb)
  clear L3 G3 hb
  go_wp2_with fail
  refine (maR_impl u _).mono ?_
  rintro e w5 ⟨rfl, hg⟩
  have G5 := (G4.trans hg)
  have L5 := (L4.gr hg)
  clear L4 G4 hg
  go_wp2_with fail
  refine (maR_spec u _).mono ?_
  rintro e w6 ⟨rfl, hg⟩
  have G6 := (G5.trans hg)
  have L6 := (L5.gr hg)
  clear L5 G5 hg
  go_wp2_with fail
  refine (drawWidth_any A0 n0 c0 _ (by omega) (hB0.later G6.below)).mono ?_
  rintro e w7 ⟨f, g, rfl, -, hb⟩
  have G7 := ((G6.trans (Gr.of_below hb)).alloc (.cells #[.int .i64 f, .int .i64 g] 28))
  have L7 := ((L6.below hb).new' [.int .i64 f, .int .i64 g] 28 (w7.heap.size) (by simp))
  clear L6 G6 hb
  go_wp2_with fail
  refine (wiR_impl f g _).mono ?_
  rintro e w8 ⟨rfl, hg⟩
  have G8 := (G7.trans hg)
  have L8 := (L7.gr hg)
  clear L7 G7 hg
  have F := L8
  obtain ⟨⟨l0, z0⟩, -⟩ := F
  go_wp2_with fail
  clear l0 z0
  refine (wiR_spec f g _).mono ?_
  rintro e w9 ⟨rfl, hg⟩
  have G9 := (G8.trans hg)
  have L9 := (L8.gr hg)
  clear L8 G8 hg
  have HB := Lib.hid (scale_back a b n d)
  have hm := maR_facts u
  have hs : ((scR a b n d).2 != 0) = true ∨ ((scR a b n d).2 = 0) := by
    rcases scR_facts a b n d with h | ⟨h, -⟩
    · exact .inl (by simp [h])
    · exact .inr h
  have F := L9
  obtain ⟨⟨l0, z0⟩, ⟨l1, z1⟩, ⟨l2, z2⟩, ⟨l3, z3⟩, -⟩ := F
  generalize hp1 : (scR a b n d).1.1 = p at *
  generalize hq1 : (scR a b n d).1.2 = q at *
  generalize hc1 : (scR a b n d).2 = cs at *
  clear hp1 hq1 hc1
  generalize (wiR f g).1 = v1 at *
  generalize (wiR f g).2 = v2 at *
  generalize (maR u).1.1 = m1 at *
  generalize (maR u).1.2 = m2 at *
  generalize (maR u).2 = mc at *
  have hmc : (((mc : Int) == 0) = false) ∨ (mc = 0 ∧ 0 ≤ m1 ∧ m1 < 1048576 ∧ (-1000000 ≤ m2 ∧ m2 ≤ 1000000) ∧ m2 * 1048576 + m1 = u) := by
    rcases hm with h | h
    · exact .inl (by rw [h]; rfl)
    · exact .inr h
  clear hm hI
  unfold Near at hu
  go_wp2_with fail
  ((first | refine region_gr_on (by kernel_rfl) (by kernel_rfl) ?_ | refine region_gr (by kernel_rfl) (by kernel_rfl) ?_); (repeat (quiet_step ({first | exact Calls.gr_of (isInterval_impl _ _ _) | exact Calls.gr_of (isInterval_spec _ _ _)}))); refine wpQuiet_nil ?_; intro _ hw'; obtain ⟨⟨kq, oq⟩, hw''⟩ := hw'; subst hw'')
  rcases hmc with hmc | ⟨rfl, h1, h2, ⟨h3, h4⟩, h5⟩
  · rcases hs with hs | rfl
    · go_wp2_with fail
      go_ret
      exact ⟨rfl, (G9.gr _ _).below⟩
    · by_cases hn0 : n = 0
      · subst hn0
        go_wp2_with fail
        go_ret
        exact ⟨rfl, (G9.gr _ _).below⟩
      · have hnb : ((n : Int) == 0) = false := by simp [hn0]
        obtain ⟨B1, B2⟩ := HB.out (by simp)
        have hmax := imax_bd n (-n)
        by_cases hneg : n < 0
        · have B := Lib.hid (B2 hneg)
          clear B1 B2 hn0 HB
          go_wp2_with fail
          refine (scR_impl p q d _ _).mono ?_
          rintro e v1 ⟨rfl, hg⟩
          clear l0 z0 l1 z1 l2 z2 l3 z3
          generalize (scR p q d (imax n (-n))).1.1 = b1
          generalize (scR p q d (imax n (-n))).1.2 = b2
          generalize (scR p q d (imax n (-n))).2 = b3
          have GM := ((G9.gr kq oq).trans hg).alloc (.cells #[.int .i64 b1, .int .i64 b2] 28)
          have M := ((L9.gr ((Gr.refl w9).gr kq oq)).gr hg).new [.int .i64 b1, .int .i64 b2] 28
          have GV := (G9.gr kq oq).trans hg
          have M0 := (L9.gr ((Gr.refl w9).gr kq oq)).gr hg
          clear hg
          have F := M
          obtain ⟨-, -, -, ⟨l1, z1⟩, -, -⟩ := F
          go_wp2_with fail
          refine (scR_impl p q (-d) (-n) _).mono ?_
          rintro e v2 ⟨rfl, hg⟩
          obtain ⟨-, -, -, ⟨l3, z3⟩, -⟩ := M0
          have l3' : w1.heap.size < v1.heap.size + 1 := by omega
          obtain ⟨k9, os9, rfl⟩ := hg
          clear l1 z1 M
          rcases B.out with h | ⟨h, i1, i2⟩
          · rw [h]
            clear h
            go_wp2_with fail
            go_ret
            exact ⟨rfl, Gr.below (GV.trans (by repeat (first | with_reducible exact Gr.refl _ | with_reducible refine Gr.alloc ?_ _ | with_reducible refine Gr.gr ?_ _ _ | with_reducible refine Gr.drew ?_ | with_reducible refine Gr.drewN ?_ _)))⟩
          · rw [h]
            clear h
            generalize (scR p q (-d) (-n)).1.1 = y1 at *
            generalize (scR p q (-d) (-n)).1.2 = y2 at *
            go_wp2_with fail
            refine (inside_true a b y1 y2 _ i1 i2).mono ?_
            rintro e v2 ⟨rfl, k8, os8, rfl⟩
            go_wp2_with fail
            go_ret
            exact ⟨rfl, Gr.below (GV.trans (by repeat (first | with_reducible exact Gr.refl _ | with_reducible refine Gr.alloc ?_ _ | with_reducible refine Gr.gr ?_ _ _ | with_reducible refine Gr.drew ?_ | with_reducible refine Gr.drewN ?_ _)))⟩
        · have B := Lib.hid (B1 (by omega))
          have hm : imax n (-n) = n := by unfold imax; rw [if_neg (by omega)]
          clear B1 B2 hn0 HB
          go_wp2_with fail
          refine (scR_impl p q d n _).mono ?_
          rintro e v1 ⟨rfl, hg⟩
          clear l0 z0 l1 z1 l2 z2 l3 z3 hm
          have GM := ((G9.gr kq oq).trans hg).alloc (.cells #[.int .i64 (scR p q d n).1.1, .int .i64 (scR p q d n).1.2] 28)
          have M := ((L9.gr ((Gr.refl w9).gr kq oq)).gr hg).new [.int .i64 (scR p q d n).1.1, .int .i64 (scR p q d n).1.2] 28
          clear hg
          obtain ⟨⟨l0, z0⟩, -, -, -, ⟨l4, z4⟩, -⟩ := M
          rcases B.out with h | ⟨h, i1, i2⟩
          · rw [h]
            clear h
            go_wp2_with fail
            go_ret
            exact ⟨rfl, GM.below⟩
          · rw [h]
            clear h
            generalize (scR p q d n).1.1 = y1 at *
            generalize (scR p q d n).1.2 = y2 at *
            go_wp2_with fail
            refine (inside_true a b y1 y2 _ i1 i2).mono ?_
            rintro e v2 ⟨rfl, hg⟩
            go_wp2_with fail
            go_ret
            exact ⟨rfl, (GM.trans hg).below⟩
  · subst h5
    rcases hs with hs | rfl
    · go_wp2_with fail
      go_ret
      exact ⟨rfl, (G9.gr _ _).below⟩
    · by_cases hn0 : n = 0
      · subst hn0
        go_wp2_with fail
        go_ret
        exact ⟨rfl, (G9.gr _ _).below⟩
      · have hnb : ((n : Int) == 0) = false := by simp [hn0]
        obtain ⟨B1, B2⟩ := HB.out (by simp)
        have hmax := imax_bd n (-n)
        by_cases hneg : n < 0
        · have B := Lib.hid (B2 hneg)
          clear B1 B2 hn0 HB
          go_wp2_with fail
          refine (scR_impl p q d _ _).mono ?_
          rintro e v1 ⟨rfl, hg⟩
          clear l0 z0 l1 z1 l2 z2 l3 z3
          generalize (scR p q d (imax n (-n))).1.1 = b1
          generalize (scR p q d (imax n (-n))).1.2 = b2
          generalize (scR p q d (imax n (-n))).2 = b3
          have GM := ((G9.gr kq oq).trans hg).alloc (.cells #[.int .i64 b1, .int .i64 b2] 28)
          have M := ((L9.gr ((Gr.refl w9).gr kq oq)).gr hg).new [.int .i64 b1, .int .i64 b2] 28
          have GV := (G9.gr kq oq).trans hg
          have M0 := (L9.gr ((Gr.refl w9).gr kq oq)).gr hg
          clear hg
          have F := M
          obtain ⟨-, -, -, ⟨l1, z1⟩, -, -⟩ := F
          go_wp2_with fail
          refine (scR_impl p q (-d) (-n) _).mono ?_
          rintro e v2 ⟨rfl, hg⟩
          obtain ⟨-, -, -, ⟨l3, z3⟩, -⟩ := M0
          have l3' : w1.heap.size < v1.heap.size + 1 := by omega
          obtain ⟨k9, os9, rfl⟩ := hg
          clear l1 z1 M
          rcases B.out with h | ⟨h, i1, i2⟩
          · rw [h]
            clear h
            go_wp2_with fail
            go_ret
            exact ⟨rfl, Gr.below (GV.trans (by repeat (first | with_reducible exact Gr.refl _ | with_reducible refine Gr.alloc ?_ _ | with_reducible refine Gr.gr ?_ _ _ | with_reducible refine Gr.drew ?_ | with_reducible refine Gr.drewN ?_ _)))⟩
          · rw [h]
            clear h
            generalize (scR p q (-d) (-n)).1.1 = y1 at *
            generalize (scR p q (-d) (-n)).1.2 = y2 at *
            go_wp2_with fail
            refine (inside_true a b y1 y2 _ i1 i2).mono ?_
            rintro e v2 ⟨rfl, k8, os8, rfl⟩
            go_wp2_with fail
            go_ret
            exact ⟨rfl, Gr.below (GV.trans (by repeat (first | with_reducible exact Gr.refl _ | with_reducible refine Gr.alloc ?_ _ | with_reducible refine Gr.gr ?_ _ _ | with_reducible refine Gr.drew ?_ | with_reducible refine Gr.drewN ?_ _)))⟩
        · have B := Lib.hid (B1 (by omega))
          have hm : imax n (-n) = n := by unfold imax; rw [if_neg (by omega)]
          clear B1 B2 hn0 HB
          go_wp2_with fail
          refine (scR_impl p q d n _).mono ?_
          rintro e v1 ⟨rfl, hg⟩
          clear l0 z0 l1 z1 l2 z2 l3 z3 hm
          have GM := ((G9.gr kq oq).trans hg).alloc (.cells #[.int .i64 (scR p q d n).1.1, .int .i64 (scR p q d n).1.2] 28)
          have M := ((L9.gr ((Gr.refl w9).gr kq oq)).gr hg).new [.int .i64 (scR p q d n).1.1, .int .i64 (scR p q d n).1.2] 28
          clear hg
          obtain ⟨⟨l0, z0⟩, -, -, -, ⟨l4, z4⟩, -⟩ := M
          rcases B.out with h | ⟨h, i1, i2⟩
          · rw [h]
            clear h
            go_wp2_with fail
            go_ret
            exact ⟨rfl, GM.below⟩
          · rw [h]
            clear h
            generalize (scR p q d n).1.1 = y1 at *
            generalize (scR p q d n).1.2 = y2 at *
            go_wp2_with fail
            refine (inside_true a b y1 y2 _ i1 i2).mono ?_
            rintro e v2 ⟨rfl, hg⟩
            go_wp2_with fail
            go_ret
            exact ⟨rfl, (GM.trans hg).below⟩

set_option maxHeartbeats 4000000 in
set_option maxRecDepth 100000 in
theorem walk (w : World) (A0 : Option Addr) (n0 c0 : Nat) (hB0 : Bytes w w.heap.size A0 n0) :
    Calls Try.prog 5 #[.slice A0 n0 c0] w (LawDone w) := by
  by_cases hbig : 4096 < n0
  · have hd : decide ((4096 : Int) < n0) = true := by simp; omega
    go_enter Try.func5, Try.ntmps5
    go_wp2_with fail
    refine (big_any A0 n0 c0 w).mono ?_
    rw [hd]
    rintro e w1 ⟨rfl, rfl⟩
    go_wp2_with fail
    go_ret
    exact ⟨rfl, Below.refl _ _⟩
  · exact walk1 w A0 n0 c0 hB0 hbig

set_option maxRecDepth 100000 in
theorem lifted (os : Os) (started : os.Started) (H : Type) (enc : TypeId × Value → H) :
    ReturnsInHanded {} Try.checked os 5 .any (Rows.fnLogScalesSpec.pre6 enc Try.prog Try.f5 Rows.fnLogScalesRow.domain false) (Rows.fnLogScalesSpec.post enc Try.prog Try.f5 false true false false) := by
  refine returnsInHanded_of_change (C := Try.checked) own started (by kernel_rfl) Try.func5
    (ChangeSpec.witness6 (enc := enc) (C := Try.checked) false ⟨#[], #[.slice none 0 0], []⟩ 8 (by kernel_rfl) (by kernel_rfl) (by kernel_rfl) (by kernel_rfl)) ?_
  intro W base args ds gs before hval0 hW hcnd _
  have hval : ∀ (j : Nat) t v, Try.f5.params[j]? = some t → args[j]? = some v → Value.okWide Try.prog W .any base t v := hval0
  have hW' := hW
  obtain ⟨p, q, hA0, hV, hpq, hfz, hnd⟩ := hW
  have hA : DataW.TrodAll enc Try.prog W 0 (fun _ => true) true Try.f5.params.toList args.toList ds p := hA0
  have hT := hA
  obtain ⟨rfl, rfl⟩ := trodVars_none hV
  rw [Try.params5] at hA hval
  obtain ⟨v0, vs0, d0, ds0, p0, q0, hargs, rfl, rfl, h0, r0⟩ := trodAll_cons hA
  obtain ⟨rfl, rfl, rfl⟩ := trodAll_nil r0
  obtain rfl : args = #[v0] := by cases args; simp_all
  obtain ⟨A0, n0, c0, rfl, -, hB0⟩ := open_code Try.underlying22 Try.underlying5 (by kernel_rfl) (hval 0 22 v0 rfl rfl) h0
  clear hA0 hval0
  refine (walk W A0 n0 c0 hB0).mono fun e W' ⟨he, hb⟩ => ?_
  subst he
  exact ⟨_, rfl, law_post laidOut hW' hT hpq (by kernel_rfl) (fun _ _ => rfl) rfl rfl rfl Try.underlying4 hb⟩

theorem over : Rows.fnLogScalesRow.holds Try.pinned (OpenSpec.ofChange Rows.fnLogScalesSpec) :=
  OpenClaim.holds_of_wide 5 Try.f5 rfl rfl rfl rfl rfl rfl rfl ⟨rfl, rfl, rfl, rfl, rfl⟩ rfl rfl rfl rfl rfl (by kernel_rfl) Try.func5 (by kernel_rfl)
    (of_decide_eq_true (by kernel_rfl)) (by unfold Func.isWrapper; first | (rw [if_pos (by decide +kernel)]; kernel_rfl) | (rw [if_neg (by decide +kernel)]; exact ⟨rfl, rfl⟩))
    (fun os started H enc _ => lifted os started H enc)

theorem proved : Rows.FnLogScalesSaid :=
  over
end Go.Proofs.Ythigoankiobcmaa.fnLogScales
