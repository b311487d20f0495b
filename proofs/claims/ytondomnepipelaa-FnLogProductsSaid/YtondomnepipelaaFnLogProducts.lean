/- For every code of bytes the logarithms of a drawn product and the sums and differences of drawn intervals are as the law FnLogProducts says, and it returns true. No condition. -/
import Derived.Test.YtondomnepipelaaC02c
import Derived.Test.YtondomnepipelaaC03b
import Derived.Test.YtondomnepipelaaC03e
import Derived.Test.YtondomnepipelaaD6
import Derived.Test.YtondomnepipelaaSe
import Derived.Test.YtondomnepipelaaHs
import Derived.Test.YtondomnepipelaaBig
import Derived.Test.YtondomnepipelaaM10
import Derived.Test.YtondomnepipelaaM08
import Derived.Test.YtondomnepipelaaFr
import Derived.Test.YtondomnepipelaaRows
import Derived.WalkKit
import Derived.ProofKit
import Derived.OpenShut
namespace Go.Proofs.Ytondomnepipelaa.fnLogProducts
open Go.ChangeShapes Go.WideShapes Go.ChangeAt Go.RowKit
set_option linter.unusedVariables false
set_option linter.unusedSimpArgs false

theorem own : ownKnob Try.prog.godebug = none := by kernel_rfl

attribute [local go_sem high] guard_itv neq_itv guard_fig neq_fig
theorem inside_true (a b c d : Int) (w : World) (h1 : c ≤ a) (h2 : b ≤ d) :
    Calls Try.prog 23 #[.agg #[.int .i64 a, .int .i64 b], .agg #[.int .i64 c, .int .i64 d]] w fun e w' => e = .returned (.bool true) ∧ Gr w w' := by
  go_enter Try.func23, Try.ntmps23
  go_wp2
  go_ret
  exact ⟨rfl, (by repeat (first | with_reducible exact Gr.refl _ | with_reducible refine Gr.alloc ?_ _ | with_reducible refine Gr.gr ?_ _ _ | with_reducible refine Gr.drew ?_ | with_reducible refine Gr.drewN ?_ _))⟩
/-- A sum, and what was added taken away again. -/
theorem add_back (f g h i : Int) : (((adR f g h i).2 == 0) = false) ∨ ((adR f g h i).2 = 0 ∧
    ((suR (adR f g h i).1.1 (adR f g h i).1.2 h i).2 = 3 ∨ ((suR (adR f g h i).1.1 (adR f g h i).1.2 h i).2 = 0 ∧ (suR (adR f g h i).1.1 (adR f g h i).1.2 h i).1.1 ≤ f ∧ g ≤ (suR (adR f g h i).1.1 (adR f g h i).1.2 h i).1.2))) := by
  cases hb : (iv f g && iv h i)
  · left; rw [adR_no f g h i hb]; rfl
  · have hi : iv h i = true := by rw [Bool.and_eq_true] at hb; exact hb.2
    have := (iv_iff h i).1 hi
    rw [adR_ok f g h i hb]
    rcases rsi_code (f + h) (g + i) with ⟨c, v, j⟩ | ⟨c, -⟩
    · right
      rw [v, suR_ok _ _ _ _ (by rw [j, hi]; rfl)]
      refine ⟨c, ?_⟩
      rcases rsi_code (f + h - i) (g + i - h) with ⟨c', v', -⟩ | ⟨c', -⟩
      · right; rw [v']; simp only; omega
      · left; exact c'
    · left; rw [c]; rfl
/-- The logarithms of two figures, of their product, and the sum of the first two. -/
theorem logs_sum (a s b t : Int) : (((muR a s b t).2 != 0) = true) ∨ ((muR a s b t).2 = 0 ∧ flR a s = (((flg a s).1, (flg a s).2), 0) ∧ flR b t = (((flg b t).1, (flg b t).2), 0) ∧ flR (muR a s b t).1.1 (muR a s b t).1.2 = (((flg (muR a s b t).1.1 (muR a s b t).1.2).1, (flg (muR a s b t).1.1 (muR a s b t).1.2).2), 0) ∧
    adR (flg a s).1 (flg a s).2 (flg b t).1 (flg b t).2 = (((flg a s).1 + (flg b t).1, (flg a s).2 + (flg b t).2), 0) ∧
    (flg (muR a s b t).1.1 (muR a s b t).1.2).1 - ((flg a s).2 + (flg b t).2) ≤ 229 ∧ ((flg a s).1 + (flg b t).1) - (flg (muR a s b t).1.1 (muR a s b t).1.2).2 ≤ 229 ∧
    (-40000000 ≤ (flg a s).1 ∧ (flg a s).1 ≤ 40000000) ∧ (-40000000 ≤ (flg a s).2 ∧ (flg a s).2 ≤ 40000000) ∧ (-40000000 ≤ (flg b t).1 ∧ (flg b t).1 ≤ 40000000) ∧ (-40000000 ≤ (flg b t).2 ∧ (flg b t).2 ≤ 40000000) ∧
    (-40000000 ≤ (flg (muR a s b t).1.1 (muR a s b t).1.2).1 ∧ (flg (muR a s b t).1.1 (muR a s b t).1.2).1 ≤ 40000000) ∧ (-40000000 ≤ (flg (muR a s b t).1.1 (muR a s b t).1.2).2 ∧ (flg (muR a s b t).1.1 (muR a s b t).1.2).2 ≤ 40000000)) := by
  rcases muR_facts a s b t with ⟨h, -⟩ | ⟨h, ha, hb, -, hp⟩
  · exact .inl (by simp [h])
  · right
    obtain ⟨g1, g2⟩ := flg_prod a s b t h
    have ba := flg_bd a s ha
    have bb := flg_bd b t hb
    have bp := flg_bd _ _ hp
    have wa := flg_width a s ha
    have wb := flg_width b t hb
    refine ⟨h, flR_ok a s ha, flR_ok b t hb, flR_ok _ _ hp, ?_, g1, g2, by omega, by omega, by omega, by omega, by omega, by omega⟩
    have ia : iv (flg a s).1 (flg a s).2 = true := (iv_iff _ _).2 (by omega)
    have ib : iv (flg b t).1 (flg b t).2 = true := (iv_iff _ _).2 (by omega)
    rw [adR_ok _ _ _ _ (by rw [ia, ib]; rfl), rsi_ok _ _ ((iv_iff _ _).2 (by omega))]

set_option maxHeartbeats 4000000 in
set_option maxRecDepth 100000 in
/-- The walk of a code that is not too long. -/
theorem walk1 (w : World) (A0 : Option Addr) (n0 c0 : Nat) (hB0 : Bytes w w.heap.size A0 n0) (hbig : ¬ 4096 < n0) :
    Calls Try.prog 4 #[.slice A0 n0 c0] w (LawDone w) := by
  have hd : decide ((4096 : Int) < n0) = false := by simp; omega
  go_enter Try.func4, Try.ntmps4
  go_wp2_with fail
  refine (big_any A0 n0 c0 w).mono ?_
  rw [hd]
  rintro e w1 ⟨rfl, rfl⟩
  clear hd
  go_wp2_with fail
  refine (drawMultiply_any A0 n0 c0 w (by omega) hB0).mono ?_
  rintro e w1 ⟨a, s, b, t, rfl, -, -, hb⟩
  have G1 := (((Gr.of_below hb).alloc (.cells #[.int .i64 a, .int .i64 s] 25)).alloc (.cells #[.int .i64 b, .int .i64 t] 25))
  have L1 := (((show Hass w1 [] from trivial).new' [.int .i64 a, .int .i64 s] 25 (w1.heap.size) (by simp)).new' [.int .i64 b, .int .i64 t] 25 (w1.heap.size + 1) (by simp))
  clear hb
  go_wp2_with fail
  refine (muR_impl a s b t _).mono ?_
  rintro e w2 ⟨rfl, hg⟩
  have G2 := ((G1.trans hg).alloc (.cells #[.int .i64 ((muR a s b t).1.1), .int .i64 ((muR a s b t).1.2)] 25))
  have L2 := ((L1.gr hg).new' [.int .i64 ((muR a s b t).1.1), .int .i64 ((muR a s b t).1.2)] 25 (w2.heap.size) (by simp))
  clear L1 G1 hg
  have F := L2
  obtain ⟨-, ⟨l1, z1⟩, ⟨l2, z2⟩, -⟩ := F
  go_wp2_with fail
  clear l1 z1 l2 z2
  refine (muR_spec a s b t _).mono ?_
  rintro e w3 ⟨rfl, hg⟩
  have G3 := ((G2.trans hg).alloc (.cells #[.int .i64 ((muR a s b t).1.1), .int .i64 ((muR a s b t).1.2)] 25))
  have L3 := ((L2.gr hg).new' [.int .i64 ((muR a s b t).1.1), .int .i64 ((muR a s b t).1.2)] 25 (w3.heap.size) (by simp))
  clear L2 G2 hg
  go_wp2_with fail
  refine (drawAdd_any A0 n0 c0 _ (by omega) (hB0.later G3.below)).mono ?_
  rintro e w4 ⟨f, g, h, i, rfl, -, -, hb⟩
  have G4 := (((G3.trans (Gr.of_below hb)).alloc (.cells #[.int .i64 f, .int .i64 g] 28)).alloc (.cells #[.int .i64 h, .int .i64 i] 28))
  have L4 := (((L3.below hb).new' [.int .i64 f, .int .i64 g] 28 (w4.heap.size) (by simp)).new' [.int .i64 h, .int .i64 i] 28 (w4.heap.size + 1) (by simp))
  clear L3 G3 hb
  go_wp2_with fail
  refine (adR_impl f g h i _).mono ?_
  rintro e w5 ⟨rfl, hg⟩
  have G5 := ((G4.trans hg).alloc (.cells #[.int .i64 ((adR f g h i).1.1), .int .i64 ((adR f g h i).1.2)] 28))
  have L5 := ((L4.gr hg).new' [.int .i64 ((adR f g h i).1.1), .int .i64 ((adR f g h i).1.2)] 28 (w5.heap.size) (by simp))
  clear L4 G4 hg
  have F := L5
  obtain ⟨-, ⟨l1, z1⟩, ⟨l2, z2⟩, -⟩ := F
  go_wp2_with fail
  clear l1 z1 l2 z2
  refine (adR_spec f g h i _).mono ?_
  rintro e w6 ⟨rfl, hg⟩
  have G6 := ((G5.trans hg).alloc (.cells #[.int .i64 ((adR f g h i).1.1), .int .i64 ((adR f g h i).1.2)] 28))
  have L6 := ((L5.gr hg).new' [.int .i64 ((adR f g h i).1.1), .int .i64 ((adR f g h i).1.2)] 28 (w6.heap.size) (by simp))
  clear L5 G5 hg
  go_wp2_with fail
  refine (drawSub_any A0 n0 c0 _ (by omega) (hB0.later G6.below)).mono ?_
  rintro e w7 ⟨j, k, l, m, rfl, -, -, hb⟩
  have G7 := (((G6.trans (Gr.of_below hb)).alloc (.cells #[.int .i64 j, .int .i64 k] 28)).alloc (.cells #[.int .i64 l, .int .i64 m] 28))
  have L7 := (((L6.below hb).new' [.int .i64 j, .int .i64 k] 28 (w7.heap.size) (by simp)).new' [.int .i64 l, .int .i64 m] 28 (w7.heap.size + 1) (by simp))
  clear L6 G6 hb
  go_wp2_with fail
  refine (suR_impl j k l m _).mono ?_
  rintro e w8 ⟨rfl, hg⟩
  have G8 := ((G7.trans hg).alloc (.cells #[.int .i64 ((suR j k l m).1.1), .int .i64 ((suR j k l m).1.2)] 28))
  have L8 := ((L7.gr hg).new' [.int .i64 ((suR j k l m).1.1), .int .i64 ((suR j k l m).1.2)] 28 (w8.heap.size) (by simp))
  clear L7 G7 hg
  have F := L8
  obtain ⟨-, ⟨l1, z1⟩, ⟨l2, z2⟩, -⟩ := F
  go_wp2_with fail
  clear l1 z1 l2 z2
  refine (suR_spec j k l m _).mono ?_
  rintro e w9 ⟨rfl, hg⟩
  have G9 := ((G8.trans hg).alloc (.cells #[.int .i64 ((suR j k l m).1.1), .int .i64 ((suR j k l m).1.2)] 28))
  have L9 := ((L8.gr hg).new' [.int .i64 ((suR j k l m).1.1), .int .i64 ((suR j k l m).1.2)] 28 (w9.heap.size) (by simp))
  clear L8 G8 hg
  have hA := add_back f g h i
  have hM := logs_sum a s b t
  have F := L9
  obtain ⟨⟨l0, z0⟩, ⟨l1, z1⟩, ⟨l2, z2⟩, ⟨l3, z3⟩, ⟨l4, z4⟩, ⟨l5, z5⟩, ⟨l6, z6⟩, ⟨l7, z7⟩, ⟨l8, z8⟩, ⟨l9, z9⟩, ⟨l10, z10⟩, ⟨l11, z11⟩, -⟩ := F
  generalize (suR j k l m).1.1 = v1 at *
  generalize (suR j k l m).1.2 = v2 at *
  generalize (suR j k l m).2 = v3 at *
  generalize (muR a s b t).1.1 = p at *
  generalize (muR a s b t).1.2 = q at *
  generalize (muR a s b t).2 = cm at *
  generalize (adR f g h i).1.1 = s1 at *
  generalize (adR f g h i).1.2 = s2 at *
  generalize (adR f g h i).2 = so at *
  have HM := Lib.hid hM
  clear hM
  rcases hA with hA | ⟨rfl, hA⟩
  · rcases HM.out with hm | ⟨hm, e1, e2, e3, e4, g1, g2, ⟨x1, x2⟩, ⟨x3, x4⟩, ⟨x5, x6⟩, ⟨x7, x8⟩, ⟨x9, x10⟩, ⟨x11, x12⟩⟩
    · go_wp2_with fail
      go_ret
      exact ⟨rfl, G9.below⟩
    · have E1 := Lib.hid e1
      have E2 := Lib.hid e2
      have E3 := Lib.hid e3
      have E4 := Lib.hid e4
      subst hm
      clear e1 e2 e3 e4 HM
      generalize (flg a s).1 = u1 at *
      generalize (flg a s).2 = u2 at *
      generalize (flg b t).1 = u3 at *
      generalize (flg b t).2 = u4 at *
      generalize (flg p q).1 = u5 at *
      generalize (flg p q).2 = u6 at *
      go_wp2_with fail
      clear l0 z0 l1 z1 l2 z2 l3 z3 l4 z4 l5 z5 l6 z6 l7 z7 l8 z8 l9 z9 l10 z10 l11 z11
      refine (flR_impl a s _).mono ?_
      rw [E1.out]
      rintro e y1 ⟨rfl, hg⟩
      have GA := (G9.trans hg).alloc (.cells #[.int .i64 u1, .int .i64 u2] 28)
      have LA := (L9.gr hg).new [.int .i64 u1, .int .i64 u2] 28
      clear hg
      have F := LA
      obtain ⟨-, -, -, -, -, -, -, -, -, -, -, ⟨l11, z11⟩, -⟩ := F
      go_wp2_with fail
      clear l11 z11
      refine (flR_impl b t _).mono ?_
      rw [E2.out]
      rintro e y2 ⟨rfl, hg⟩
      have GB := (GA.trans hg).alloc (.cells #[.int .i64 u3, .int .i64 u4] 28)
      have LB := (LA.gr hg).new [.int .i64 u3, .int .i64 u4] 28
      clear hg
      have F := LB
      obtain ⟨-, -, -, -, -, -, -, -, -, -, -, ⟨l11, z11⟩, -⟩ := F
      go_wp2_with fail
      clear l11 z11
      refine (flR_impl p q _).mono ?_
      rw [E3.out]
      rintro e y3 ⟨rfl, hg⟩
      have GC := (GB.trans hg).alloc (.cells #[.int .i64 u5, .int .i64 u6] 28)
      have LC := (LB.gr hg).new [.int .i64 u5, .int .i64 u6] 28
      clear hg
      have F := LC
      obtain ⟨-, ⟨l1, z1⟩, ⟨l2, z2⟩, -⟩ := F
      go_wp2_with fail
      clear l1 z1 l2 z2
      refine (adR_impl u1 u2 u3 u4 _).mono ?_
      rw [E4.out]
      rintro e y4 ⟨rfl, hg⟩
      have GD := (GC.trans hg).alloc (.cells #[.int .i64 (u1 + u3), .int .i64 (u2 + u4)] 28)
      have LD := (LC.gr hg).new [.int .i64 (u1 + u3), .int .i64 (u2 + u4)] 28
      clear hg
      have F := LD
      obtain ⟨⟨l0, z0⟩, ⟨l1, z1⟩, -⟩ := F
      go_wp2_with fail
      go_ret
      exact ⟨rfl, GD.below⟩
  · have HB := Lib.hid hA
    clear hA
    go_wp2_with fail
    clear l0 z0 l1 z1 l2 z2 l3 z3 l4 z4 l5 z5 l6 z6 l7 z7 l8 z8 l9 z9 l10 z10 l11 z11
    refine (suR_impl s1 s2 h i _).mono ?_
    rintro e w10 ⟨rfl, hg⟩
    have G10 := (G9.trans hg).alloc (.cells #[.int .i64 (suR s1 s2 h i).1.1, .int .i64 (suR s1 s2 h i).1.2] 28)
    have L10 := (L9.gr hg).new [.int .i64 (suR s1 s2 h i).1.1, .int .i64 (suR s1 s2 h i).1.2] 28
    clear hg
    rcases HB.out with h0 | ⟨h0, i1, i2⟩
    · rw [h0]
      clear h0 HB
      rcases HM.out with hm | ⟨hm, e1, e2, e3, e4, g1, g2, ⟨x1, x2⟩, ⟨x3, x4⟩, ⟨x5, x6⟩, ⟨x7, x8⟩, ⟨x9, x10⟩, ⟨x11, x12⟩⟩
      · go_wp2_with fail
        go_ret
        exact ⟨rfl, G10.below⟩
      · have E1 := Lib.hid e1
        have E2 := Lib.hid e2
        have E3 := Lib.hid e3
        have E4 := Lib.hid e4
        subst hm
        clear e1 e2 e3 e4 HM
        generalize (flg a s).1 = u1 at *
        generalize (flg a s).2 = u2 at *
        generalize (flg b t).1 = u3 at *
        generalize (flg b t).2 = u4 at *
        generalize (flg p q).1 = u5 at *
        generalize (flg p q).2 = u6 at *
        have F := L10
        obtain ⟨-, -, -, -, -, -, -, -, -, -, -, -, ⟨l12, z12⟩, -⟩ := F
        go_wp2_with fail
        clear l12 z12
        refine (flR_impl a s _).mono ?_
        rw [E1.out]
        rintro e y1 ⟨rfl, hg⟩
        have GA := (G10.trans hg).alloc (.cells #[.int .i64 u1, .int .i64 u2] 28)
        have LA := (L10.gr hg).new [.int .i64 u1, .int .i64 u2] 28
        clear hg
        have F := LA
        obtain ⟨-, -, -, -, -, -, -, -, -, -, -, -, ⟨l12, z12⟩, -⟩ := F
        go_wp2_with fail
        clear l12 z12
        refine (flR_impl b t _).mono ?_
        rw [E2.out]
        rintro e y2 ⟨rfl, hg⟩
        have GB := (GA.trans hg).alloc (.cells #[.int .i64 u3, .int .i64 u4] 28)
        have LB := (LA.gr hg).new [.int .i64 u3, .int .i64 u4] 28
        clear hg
        have F := LB
        obtain ⟨-, -, -, -, -, -, -, -, -, -, -, -, ⟨l12, z12⟩, -⟩ := F
        go_wp2_with fail
        clear l12 z12
        refine (flR_impl p q _).mono ?_
        rw [E3.out]
        rintro e y3 ⟨rfl, hg⟩
        have GC := (GB.trans hg).alloc (.cells #[.int .i64 u5, .int .i64 u6] 28)
        have LC := (LB.gr hg).new [.int .i64 u5, .int .i64 u6] 28
        clear hg
        have F := LC
        obtain ⟨-, ⟨l1, z1⟩, ⟨l2, z2⟩, -⟩ := F
        go_wp2_with fail
        clear l1 z1 l2 z2
        refine (adR_impl u1 u2 u3 u4 _).mono ?_
        rw [E4.out]
        rintro e y4 ⟨rfl, hg⟩
        have GD := (GC.trans hg).alloc (.cells #[.int .i64 (u1 + u3), .int .i64 (u2 + u4)] 28)
        have LD := (LC.gr hg).new [.int .i64 (u1 + u3), .int .i64 (u2 + u4)] 28
        clear hg
        have F := LD
        obtain ⟨⟨l0, z0⟩, ⟨l1, z1⟩, -⟩ := F
        go_wp2_with fail
        go_ret
        exact ⟨rfl, GD.below⟩
    · rw [h0]
      clear h0 HB
      generalize (suR s1 s2 h i).1.1 = b1 at *
      generalize (suR s1 s2 h i).1.2 = b2 at *
      have F := L10
      obtain ⟨⟨l0, z0⟩, -, -, -, -, -, -, -, ⟨l8, z8⟩, -⟩ := F
      go_wp2_with fail
      clear l0 z0 l8 z8
      refine (inside_true f g b1 b2 _ i1 i2).mono ?_
      rintro e w11 ⟨rfl, hg⟩
      have G11 := G10.trans hg
      have L11 := L10.gr hg
      clear hg
      rcases HM.out with hm | ⟨hm, e1, e2, e3, e4, g1, g2, ⟨x1, x2⟩, ⟨x3, x4⟩, ⟨x5, x6⟩, ⟨x7, x8⟩, ⟨x9, x10⟩, ⟨x11, x12⟩⟩
      · go_wp2_with fail
        go_ret
        exact ⟨rfl, G11.below⟩
      · have E1 := Lib.hid e1
        have E2 := Lib.hid e2
        have E3 := Lib.hid e3
        have E4 := Lib.hid e4
        subst hm
        clear e1 e2 e3 e4 HM
        generalize (flg a s).1 = u1 at *
        generalize (flg a s).2 = u2 at *
        generalize (flg b t).1 = u3 at *
        generalize (flg b t).2 = u4 at *
        generalize (flg p q).1 = u5 at *
        generalize (flg p q).2 = u6 at *
        have F := L11
        obtain ⟨-, -, -, -, -, -, -, -, -, -, -, -, ⟨l12, z12⟩, -⟩ := F
        go_wp2_with fail
        clear l12 z12
        refine (flR_impl a s _).mono ?_
        rw [E1.out]
        rintro e y1 ⟨rfl, hg⟩
        have GA := (G11.trans hg).alloc (.cells #[.int .i64 u1, .int .i64 u2] 28)
        have LA := (L11.gr hg).new [.int .i64 u1, .int .i64 u2] 28
        clear hg
        have F := LA
        obtain ⟨-, -, -, -, -, -, -, -, -, -, -, -, ⟨l12, z12⟩, -⟩ := F
        go_wp2_with fail
        clear l12 z12
        refine (flR_impl b t _).mono ?_
        rw [E2.out]
        rintro e y2 ⟨rfl, hg⟩
        have GB := (GA.trans hg).alloc (.cells #[.int .i64 u3, .int .i64 u4] 28)
        have LB := (LA.gr hg).new [.int .i64 u3, .int .i64 u4] 28
        clear hg
        have F := LB
        obtain ⟨-, -, -, -, -, -, -, -, -, -, -, -, ⟨l12, z12⟩, -⟩ := F
        go_wp2_with fail
        clear l12 z12
        refine (flR_impl p q _).mono ?_
        rw [E3.out]
        rintro e y3 ⟨rfl, hg⟩
        have GC := (GB.trans hg).alloc (.cells #[.int .i64 u5, .int .i64 u6] 28)
        have LC := (LB.gr hg).new [.int .i64 u5, .int .i64 u6] 28
        clear hg
        have F := LC
        obtain ⟨-, ⟨l1, z1⟩, ⟨l2, z2⟩, -⟩ := F
        go_wp2_with fail
        clear l1 z1 l2 z2
        refine (adR_impl u1 u2 u3 u4 _).mono ?_
        rw [E4.out]
        rintro e y4 ⟨rfl, hg⟩
        have GD := (GC.trans hg).alloc (.cells #[.int .i64 (u1 + u3), .int .i64 (u2 + u4)] 28)
        have LD := (LC.gr hg).new [.int .i64 (u1 + u3), .int .i64 (u2 + u4)] 28
        clear hg
        have F := LD
        obtain ⟨⟨l0, z0⟩, ⟨l1, z1⟩, -⟩ := F
        go_wp2_with fail
        go_ret
        exact ⟨rfl, GD.below⟩

set_option maxHeartbeats 4000000 in
set_option maxRecDepth 100000 in
theorem walk (w : World) (A0 : Option Addr) (n0 c0 : Nat) (hB0 : Bytes w w.heap.size A0 n0) :
    Calls Try.prog 4 #[.slice A0 n0 c0] w (LawDone w) := by
  by_cases hbig : 4096 < n0
  · have hd : decide ((4096 : Int) < n0) = true := by simp; omega
    go_enter Try.func4, Try.ntmps4
    go_wp2_with fail
    refine (big_any A0 n0 c0 w).mono ?_
    rw [hd]
    rintro e w1 ⟨rfl, rfl⟩
    go_wp2_with fail
    go_ret
    exact ⟨rfl, Below.refl _ _⟩
  · exact walk1 w A0 n0 c0 hB0 hbig

set_option maxRecDepth 100000 in
theorem lifted (os : Os) (started : os.Started) (H : Type) (enc : TypeId × Value → H) :
    ReturnsInHanded {} Try.checked os 4 .any (Rows.fnLogProductsSpec.pre6 enc Try.prog Try.f4 Rows.fnLogProductsRow.domain false) (Rows.fnLogProductsSpec.post enc Try.prog Try.f4 false true false false) := by
  refine returnsInHanded_of_change (C := Try.checked) own started (by kernel_rfl) Try.func4
    (ChangeSpec.witness6 (enc := enc) (C := Try.checked) false ⟨#[], #[.slice none 0 0], []⟩ 8 (by kernel_rfl) (by kernel_rfl) (by kernel_rfl) (by kernel_rfl)) ?_
  intro W base args ds gs before hval0 hW hcnd _
  have hval : ∀ (j : Nat) t v, Try.f4.params[j]? = some t → args[j]? = some v → Value.okWide Try.prog W .any base t v := hval0
  have hW' := hW
  obtain ⟨p, q, hA0, hV, hpq, hfz, hnd⟩ := hW
  have hA : DataW.TrodAll enc Try.prog W 0 (fun _ => true) true Try.f4.params.toList args.toList ds p := hA0
  have hT := hA
  obtain ⟨rfl, rfl⟩ := trodVars_none hV
  rw [Try.params4] at hA hval
  obtain ⟨v0, vs0, d0, ds0, p0, q0, hargs, rfl, rfl, h0, r0⟩ := trodAll_cons hA
  obtain ⟨rfl, rfl, rfl⟩ := trodAll_nil r0
  obtain rfl : args = #[v0] := by cases args; simp_all
  obtain ⟨A0, n0, c0, rfl, -, hB0⟩ := open_code Try.underlying22 Try.underlying5 (by kernel_rfl) (hval 0 22 v0 rfl rfl) h0
  clear hA0 hval0
  refine (walk W A0 n0 c0 hB0).mono fun e W' ⟨he, hb⟩ => ?_
  subst he
  exact ⟨_, rfl, law_post laidOut hW' hT hpq (by kernel_rfl) (fun _ _ => rfl) rfl rfl rfl Try.underlying4 hb⟩

theorem over : Rows.fnLogProductsRow.holds Try.pinned (OpenSpec.ofChange Rows.fnLogProductsSpec) :=
  OpenClaim.holds_of_wide 4 Try.f4 rfl rfl rfl rfl rfl rfl rfl ⟨rfl, rfl, rfl, rfl, rfl⟩ rfl rfl rfl rfl rfl (by kernel_rfl) Try.func4 (by kernel_rfl)
    (of_decide_eq_true (by kernel_rfl)) (by unfold Func.isWrapper; first | (rw [if_pos (by decide +kernel)]; kernel_rfl) | (rw [if_neg (by decide +kernel)]; exact ⟨rfl, rfl⟩))
    (fun os started H enc _ => lifted os started H enc)

theorem proved : Rows.FnLogProductsSaid :=
  over
end Go.Proofs.Ytondomnepipelaa.fnLogProducts
