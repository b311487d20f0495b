/- For every code of bytes the spans of the drawn figures and of the drawn interval are as the law FnSpans says, and it returns true. No condition. -/
import Derived.Test.YtipanchmhohlbaaC04e
import Derived.Test.YtipanchmhohlbaaC04g
import Derived.Test.YtipanchmhohlbaaC02c
import Derived.Test.YtipanchmhohlbaaD11
import Derived.Test.YtipanchmhohlbaaSe
import Derived.Test.YtipanchmhohlbaaHs
import Derived.Test.YtipanchmhohlbaaBig
import Derived.Test.YtipanchmhohlbaaM15
import Derived.Test.YtipanchmhohlbaaFr
import Derived.Test.YtipanchmhohlbaaRows
import Derived.WalkKit
import Derived.ProofKit
import Derived.OpenShut
namespace Go.Proofs.Ytipanchmhohlbaa.fnSpans
open Go.ChangeShapes Go.WideShapes Go.ChangeAt Go.RowKit
set_option linter.unusedVariables false
set_option linter.unusedSimpArgs false

theorem own : ownKnob Try.prog.godebug = none := by kernel_rfl

attribute [local go_sem high] guard_fig neq_fig eql_fig

set_option maxHeartbeats 4000000 in
set_option maxRecDepth 100000 in
/-- The walk of a code that is not too long. -/
theorem walk1 (w : World) (A0 : Option Addr) (n0 c0 : Nat) (hB0 : Bytes w w.heap.size A0 n0) (hbig : ¬ 4096 < n0) :
    Calls Try.prog 4 #[.slice A0 n0 c0] w (LawDone w) := by
  have hd : decide ((4096 : Int) < n0) = false := by simp; omega
  go_enter Try.func4, Try.ntmps4
  go_wp2_with fail
  refine (big_any A0 n0 c0 w).mono ?_
  rw [hd]
  rintro e w1 ⟨rfl, rfl⟩
  clear hd
  go_wp2_with fail
  refine (drawProductSpan_any A0 n0 c0 w (by omega) hB0).mono ?_
  rintro e w1 ⟨a, s, b, t, rfl, -, -, hb⟩
  have G1 := (((Gr.of_below hb).alloc (.cells #[.int .i64 a, .int .i64 s] 26)).alloc (.cells #[.int .i64 b, .int .i64 t] 26))
  have L1 := (((show Hass w1 [] from trivial).new' [.int .i64 a, .int .i64 s] 26 (w1.heap.size) (by simp)).new' [.int .i64 b, .int .i64 t] 26 (w1.heap.size + 1) (by simp))
  clear hb
  go_wp2_with fail
  refine (psR_impl a s b t _).mono ?_
  rintro e w2 ⟨rfl, hg⟩
  have G2 := (((G1.trans hg).alloc (.cells #[.int .i64 ((psR a s b t).a), .int .i64 ((psR a s b t).s)] 26)).alloc (.cells #[.int .i64 ((psR a s b t).b), .int .i64 ((psR a s b t).t)] 26))
  have L2 := (((L1.gr hg).new' [.int .i64 ((psR a s b t).a), .int .i64 ((psR a s b t).s)] 26 (w2.heap.size) (by simp)).new' [.int .i64 ((psR a s b t).b), .int .i64 ((psR a s b t).t)] 26 (w2.heap.size + 1) (by simp))
  clear L1 G1 hg
  have F := L2
  obtain ⟨-, -, ⟨l2, z2⟩, ⟨l3, z3⟩, -⟩ := F
  go_wp2_with fail
  clear l2 z2 l3 z3
  refine (psR_spec a s b t _).mono ?_
  rintro e w3 ⟨rfl, hg⟩
  have G3 := (((G2.trans hg).alloc (.cells #[.int .i64 ((psR a s b t).a), .int .i64 ((psR a s b t).s)] 26)).alloc (.cells #[.int .i64 ((psR a s b t).b), .int .i64 ((psR a s b t).t)] 26))
  have L3 := (((L2.gr hg).new' [.int .i64 ((psR a s b t).a), .int .i64 ((psR a s b t).s)] 26 (w3.heap.size) (by simp)).new' [.int .i64 ((psR a s b t).b), .int .i64 ((psR a s b t).t)] 26 (w3.heap.size + 1) (by simp))
  clear L2 G2 hg
  go_wp2_with fail
  refine (drawQuotientSpan_any A0 n0 c0 _ (by omega) (hB0.later G3.below)).mono ?_
  rintro e w4 ⟨x, u, y, v, rfl, -, -, hb⟩
  have G4 := (((G3.trans (Gr.of_below hb)).alloc (.cells #[.int .i64 x, .int .i64 u] 26)).alloc (.cells #[.int .i64 y, .int .i64 v] 26))
  have L4 := (((L3.below hb).new' [.int .i64 x, .int .i64 u] 26 (w4.heap.size) (by simp)).new' [.int .i64 y, .int .i64 v] 26 (w4.heap.size + 1) (by simp))
  clear L3 G3 hb
  go_wp2_with fail
  refine (qsR_impl x u y v _).mono ?_
  rintro e w5 ⟨rfl, hg⟩
  have G5 := (((G4.trans hg).alloc (.cells #[.int .i64 ((qsR x u y v).a), .int .i64 ((qsR x u y v).s)] 26)).alloc (.cells #[.int .i64 ((qsR x u y v).b), .int .i64 ((qsR x u y v).t)] 26))
  have L5 := (((L4.gr hg).new' [.int .i64 ((qsR x u y v).a), .int .i64 ((qsR x u y v).s)] 26 (w5.heap.size) (by simp)).new' [.int .i64 ((qsR x u y v).b), .int .i64 ((qsR x u y v).t)] 26 (w5.heap.size + 1) (by simp))
  clear L4 G4 hg
  have F := L5
  obtain ⟨-, -, ⟨l2, z2⟩, ⟨l3, z3⟩, -⟩ := F
  go_wp2_with fail
  clear l2 z2 l3 z3
  refine (qsR_spec x u y v _).mono ?_
  rintro e w6 ⟨rfl, hg⟩
  have G6 := (((G5.trans hg).alloc (.cells #[.int .i64 ((qsR x u y v).a), .int .i64 ((qsR x u y v).s)] 26)).alloc (.cells #[.int .i64 ((qsR x u y v).b), .int .i64 ((qsR x u y v).t)] 26))
  have L6 := (((L5.gr hg).new' [.int .i64 ((qsR x u y v).a), .int .i64 ((qsR x u y v).s)] 26 (w6.heap.size) (by simp)).new' [.int .i64 ((qsR x u y v).b), .int .i64 ((qsR x u y v).t)] 26 (w6.heap.size + 1) (by simp))
  clear L5 G5 hg
  go_wp2_with fail
  refine (drawSpanOf_any A0 n0 c0 _ (by omega) (hB0.later G6.below)).mono ?_
  rintro e w7 ⟨l, r, rfl, -, hb⟩
  have G7 := ((G6.trans (Gr.of_below hb)).alloc (.cells #[.int .i64 l, .int .i64 r] 30))
  have L7 := ((L6.below hb).new' [.int .i64 l, .int .i64 r] 30 (w7.heap.size) (by simp))
  clear L6 G6 hb
  go_wp2_with fail
  refine (spR_impl l r _).mono ?_
  rintro e w8 ⟨rfl, hg⟩
  have G8 := (((G7.trans hg).alloc (.cells #[.int .i64 ((spR l r).a), .int .i64 ((spR l r).s)] 26)).alloc (.cells #[.int .i64 ((spR l r).b), .int .i64 ((spR l r).t)] 26))
  have L8 := (((L7.gr hg).new' [.int .i64 ((spR l r).a), .int .i64 ((spR l r).s)] 26 (w8.heap.size) (by simp)).new' [.int .i64 ((spR l r).b), .int .i64 ((spR l r).t)] 26 (w8.heap.size + 1) (by simp))
  clear L7 G7 hg
  have F := L8
  obtain ⟨-, -, ⟨l2, z2⟩, -⟩ := F
  go_wp2_with fail
  clear l2 z2
  refine (spR_spec l r _).mono ?_
  rintro e w9 ⟨rfl, hg⟩
  have G9 := (((G8.trans hg).alloc (.cells #[.int .i64 ((spR l r).a), .int .i64 ((spR l r).s)] 26)).alloc (.cells #[.int .i64 ((spR l r).b), .int .i64 ((spR l r).t)] 26))
  have L9 := (((L8.gr hg).new' [.int .i64 ((spR l r).a), .int .i64 ((spR l r).s)] 26 (w9.heap.size) (by simp)).new' [.int .i64 ((spR l r).b), .int .i64 ((spR l r).t)] 26 (w9.heap.size + 1) (by simp))
  clear L8 G8 hg
  have hX := ps_facts a s b t
  have hY := qs_facts x u y v
  have hZ : (spR l r).c ≠ 0 ∨ ((spR l r).c = 0 ∧ btw (spR l r).a (spR l r).s (spR l r).a (spR l r).s (spR l r).b (spR l r).t) := by
    by_cases h : (spR l r).c = 0
    · exact .inr ⟨h, sp_order l r h⟩
    · exact .inl h
  have hD := Lib.hid (fun W => diR_impl x u y v W)
  have hM := Lib.hid (fun W => muR_impl a s b t W)
  generalize psR a s b t = X at *
  generalize qsR x u y v = Y at *
  generalize spR l r = Z at *
  obtain ⟨Xa, Xs, Xb, Xt, Xc⟩ := X
  obtain ⟨Ya, Ys, Yb, Yt, Yc⟩ := Y
  obtain ⟨Za, Zs, Zb, Zt, Zc⟩ := Z
  simp only at *
  have F := L9
  obtain ⟨⟨l0, z0⟩, ⟨l1, z1⟩, ⟨l2, z2⟩, ⟨l3, z3⟩, ⟨l4, z4⟩, ⟨l5, z5⟩, ⟨l6, z6⟩, ⟨l7, z7⟩, ⟨l8, z8⟩, ⟨l9, z9⟩, ⟨l10, z10⟩, ⟨l11, z11⟩, ⟨l12, z12⟩, ⟨l13, z13⟩, ⟨l14, z14⟩, ⟨l15, z15⟩, ⟨l16, z16⟩, -⟩ := F
  rcases hY with hY | ⟨rfl, hY1, hY2⟩
  · have kY : (Yc == 0) = false := by simp [hY]
    clear hY hD
    rcases hZ with hZ | ⟨rfl, hZ⟩
    · have kZ : (Zc == 0) = false := by simp [hZ]
      clear hZ
      rcases hX with hX | ⟨rfl, hX1, hX2⟩
      · have kX : (Xc != 0) = true := by simp [hX]
        clear hX hM
        go_wp2_with fail
        go_ret
        exact ⟨rfl, G9.below⟩
      · have WX := Lib.hid hX2
        rw [hX1] at hM
        clear hX1 hX2
        generalize (muR a s b t).1.1 = p2 at *
        generalize (muR a s b t).1.2 = q2 at *
        go_wp2_with fail
        clear l0 z0 l1 z1 l2 z2 l3 z3 l4 z4 l5 z5 l6 z6 l7 z7 l8 z8 l9 z9 l10 z10 l11 z11 l12 z12 l13 z13 l14 z14 l15 z15 l16 z16
        refine (hM.out _).mono ?_
        rintro e w10 ⟨rfl, hg⟩
        have G10 := (G9.trans hg).alloc (.cells #[.int .i64 p2, .int .i64 q2] 26)
        have L10 := (L9.gr hg).new [.int .i64 p2, .int .i64 q2] 26
        clear L9 G9 hg
        have F := L10
        obtain ⟨⟨l0, z0⟩, -, -, -, -, -, -, -, -, -, -, -, -, -, ⟨l14, z14⟩, ⟨l15, z15⟩, -⟩ := F
        go_wp2_with fail
        clear l0 z0 l14 z14 l15 z15
        refine (between_any Xa Xs p2 q2 Xb Xt _ WX.out).mono ?_
        rintro e w11 ⟨rfl, hg⟩
        have G11 := G10.trans hg
        have L11 := L10.gr hg
        clear L10 G10 hg
        go_wp2_with fail
        go_ret
        exact ⟨rfl, G11.below⟩
    · have WZ := Lib.hid hZ
      clear hZ
      rcases hX with hX | ⟨rfl, hX1, hX2⟩
      · have kX : (Xc != 0) = true := by simp [hX]
        clear hX hM
        go_wp2_with fail
        clear l0 z0 l1 z1 l2 z2 l3 z3 l4 z4 l5 z5 l6 z6 l7 z7 l8 z8 l9 z9 l10 z10 l11 z11 l12 z12 l13 z13 l14 z14 l15 z15 l16 z16
        refine (between_any Za Zs Za Zs Zb Zt _ WZ.out).mono ?_
        rintro e w10 ⟨rfl, hg⟩
        have G10 := G9.trans hg
        have L10 := L9.gr hg
        clear L9 G9 hg
        go_wp2_with fail
        go_ret
        exact ⟨rfl, G10.below⟩
      · have WX := Lib.hid hX2
        rw [hX1] at hM
        clear hX1 hX2
        generalize (muR a s b t).1.1 = p2 at *
        generalize (muR a s b t).1.2 = q2 at *
        go_wp2_with fail
        clear l0 z0 l1 z1 l2 z2 l3 z3 l4 z4 l5 z5 l6 z6 l7 z7 l8 z8 l9 z9 l10 z10 l11 z11 l12 z12 l13 z13 l14 z14 l15 z15 l16 z16
        refine (between_any Za Zs Za Zs Zb Zt _ WZ.out).mono ?_
        rintro e w10 ⟨rfl, hg⟩
        have G10 := G9.trans hg
        have L10 := L9.gr hg
        clear L9 G9 hg
        have F := L10
        obtain ⟨-, -, -, -, -, -, -, -, -, -, -, -, -, -, -, ⟨l15, z15⟩, ⟨l16, z16⟩, -⟩ := F
        go_wp2_with fail
        clear l15 z15 l16 z16
        refine (hM.out _).mono ?_
        rintro e w11 ⟨rfl, hg⟩
        have G11 := (G10.trans hg).alloc (.cells #[.int .i64 p2, .int .i64 q2] 26)
        have L11 := (L10.gr hg).new [.int .i64 p2, .int .i64 q2] 26
        clear L10 G10 hg
        have F := L11
        obtain ⟨⟨l0, z0⟩, -, -, -, -, -, -, -, -, -, -, -, -, -, ⟨l14, z14⟩, ⟨l15, z15⟩, -⟩ := F
        go_wp2_with fail
        clear l0 z0 l14 z14 l15 z15
        refine (between_any Xa Xs p2 q2 Xb Xt _ WX.out).mono ?_
        rintro e w12 ⟨rfl, hg⟩
        have G12 := G11.trans hg
        have L12 := L11.gr hg
        clear L11 G11 hg
        go_wp2_with fail
        go_ret
        exact ⟨rfl, G12.below⟩
  · have WY := Lib.hid hY2
    rw [hY1] at hD
    clear hY1 hY2
    generalize (diR x u y v).1.1 = p1 at *
    generalize (diR x u y v).1.2 = q1 at *
    rcases hZ with hZ | ⟨rfl, hZ⟩
    · have kZ : (Zc == 0) = false := by simp [hZ]
      clear hZ
      rcases hX with hX | ⟨rfl, hX1, hX2⟩
      · have kX : (Xc != 0) = true := by simp [hX]
        clear hX hM
        go_wp2_with fail
        clear l0 z0 l1 z1 l2 z2 l3 z3 l4 z4 l5 z5 l6 z6 l7 z7 l8 z8 l9 z9 l10 z10 l11 z11 l12 z12 l13 z13 l14 z14 l15 z15 l16 z16
        refine (hD.out _).mono ?_
        rintro e w10 ⟨rfl, hg⟩
        have G10 := (G9.trans hg).alloc (.cells #[.int .i64 p1, .int .i64 q1] 26)
        have L10 := (L9.gr hg).new [.int .i64 p1, .int .i64 q1] 26
        clear L9 G9 hg
        have F := L10
        obtain ⟨⟨l0, z0⟩, -, -, -, -, -, -, -, ⟨l8, z8⟩, ⟨l9, z9⟩, -⟩ := F
        go_wp2_with fail
        clear l0 z0 l8 z8 l9 z9
        refine (between_any Ya Ys p1 q1 Yb Yt _ WY.out).mono ?_
        rintro e w11 ⟨rfl, hg⟩
        have G11 := G10.trans hg
        have L11 := L10.gr hg
        clear L10 G10 hg
        go_wp2_with fail
        go_ret
        exact ⟨rfl, G11.below⟩
      · have WX := Lib.hid hX2
        rw [hX1] at hM
        clear hX1 hX2
        generalize (muR a s b t).1.1 = p2 at *
        generalize (muR a s b t).1.2 = q2 at *
        go_wp2_with fail
        clear l0 z0 l1 z1 l2 z2 l3 z3 l4 z4 l5 z5 l6 z6 l7 z7 l8 z8 l9 z9 l10 z10 l11 z11 l12 z12 l13 z13 l14 z14 l15 z15 l16 z16
        refine (hD.out _).mono ?_
        rintro e w10 ⟨rfl, hg⟩
        have G10 := (G9.trans hg).alloc (.cells #[.int .i64 p1, .int .i64 q1] 26)
        have L10 := (L9.gr hg).new [.int .i64 p1, .int .i64 q1] 26
        clear L9 G9 hg
        have F := L10
        obtain ⟨⟨l0, z0⟩, -, -, -, -, -, -, -, ⟨l8, z8⟩, ⟨l9, z9⟩, -⟩ := F
        go_wp2_with fail
        clear l0 z0 l8 z8 l9 z9
        refine (between_any Ya Ys p1 q1 Yb Yt _ WY.out).mono ?_
        rintro e w11 ⟨rfl, hg⟩
        have G11 := G10.trans hg
        have L11 := L10.gr hg
        clear L10 G10 hg
        have F := L11
        obtain ⟨-, -, -, -, -, -, -, -, -, -, -, -, -, -, -, -, ⟨l16, z16⟩, ⟨l17, z17⟩, -⟩ := F
        go_wp2_with fail
        clear l16 z16 l17 z17
        refine (hM.out _).mono ?_
        rintro e w12 ⟨rfl, hg⟩
        have G12 := (G11.trans hg).alloc (.cells #[.int .i64 p2, .int .i64 q2] 26)
        have L12 := (L11.gr hg).new [.int .i64 p2, .int .i64 q2] 26
        clear L11 G11 hg
        have F := L12
        obtain ⟨⟨l0, z0⟩, -, -, -, -, -, -, -, -, -, -, -, -, -, -, ⟨l15, z15⟩, ⟨l16, z16⟩, -⟩ := F
        go_wp2_with fail
        clear l0 z0 l15 z15 l16 z16
        refine (between_any Xa Xs p2 q2 Xb Xt _ WX.out).mono ?_
        rintro e w13 ⟨rfl, hg⟩
        have G13 := G12.trans hg
        have L13 := L12.gr hg
        clear L12 G12 hg
        go_wp2_with fail
        go_ret
        exact ⟨rfl, G13.below⟩
    · have WZ := Lib.hid hZ
      clear hZ
      rcases hX with hX | ⟨rfl, hX1, hX2⟩
      · have kX : (Xc != 0) = true := by simp [hX]
        clear hX hM
        go_wp2_with fail
        clear l0 z0 l1 z1 l2 z2 l3 z3 l4 z4 l5 z5 l6 z6 l7 z7 l8 z8 l9 z9 l10 z10 l11 z11 l12 z12 l13 z13 l14 z14 l15 z15 l16 z16
        refine (hD.out _).mono ?_
        rintro e w10 ⟨rfl, hg⟩
        have G10 := (G9.trans hg).alloc (.cells #[.int .i64 p1, .int .i64 q1] 26)
        have L10 := (L9.gr hg).new [.int .i64 p1, .int .i64 q1] 26
        clear L9 G9 hg
        have F := L10
        obtain ⟨⟨l0, z0⟩, -, -, -, -, -, -, -, ⟨l8, z8⟩, ⟨l9, z9⟩, -⟩ := F
        go_wp2_with fail
        clear l0 z0 l8 z8 l9 z9
        refine (between_any Ya Ys p1 q1 Yb Yt _ WY.out).mono ?_
        rintro e w11 ⟨rfl, hg⟩
        have G11 := G10.trans hg
        have L11 := L10.gr hg
        clear L10 G10 hg
        have F := L11
        obtain ⟨-, -, -, ⟨l3, z3⟩, ⟨l4, z4⟩, -⟩ := F
        go_wp2_with fail
        clear l3 z3 l4 z4
        refine (between_any Za Zs Za Zs Zb Zt _ WZ.out).mono ?_
        rintro e w12 ⟨rfl, hg⟩
        have G12 := G11.trans hg
        have L12 := L11.gr hg
        clear L11 G11 hg
        go_wp2_with fail
        go_ret
        exact ⟨rfl, G12.below⟩
      · have WX := Lib.hid hX2
        rw [hX1] at hM
        clear hX1 hX2
        generalize (muR a s b t).1.1 = p2 at *
        generalize (muR a s b t).1.2 = q2 at *
        go_wp2_with fail
        clear l0 z0 l1 z1 l2 z2 l3 z3 l4 z4 l5 z5 l6 z6 l7 z7 l8 z8 l9 z9 l10 z10 l11 z11 l12 z12 l13 z13 l14 z14 l15 z15 l16 z16
        refine (hD.out _).mono ?_
        rintro e w10 ⟨rfl, hg⟩
        have G10 := (G9.trans hg).alloc (.cells #[.int .i64 p1, .int .i64 q1] 26)
        have L10 := (L9.gr hg).new [.int .i64 p1, .int .i64 q1] 26
        clear L9 G9 hg
        have F := L10
        obtain ⟨⟨l0, z0⟩, -, -, -, -, -, -, -, ⟨l8, z8⟩, ⟨l9, z9⟩, -⟩ := F
        go_wp2_with fail
        clear l0 z0 l8 z8 l9 z9
        refine (between_any Ya Ys p1 q1 Yb Yt _ WY.out).mono ?_
        rintro e w11 ⟨rfl, hg⟩
        have G11 := G10.trans hg
        have L11 := L10.gr hg
        clear L10 G10 hg
        have F := L11
        obtain ⟨-, -, -, ⟨l3, z3⟩, ⟨l4, z4⟩, -⟩ := F
        go_wp2_with fail
        clear l3 z3 l4 z4
        refine (between_any Za Zs Za Zs Zb Zt _ WZ.out).mono ?_
        rintro e w12 ⟨rfl, hg⟩
        have G12 := G11.trans hg
        have L12 := L11.gr hg
        clear L11 G11 hg
        have F := L12
        obtain ⟨-, -, -, -, -, -, -, -, -, -, -, -, -, -, -, -, ⟨l16, z16⟩, ⟨l17, z17⟩, -⟩ := F
        go_wp2_with fail
        clear l16 z16 l17 z17
        refine (hM.out _).mono ?_
        rintro e w13 ⟨rfl, hg⟩
        have G13 := (G12.trans hg).alloc (.cells #[.int .i64 p2, .int .i64 q2] 26)
        have L13 := (L12.gr hg).new [.int .i64 p2, .int .i64 q2] 26
        clear L12 G12 hg
        have F := L13
        obtain ⟨⟨l0, z0⟩, -, -, -, -, -, -, -, -, -, -, -, -, -, -, ⟨l15, z15⟩, ⟨l16, z16⟩, -⟩ := F
        go_wp2_with fail
        clear l0 z0 l15 z15 l16 z16
        refine (between_any Xa Xs p2 q2 Xb Xt _ WX.out).mono ?_
        rintro e w14 ⟨rfl, hg⟩
        have G14 := G13.trans hg
        have L14 := L13.gr hg
        clear L13 G13 hg
        go_wp2_with fail
        go_ret
        exact ⟨rfl, G14.below⟩

set_option maxHeartbeats 4000000 in
set_option maxRecDepth 100000 in
theorem walk (w : World) (A0 : Option Addr) (n0 c0 : Nat) (hB0 : Bytes w w.heap.size A0 n0) :
    Calls Try.prog 4 #[.slice A0 n0 c0] w (LawDone w) := by
  by_cases hbig : 4096 < n0
  · have hd : decide ((4096 : Int) < n0) = true := by simp; omega
    go_enter Try.func4, Try.ntmps4
    go_wp2_with fail
    refine (big_any A0 n0 c0 w).mono ?_
    rw [hd]
    rintro e w1 ⟨rfl, rfl⟩
    go_wp2_with fail
    go_ret
    exact ⟨rfl, Below.refl _ _⟩
  · exact walk1 w A0 n0 c0 hB0 hbig

set_option maxRecDepth 100000 in
theorem lifted (os : Os) (started : os.Started) (H : Type) (enc : TypeId × Value → H) :
    ReturnsInHanded {} Try.checked os 4 .any (Rows.fnSpansSpec.pre6 enc Try.prog Try.f4 Rows.fnSpansRow.domain false) (Rows.fnSpansSpec.post enc Try.prog Try.f4 false true false false) := by
  refine returnsInHanded_of_change (C := Try.checked) own started (by kernel_rfl) Try.func4
    (ChangeSpec.witness6 (enc := enc) (C := Try.checked) false ⟨#[], #[.slice none 0 0], []⟩ 8 (by kernel_rfl) (by kernel_rfl) (by kernel_rfl) (by kernel_rfl)) ?_
  intro W base args ds gs before hval0 hW hcnd _
  have hval : ∀ (j : Nat) t v, Try.f4.params[j]? = some t → args[j]? = some v → Value.okWide Try.prog W .any base t v := hval0
  have hW' := hW
  obtain ⟨p, q, hA0, hV, hpq, hfz, hnd⟩ := hW
  have hA : DataW.TrodAll enc Try.prog W 0 (fun _ => true) true Try.f4.params.toList args.toList ds p := hA0
  have hT := hA
  obtain ⟨rfl, rfl⟩ := trodVars_none hV
  rw [Try.params4] at hA hval
  obtain ⟨v0, vs0, d0, ds0, p0, q0, hargs, rfl, rfl, h0, r0⟩ := trodAll_cons hA
  obtain ⟨rfl, rfl, rfl⟩ := trodAll_nil r0
  obtain rfl : args = #[v0] := by cases args; simp_all
  obtain ⟨A0, n0, c0, rfl, -, hB0⟩ := open_code Try.underlying22 Try.underlying5 (by kernel_rfl) (hval 0 22 v0 rfl rfl) h0
  clear hA0 hval0
  refine (walk W A0 n0 c0 hB0).mono fun e W' ⟨he, hb⟩ => ?_
  subst he
  exact ⟨_, rfl, law_post laidOut hW' hT hpq (by kernel_rfl) (fun _ _ => rfl) rfl rfl rfl Try.underlying4 hb⟩

theorem over : Rows.fnSpansRow.holds Try.pinned (OpenSpec.ofChange Rows.fnSpansSpec) :=
  OpenClaim.holds_of_wide 4 Try.f4 rfl rfl rfl rfl rfl rfl rfl ⟨rfl, rfl, rfl, rfl, rfl⟩ rfl rfl rfl rfl rfl (by kernel_rfl) Try.func4 (by kernel_rfl)
    (of_decide_eq_true (by kernel_rfl)) (by unfold Func.isWrapper; first | (rw [if_pos (by decide +kernel)]; kernel_rfl) | (rw [if_neg (by decide +kernel)]; exact ⟨rfl, rfl⟩))
    (fun os started H enc _ => lifted os started H enc)

theorem proved : Rows.FnSpansSaid :=
  over
end Go.Proofs.Ytipanchmhohlbaa.fnSpans
