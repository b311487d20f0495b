/- For every code of bytes the drawn spreads, bounds, digits and multiplied errors are as the law FnReadingBounds says, and it returns true. No condition beyond the table of decades as the program's text lays it. -/
import Derived.Test.YtdbeedfapkfibaaGreatDoorC10c
import Derived.Test.YtdbeedfapkfibaaGreatDoorC10f
import Derived.Test.YtdbeedfapkfibaaGreatDoorC04g
import Derived.Test.YtdbeedfapkfibaaGreatDoorD27
import Derived.Test.YtdbeedfapkfibaaGreatDoorSA
import Derived.Test.YtdbeedfapkfibaaGreatDoorHs
import Derived.Test.YtdbeedfapkfibaaGreatDoorBig
import Derived.Test.YtdbeedfapkfibaaGreatDoorMB
import Derived.Test.YtdbeedfapkfibaaGreatDoorDr
import Derived.Test.YtdbeedfapkfibaaGreatDoorTie
import Derived.Test.YtdbeedfapkfibaaGreatDoorCards
import Derived.Test.YtdbeedfapkfibaaGreatDoorFr
import Derived.Test.YtdbeedfapkfibaaGreatDoorFv
import Derived.Test.YtdbeedfapkfibaaGreatDoorRows
import Derived.WalkKit
import Derived.ProofKit
import Derived.OpenShut
namespace Go.Proofs.YtdbeedfapkfibaaGreatDoor.fnReadingBounds
open Go.ChangeShapes Go.WideShapes Go.ChangeAt Go.RowKit
set_option linter.unusedVariables false
set_option linter.unusedSimpArgs false

theorem own : ownKnob Tryz.prog.godebug = none := by kernel_rfl

theorem dcsl {w : World} (hL : laidMet Tryz.prog Rows.fnReadingBoundsRow.laid w) : Dcs w := by
  have h := hL.filter (fun x => x.1 == "loop.example/g00951/impl.scaleDecades")
  have e : Rows.fnReadingBoundsRow.laid.filter (fun x => x.1 == "loop.example/g00951/impl.scaleDecades") = [("loop.example/g00951/impl.scaleDecades", Lib.tabData .i64 [1, 2, 3, 1, 1, 1])] := by rfl
  rw [e] at h
  exact dcs_of (Lib.tabIs_of_head (g := 0) (by kernel_rfl) (by kernel_rfl) Tryz.underlying84 Tryz.underlying2 (by kernel_rfl) (by kernel_rfl) h)

theorem guard_err (op : BinOp) (x y : Operand) (xs ys : Array Value) (w : World) : (eqGuard op 31 x y (.agg xs) (.agg ys)).run Tryz.prog w = .ok () w := run_eqGuard_agg w op _ x y xs ys (by kernel_rfl)
theorem neq_err (a b c : Int) (w : World) : (binOp .neq 31 (.agg #[.int .i64 (a), .int .i64 (b), .int .i64 (c)]) (.agg #[.int .i64 (a), .int .i64 (b), .int .i64 (c)])).run Tryz.prog w = .ok (.bool false) w := by
  rw [run_neq_struct, run_equalIn_agg (d := 9999) w _ _ _ (by kernel_rfl) (by kernel_rfl)]
  simp [Op.eqFields, Program.fieldsOf, Tryz.underlying31, Tryz.underlying2, go_sem]
attribute [local go_sem high] guard_fig neq_fig eql_fig guard_err neq_err
theorem rb_case (s l a b c d t : Int) : (((rbR s l a b c d t).2 == 0) = false) ∨ ((rbR s l a b c d t).2 = 0 ∧ (rbR s l a b 0 d t).2 = 0 ∧ (rbR s l a b 0 d t).1 ≤ (rbR s l a b c d t).1) := by
  by_cases h : (rbR s l a b c d t).2 = 0
  · right
    obtain ⟨h1, h2⟩ := rb_less s l a b c d t h
    exact ⟨h, h1, h2⟩
  · left; simpa using h
theorem sf_case (d t u : Int) : (((sfR d t u).c != 0) = true) ∨ ((sfR d t u).c = 0 ∧ btw (sfR d t u).a (sfR d t u).s d t (sfR d t u).b (sfR d t u).t) := by
  rcases sf_facts d t u with h | ⟨h, -, -, h2⟩
  · left; simpa using h
  · exact .inr ⟨h, h2⟩
set_option maxHeartbeats 8000000 in
set_option maxRecDepth 100000 in
/-- The walk of a code that is not too long. -/
theorem walk1 (w : World) (hD : Dcs w) (A0 : Option Addr) (n0 c0 : Nat) (hB0 : Bytes w w.heap.size A0 n0) (hbig : ¬ 4096 < n0) :
    Calls Tryz.prog 3 #[.slice A0 n0 c0] w (LawDone w) := by
  have HD := Lib.hid hD
  clear hD
  have hd : decide ((4096 : Int) < n0) = false := by simp; omega
  go_enter Tryz.func3, Tryz.ntmps3
  go_wp2_with fail
  refine (big_any A0 n0 c0 w).mono ?_
  rw [hd]
  rintro e w1 ⟨rfl, rfl⟩
  clear hd
  go_wp2_with fail
  refine (drawSpreadFigure_any A0 n0 c0 w (by omega) hB0).mono ?_
  rintro e w1 ⟨d, t, u, rfl, -, hb⟩
  have G1 := ((Gr.of_below hb).alloc (.cells #[.int .i64 d, .int .i64 t] 25))
  have L1 := ((show Hass w1 [] from trivial).new' [.int .i64 d, .int .i64 t] 25 (w1.heap.size) (by simp))
  clear hb
  have F := L1
  obtain ⟨⟨l0, z0⟩, -⟩ := F
  go_wp2_with fail
  clear l0 z0
  refine (sfR_impl d t u _).mono ?_
  rintro e w2 ⟨rfl, hg⟩
  have G2 := (((G1.trans hg).alloc (.cells #[.int .i64 ((sfR d t u).a), .int .i64 ((sfR d t u).s)] 25)).alloc (.cells #[.int .i64 ((sfR d t u).b), .int .i64 ((sfR d t u).t)] 25))
  have L2 := (((L1.gr hg).new' [.int .i64 ((sfR d t u).a), .int .i64 ((sfR d t u).s)] 25 (w2.heap.size) (by simp)).new' [.int .i64 ((sfR d t u).b), .int .i64 ((sfR d t u).t)] 25 (w2.heap.size + 1) (by simp))
  clear L1 G1 hg
  have F := L2
  obtain ⟨-, -, ⟨l2, z2⟩, -⟩ := F
  go_wp2_with fail
  clear l2 z2
  refine (sfR_spec d t u _).mono ?_
  rintro e w3 ⟨rfl, hg⟩
  have G3 := (((G2.trans hg).alloc (.cells #[.int .i64 ((sfR d t u).a), .int .i64 ((sfR d t u).s)] 25)).alloc (.cells #[.int .i64 ((sfR d t u).b), .int .i64 ((sfR d t u).t)] 25))
  have L3 := (((L2.gr hg).new' [.int .i64 ((sfR d t u).a), .int .i64 ((sfR d t u).s)] 25 (w3.heap.size) (by simp)).new' [.int .i64 ((sfR d t u).b), .int .i64 ((sfR d t u).t)] 25 (w3.heap.size + 1) (by simp))
  clear L2 G2 hg
  go_wp2_with fail
  refine (drawReadingBound_any A0 n0 c0 _ (by omega) (hB0.later G3.below)).mono ?_
  rintro e w4 ⟨s, l, x, y, z, p, q, rfl, -, -, hb⟩
  have G4 := (((G3.trans (Gr.of_below hb)).alloc (.cells #[.int .i64 x, .int .i64 y, .int .i64 z] 31)).alloc (.cells #[.int .i64 p, .int .i64 q] 25))
  have L4 := (((L3.below hb).new' [.int .i64 x, .int .i64 y, .int .i64 z] 31 (w4.heap.size) (by simp)).new' [.int .i64 p, .int .i64 q] 25 (w4.heap.size + 1) (by simp))
  clear L3 G3 hb
  have F := L4
  obtain ⟨⟨l0, z0⟩, ⟨l1, z1⟩, -⟩ := F
  go_wp2_with fail
  clear l0 z0 l1 z1
  refine (rbR_impl s l x y z p q _ (HD.out.gr G4)).mono ?_
  rintro e w5 ⟨rfl, hg⟩
  have G5 := (G4.trans hg)
  have L5 := (L4.gr hg)
  clear L4 G4 hg
  have F := L5
  obtain ⟨⟨l0, z0⟩, ⟨l1, z1⟩, -⟩ := F
  go_wp2_with fail
  clear l0 z0 l1 z1
  refine (rbR_spec s l x y z p q _).mono ?_
  rintro e w6 ⟨rfl, hg⟩
  have G6 := (G5.trans hg)
  have L6 := (L5.gr hg)
  clear L5 G5 hg
  go_wp2_with fail
  refine (drawWorstDigits_any A0 n0 c0 _ (by omega) (hB0.later G6.below)).mono ?_
  rintro e w7 ⟨s2, l2, x2, y2, z2, rfl, -, hb⟩
  have G7 := ((G6.trans (Gr.of_below hb)).alloc (.cells #[.int .i64 x2, .int .i64 y2, .int .i64 z2] 31))
  have L7 := ((L6.below hb).new' [.int .i64 x2, .int .i64 y2, .int .i64 z2] 31 (w7.heap.size) (by simp))
  clear L6 G6 hb
  have F := L7
  obtain ⟨⟨l0, z0⟩, -⟩ := F
  go_wp2_with fail
  clear l0 z0
  refine (wdR_impl s2 l2 x2 y2 z2 _ (HD.out.gr G7)).mono ?_
  rintro e w8 ⟨rfl, hg⟩
  have G8 := (G7.trans hg)
  have L8 := (L7.gr hg)
  clear L7 G7 hg
  have F := L8
  obtain ⟨⟨l0, z0⟩, -⟩ := F
  go_wp2_with fail
  clear l0 z0
  refine (wdR_spec s2 l2 x2 y2 z2 _).mono ?_
  rintro e w9 ⟨rfl, hg⟩
  have G9 := (G8.trans hg)
  have L9 := (L8.gr hg)
  clear L8 G8 hg
  go_wp2_with fail
  refine (drawScaleErrors_any A0 n0 c0 _ (by omega) (hB0.later G9.below)).mono ?_
  rintro e w10 ⟨x3, y3, z3, n3, m3, rfl, hb⟩
  have G10 := ((G9.trans (Gr.of_below hb)).alloc (.cells #[.int .i64 x3, .int .i64 y3, .int .i64 z3] 31))
  have L10 := ((L9.below hb).new' [.int .i64 x3, .int .i64 y3, .int .i64 z3] 31 (w10.heap.size) (by simp))
  clear L9 G9 hb
  have F := L10
  obtain ⟨⟨l0, z0⟩, -⟩ := F
  go_wp2_with fail
  clear l0 z0
  refine (xeR_impl x3 y3 z3 n3 m3 _).mono ?_
  rintro e w11 ⟨rfl, hg⟩
  have G11 := ((G10.trans hg).alloc (.cells #[.int .i64 ((xeR x3 y3 z3 n3 m3).1.1), .int .i64 ((xeR x3 y3 z3 n3 m3).1.2.1), .int .i64 ((xeR x3 y3 z3 n3 m3).1.2.2)] 31))
  have L11 := ((L10.gr hg).new' [.int .i64 ((xeR x3 y3 z3 n3 m3).1.1), .int .i64 ((xeR x3 y3 z3 n3 m3).1.2.1), .int .i64 ((xeR x3 y3 z3 n3 m3).1.2.2)] 31 (w11.heap.size) (by simp))
  clear L10 G10 hg
  have F := L11
  obtain ⟨-, ⟨l1, z1⟩, -⟩ := F
  go_wp2_with fail
  clear l1 z1
  refine (xeR_spec x3 y3 z3 n3 m3 _).mono ?_
  rintro e w12 ⟨rfl, hg⟩
  have G12 := ((G11.trans hg).alloc (.cells #[.int .i64 ((xeR x3 y3 z3 n3 m3).1.1), .int .i64 ((xeR x3 y3 z3 n3 m3).1.2.1), .int .i64 ((xeR x3 y3 z3 n3 m3).1.2.2)] 31))
  have L12 := ((L11.gr hg).new' [.int .i64 ((xeR x3 y3 z3 n3 m3).1.1), .int .i64 ((xeR x3 y3 z3 n3 m3).1.2.1), .int .i64 ((xeR x3 y3 z3 n3 m3).1.2.2)] 31 (w12.heap.size) (by simp))
  clear L11 G11 hg
  have HP := Lib.hid (rb_case s l x y z p q)
  have HQ := Lib.hid (sf_case d t u)
  have HW := wdR_bd s2 l2 x2 y2 z2
  have HE := Lib.hid (fun W h => rbR_impl s l x y 0 p q W h)
  generalize rbR s l x y 0 p q = R1 at *
  generalize rbR s l x y z p q = R0 at *
  generalize wdR s2 l2 x2 y2 z2 = W0 at *
  generalize xeR x3 y3 z3 n3 m3 = E0 at *
  generalize sfR d t u = X at *
  obtain ⟨r0, r1⟩ := R0
  obtain ⟨t0, t1⟩ := R1
  obtain ⟨d0, d1⟩ := W0
  obtain ⟨⟨e0, e1, e2⟩, e3⟩ := E0
  obtain ⟨Xa, Xs, Xb, Xt, Xc⟩ := X
  simp only at *
  obtain ⟨HW1, HW2⟩ := HW
  rcases (show ((d1 == 0) = true ∨ (d1 == 0) = false) by cases (d1 == 0) <;> simp) with h3 | h3
  · rcases HP.out with hp | ⟨rfl, rfl, hp⟩
    · clear HP HE
      rcases HQ.out with hq | ⟨rfl, hq⟩
      · clear HQ
        have F := L12
        obtain ⟨⟨l0, z0⟩, ⟨l1, z1⟩, -, -, -, -, ⟨l6, z6⟩, ⟨l7, z7⟩, ⟨l8, z8⟩, ⟨l9, z9⟩, -⟩ := F
        go_wp2_with fail
        go_ret
        exact ⟨rfl, G12.below⟩
      · have HB := Lib.hid hq
        clear HQ hq
        have F := L12
        obtain ⟨⟨l0, z0⟩, ⟨l1, z1⟩, -, -, -, -, ⟨l6, z6⟩, ⟨l7, z7⟩, ⟨l8, z8⟩, ⟨l9, z9⟩, ⟨l10, z10⟩, -⟩ := F
        go_wp2_with fail
        clear l0 z0 l1 z1 l6 z6 l7 z7 l8 z8 l9 z9 l10 z10
        refine (between_any Xa Xs d t Xb Xt _ HB.out).mono ?_
        rintro e w13 ⟨rfl, hg⟩
        have G13 := G12.trans hg
        have L13 := L12.gr hg
        clear L12 G12 hg
        go_wp2_with fail
        go_ret
        exact ⟨rfl, G13.below⟩
    · clear HP
      have F := L12
      obtain ⟨⟨l0, z0⟩, ⟨l1, z1⟩, -, -, ⟨l4, z4⟩, ⟨l5, z5⟩, ⟨l6, z6⟩, ⟨l7, z7⟩, ⟨l8, z8⟩, ⟨l9, z9⟩, -⟩ := F
      go_wp2_with fail
      clear l0 z0 l1 z1 l4 z4 l5 z5 l6 z6 l7 z7 l8 z8 l9 z9
      refine (HE.out _ (HD.out.gr G12)).mono ?_
      rintro e w13 ⟨rfl, hg⟩
      have G13 := G12.trans hg
      have L13 := L12.gr hg
      clear L12 G12 hg
      rcases HQ.out with hq | ⟨rfl, hq⟩
      · clear HQ
        go_wp2_with fail
        go_ret
        exact ⟨rfl, G13.below⟩
      · have HB := Lib.hid hq
        clear HQ hq
        have F := L13
        obtain ⟨-, -, -, -, -, -, -, -, ⟨l8, z8⟩, ⟨l9, z9⟩, ⟨l10, z10⟩, -⟩ := F
        go_wp2_with fail
        clear l8 z8 l9 z9 l10 z10
        refine (between_any Xa Xs d t Xb Xt _ HB.out).mono ?_
        rintro e w14 ⟨rfl, hg⟩
        have G14 := G13.trans hg
        have L14 := L13.gr hg
        clear L13 G13 hg
        go_wp2_with fail
        go_ret
        exact ⟨rfl, G14.below⟩
  · rcases HP.out with hp | ⟨rfl, rfl, hp⟩
    · clear HP HE
      rcases HQ.out with hq | ⟨rfl, hq⟩
      · clear HQ
        have F := L12
        obtain ⟨⟨l0, z0⟩, ⟨l1, z1⟩, -, -, -, -, ⟨l6, z6⟩, ⟨l7, z7⟩, ⟨l8, z8⟩, ⟨l9, z9⟩, -⟩ := F
        go_wp2_with fail
        go_ret
        exact ⟨rfl, G12.below⟩
      · have HB := Lib.hid hq
        clear HQ hq
        have F := L12
        obtain ⟨⟨l0, z0⟩, ⟨l1, z1⟩, -, -, -, -, ⟨l6, z6⟩, ⟨l7, z7⟩, ⟨l8, z8⟩, ⟨l9, z9⟩, ⟨l10, z10⟩, -⟩ := F
        go_wp2_with fail
        clear l0 z0 l1 z1 l6 z6 l7 z7 l8 z8 l9 z9 l10 z10
        refine (between_any Xa Xs d t Xb Xt _ HB.out).mono ?_
        rintro e w13 ⟨rfl, hg⟩
        have G13 := G12.trans hg
        have L13 := L12.gr hg
        clear L12 G12 hg
        go_wp2_with fail
        go_ret
        exact ⟨rfl, G13.below⟩
    · clear HP
      have F := L12
      obtain ⟨⟨l0, z0⟩, ⟨l1, z1⟩, -, -, ⟨l4, z4⟩, ⟨l5, z5⟩, ⟨l6, z6⟩, ⟨l7, z7⟩, ⟨l8, z8⟩, ⟨l9, z9⟩, -⟩ := F
      go_wp2_with fail
      clear l0 z0 l1 z1 l4 z4 l5 z5 l6 z6 l7 z7 l8 z8 l9 z9
      refine (HE.out _ (HD.out.gr G12)).mono ?_
      rintro e w13 ⟨rfl, hg⟩
      have G13 := G12.trans hg
      have L13 := L12.gr hg
      clear L12 G12 hg
      rcases HQ.out with hq | ⟨rfl, hq⟩
      · clear HQ
        go_wp2_with fail
        go_ret
        exact ⟨rfl, G13.below⟩
      · have HB := Lib.hid hq
        clear HQ hq
        have F := L13
        obtain ⟨-, -, -, -, -, -, -, -, ⟨l8, z8⟩, ⟨l9, z9⟩, ⟨l10, z10⟩, -⟩ := F
        go_wp2_with fail
        clear l8 z8 l9 z9 l10 z10
        refine (between_any Xa Xs d t Xb Xt _ HB.out).mono ?_
        rintro e w14 ⟨rfl, hg⟩
        have G14 := G13.trans hg
        have L14 := L13.gr hg
        clear L13 G13 hg
        go_wp2_with fail
        go_ret
        exact ⟨rfl, G14.below⟩

set_option maxHeartbeats 4000000 in
set_option maxRecDepth 100000 in
theorem walk (w : World) (hL : laidMet Tryz.prog Rows.fnReadingBoundsRow.laid w) (A0 : Option Addr) (n0 c0 : Nat) (hB0 : Bytes w w.heap.size A0 n0) :
    Calls Tryz.prog 3 #[.slice A0 n0 c0] w (LawDone w) := by
  have hD := dcsl hL
  clear hL
  by_cases hbig : 4096 < n0
  · have hd : decide ((4096 : Int) < n0) = true := by simp; omega
    go_enter Tryz.func3, Tryz.ntmps3
    go_wp2_with fail
    refine (big_any A0 n0 c0 w).mono ?_
    rw [hd]
    rintro e w1 ⟨rfl, rfl⟩
    go_wp2_with fail
    go_ret
    exact ⟨rfl, Below.refl _ _⟩
  · exact walk1 w hD A0 n0 c0 hB0 hbig

set_option maxRecDepth 100000 in
theorem lifted (os : Os) (started : os.Started) (H : Type) (enc : TypeId × Value → H) :
    ReturnsInHanded {} Tryz.checked os 3 .any (fun w args => (Rows.fnReadingBoundsSpec.pre enc Tryz.prog Tryz.f3 Rows.fnReadingBoundsRow.domain false w args ∧ laidMetH Tryz.prog Rows.fnReadingBoundsRow.laid w) ∧ sizedMet enc Tryz.prog Tryz.f3 (OpenSpec.ofChange Rows.fnReadingBoundsSpec) false w args) (Rows.fnReadingBoundsSpec.post enc Tryz.prog Tryz.f3 false true false false) := by
  refine returnsInHanded_of_change_and (C := Tryz.checked) (X := fun w _ => laidMetH Tryz.prog Rows.fnReadingBoundsRow.laid w) (fun _ _ _ hh h => h.of_heap hh) own started (by kernel_rfl) Tryz.func3
    (ChangeSpec.witness_shaped (enc := enc) (C := Tryz.checked) (os := os) (X := fun w _ => laidMetH Tryz.prog Rows.fnReadingBoundsRow.laid w) false (World.laidAll Tryz.prog os Rows.fnReadingBoundsRow.laid) #[.slice none 0 0] 8 (World.laidAll_os _ _ _)
      (World.shaped_of_ZipB (by kernel_rfl) (by kernel_rfl)) (by kernel_rfl) (by kernel_rfl) (by kernel_rfl)
      (by rw [MakeChecks.laidMetH_plain _ _ _ (by kernel_rfl)]; exact laidMet_laidAll _ (by kernel_rfl) (by kernel_rfl))) ?_
  intro W base args ds gs before hval0 hW _ _ hL _
  rw [MakeChecks.laidMetH_plain _ _ _ (by kernel_rfl)] at hL
  have hval : ∀ (j : Nat) t v, Tryz.f3.params[j]? = some t → args[j]? = some v → Value.okWide Tryz.prog W .any base t v := hval0
  have hW' := hW
  obtain ⟨p, q, hA0, hV, hpq, hfz, hnd⟩ := hW
  have hA : DataW.TrodAll enc Tryz.prog W 0 (fun _ => true) true Tryz.f3.params.toList args.toList ds p := hA0
  have hT := hA
  obtain ⟨g1, rfl⟩ := vars_one hV
  rw [Tryz.params3] at hA hval
  obtain ⟨v0, vs0, d0, ds0, p0, q0, hargs, rfl, rfl, h0, r0⟩ := trodAll_cons hA
  obtain ⟨rfl, rfl, rfl⟩ := trodAll_nil r0
  obtain rfl : args = #[v0] := by cases args; simp_all
  obtain ⟨A0, n0, c0, rfl, -, hB0⟩ := open_code Tryz.underlying22 Tryz.underlying5 (by kernel_rfl) (hval 0 22 v0 rfl rfl) h0
  clear hA0 hval0
  refine (walk W hL A0 n0 c0 hB0).mono fun e W' ⟨he, hb⟩ => ?_
  subst he
  exact ⟨_, rfl, law_postv laidOut hW' hT hpq (by kernel_rfl) (by kernel_rfl) hV rfl rfl rfl rfl Tryz.underlying4 hb⟩

theorem over : Rows.fnReadingBoundsRow.holds Tryz.pinned (OpenSpec.ofChange Rows.fnReadingBoundsSpec) :=
  OpenClaim.holds_of_wide 3 Tryz.f3 rfl rfl rfl rfl rfl rfl rfl ⟨rfl, rfl, rfl, rfl, rfl⟩ rfl rfl rfl rfl rfl (by kernel_rfl) Tryz.func3 (by kernel_rfl)
    (of_decide_eq_true (by kernel_rfl)) (by unfold Func.isWrapper; first | (rw [if_pos (by decide +kernel)]; kernel_rfl) | (rw [if_neg (by decide +kernel)]; exact ⟨rfl, rfl⟩))
    (fun os started H enc _ => lifted os started H enc)

theorem proved : Rows.FnReadingBoundsCardSaid :=
  Claim7.holds_tied_plain_at .later [] Rows.fnReadingBoundsCard.laidKinds true Rows.fnReadingBoundsCard.stood.harness Rows.fnReadingBoundsCard.stood.looks
    over (fun _ h => by cases h) (by kernel_rfl) (fun _ h => by cases h) fnReadingBounds_row_tie rfl ⟨rfl, rfl⟩ (by kernel_rfl) rfl
    (fun f fn hf hfn => by
      obtain rfl : f = 3 := Option.some.inj ((show Tryz.prog.funcNamed Rows.fnReadingBoundsRow.func = some 3 by kernel_rfl).symm.trans hf) |>.symm
      obtain rfl : fn = Tryz.f3 := (Option.some.inj (Tryz.func3.symm.trans hfn)).symm
      exact ⟨by kernel_rfl, fun j t ht => by
        rw [Tryz.params3] at ht
        have hm : t ∈ [22] := by simpa using Array.mem_of_getElem? ht
        have hall : ([22].all fun u => !Tryz.prog.wantsStandIn u) = true := by kernel_rfl
        exact (show Tryz.prog.wantsStandIn t = false by simpa using List.all_eq_true.1 hall t hm)⟩)
    (by kernel_rfl)
end Go.Proofs.YtdbeedfapkfibaaGreatDoor.fnReadingBounds
