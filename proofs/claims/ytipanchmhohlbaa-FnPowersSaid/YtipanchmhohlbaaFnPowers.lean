/- For every code of bytes the spans of powers, the errors of spans and the middles of the drawn figures are as the law FnPowers says, and it returns true. No condition. -/
import Derived.Test.YtipanchmhohlbaaC04f
import Derived.Test.YtipanchmhohlbaaC04g
import Derived.Test.YtipanchmhohlbaaD11
import Derived.Test.YtipanchmhohlbaaSe
import Derived.Test.YtipanchmhohlbaaHs
import Derived.Test.YtipanchmhohlbaaBig
import Derived.Test.YtipanchmhohlbaaM14
import Derived.Test.YtipanchmhohlbaaFr
import Derived.Test.YtipanchmhohlbaaRows
import Derived.WalkKit
import Derived.ProofKit
import Derived.OpenShut
namespace Go.Proofs.Ytipanchmhohlbaa.fnPowers
open Go.ChangeShapes Go.WideShapes Go.ChangeAt Go.RowKit
set_option linter.unusedVariables false
set_option linter.unusedSimpArgs false

theorem own : ownKnob Try.prog.godebug = none := by kernel_rfl

attribute [local go_sem high] guard_fig neq_fig eql_fig

set_option maxHeartbeats 4000000 in
set_option maxRecDepth 100000 in
/-- The walk of a code that is not too long. -/
theorem walk1 (w : World) (A0 : Option Addr) (n0 c0 : Nat) (hB0 : Bytes w w.heap.size A0 n0) (hbig : ¬ 4096 < n0) :
    Calls Try.prog 5 #[.slice A0 n0 c0] w (LawDone w) := by
  have hd : decide ((4096 : Int) < n0) = false := by simp; omega
  go_enter Try.func5, Try.ntmps5
  go_wp2_with fail
  refine (big_any A0 n0 c0 w).mono ?_
  rw [hd]
  rintro e w1 ⟨rfl, rfl⟩
  clear hd
  go_wp2_with fail
  refine (drawPowerSpan_any A0 n0 c0 w (by omega) hB0).mono ?_
  rintro e w1 ⟨a, s, n, d, rfl, -, ⟨n1, n2⟩, ⟨d1, d2⟩, hb⟩
  have G1 := ((Gr.of_below hb).alloc (.cells #[.int .i64 a, .int .i64 s] 26))
  have L1 := ((show Hass w1 [] from trivial).new' [.int .i64 a, .int .i64 s] 26 (w1.heap.size) (by simp))
  clear hb
  go_wp2_with fail
  refine (pwR_impl a s n d _).mono ?_
  rintro e w2 ⟨rfl, hg⟩
  have G2 := (((G1.trans hg).alloc (.cells #[.int .i64 ((pwR a s n d).a), .int .i64 ((pwR a s n d).s)] 26)).alloc (.cells #[.int .i64 ((pwR a s n d).b), .int .i64 ((pwR a s n d).t)] 26))
  have L2 := (((L1.gr hg).new' [.int .i64 ((pwR a s n d).a), .int .i64 ((pwR a s n d).s)] 26 (w2.heap.size) (by simp)).new' [.int .i64 ((pwR a s n d).b), .int .i64 ((pwR a s n d).t)] 26 (w2.heap.size + 1) (by simp))
  clear L1 G1 hg
  have F := L2
  obtain ⟨-, -, ⟨l2, z2⟩, -⟩ := F
  go_wp2_with fail
  clear l2 z2
  refine (pwR_spec a s n d _).mono ?_
  rintro e w3 ⟨rfl, hg⟩
  have G3 := (((G2.trans hg).alloc (.cells #[.int .i64 ((pwR a s n d).a), .int .i64 ((pwR a s n d).s)] 26)).alloc (.cells #[.int .i64 ((pwR a s n d).b), .int .i64 ((pwR a s n d).t)] 26))
  have L3 := (((L2.gr hg).new' [.int .i64 ((pwR a s n d).a), .int .i64 ((pwR a s n d).s)] 26 (w3.heap.size) (by simp)).new' [.int .i64 ((pwR a s n d).b), .int .i64 ((pwR a s n d).t)] 26 (w3.heap.size + 1) (by simp))
  clear L2 G2 hg
  go_wp2_with fail
  refine (drawSpanError_any A0 n0 c0 _ (by omega) (hB0.later G3.below)).mono ?_
  rintro e w4 ⟨b, f, c, g, rfl, -, -, hb⟩
  have G4 := (((G3.trans (Gr.of_below hb)).alloc (.cells #[.int .i64 b, .int .i64 f] 26)).alloc (.cells #[.int .i64 c, .int .i64 g] 26))
  have L4 := (((L3.below hb).new' [.int .i64 b, .int .i64 f] 26 (w4.heap.size) (by simp)).new' [.int .i64 c, .int .i64 g] 26 (w4.heap.size + 1) (by simp))
  clear L3 G3 hb
  go_wp2_with fail
  refine (seR_impl b f c g _).mono ?_
  rintro e w5 ⟨rfl, hg⟩
  have G5 := (G4.trans hg)
  have L5 := (L4.gr hg)
  clear L4 G4 hg
  have F := L5
  obtain ⟨⟨l0, z0⟩, ⟨l1, z1⟩, -⟩ := F
  go_wp2_with fail
  clear l0 z0 l1 z1
  refine (seR_spec b f c g _).mono ?_
  rintro e w6 ⟨rfl, hg⟩
  have G6 := (G5.trans hg)
  have L6 := (L5.gr hg)
  clear L5 G5 hg
  go_wp2_with fail
  refine (drawMiddle_any A0 n0 c0 _ (by omega) (hB0.later G6.below)).mono ?_
  rintro e w7 ⟨p, h, q, i, rfl, -, -, hb⟩
  have G7 := (((G6.trans (Gr.of_below hb)).alloc (.cells #[.int .i64 p, .int .i64 h] 26)).alloc (.cells #[.int .i64 q, .int .i64 i] 26))
  have L7 := (((L6.below hb).new' [.int .i64 p, .int .i64 h] 26 (w7.heap.size) (by simp)).new' [.int .i64 q, .int .i64 i] 26 (w7.heap.size + 1) (by simp))
  clear L6 G6 hb
  go_wp2_with fail
  refine (miR_impl p h q i _).mono ?_
  rintro e w8 ⟨rfl, hg⟩
  have G8 := ((G7.trans hg).alloc (.cells #[.int .i64 ((miR p h q i).1.1), .int .i64 ((miR p h q i).1.2)] 26))
  have L8 := ((L7.gr hg).new' [.int .i64 ((miR p h q i).1.1), .int .i64 ((miR p h q i).1.2)] 26 (w8.heap.size) (by simp))
  clear L7 G7 hg
  have F := L8
  obtain ⟨-, ⟨l1, z1⟩, ⟨l2, z2⟩, -⟩ := F
  go_wp2_with fail
  clear l1 z1 l2 z2
  refine (miR_spec p h q i _).mono ?_
  rintro e w9 ⟨rfl, hg⟩
  have G9 := ((G8.trans hg).alloc (.cells #[.int .i64 ((miR p h q i).1.1), .int .i64 ((miR p h q i).1.2)] 26))
  have L9 := ((L8.gr hg).new' [.int .i64 ((miR p h q i).1.1), .int .i64 ((miR p h q i).1.2)] 26 (w9.heap.size) (by simp))
  clear L8 G8 hg
  have hE := se_facts b f c g
  have hR := Lib.hid (fun W => reR_impl c g b f W)
  have HP := Lib.hid (fun (U V : Sp) (hU : pwR (pwR a s n d).a (pwR a s n d).s d n = U) (hV : pwR (pwR a s n d).b (pwR a s n d).t d n = V) (hc : (pwR a s n d).c = 0) (hn : 1 ≤ n) (h2 : U.c = 0) (h3 : V.c = 0) => pow_back a s n d _ U V rfl hU hV hc hn h2 h3)
  have hU := Lib.hid (fun W => pwR_impl (pwR a s n d).a (pwR a s n d).s d n W)
  have hV := Lib.hid (fun W => pwR_impl (pwR a s n d).b (pwR a s n d).t d n W)
  generalize (miR p h q i).1.1 = m1 at *
  generalize (miR p h q i).1.2 = m2 at *
  generalize (miR p h q i).2 = m3 at *
  generalize pwR a s n d = X at *
  obtain ⟨Xa, Xs, Xb, Xt, Xc⟩ := X
  simp only at *
  have HP := Lib.hid (fun hc hn h2 h3 => HP.out _ _ rfl rfl hc hn h2 h3)
  generalize pwR Xa Xs d n = U at *
  generalize pwR Xb Xt d n = V at *
  obtain ⟨Ua, Us, Ub, Ut, Uc⟩ := U
  obtain ⟨Va, Vs, Vb, Vt, Vc⟩ := V
  simp only at *
  have F := L9
  obtain ⟨⟨l0, z0⟩, ⟨l1, z1⟩, ⟨l2, z2⟩, ⟨l3, z3⟩, ⟨l4, z4⟩, ⟨l5, z5⟩, ⟨l6, z6⟩, ⟨l7, z7⟩, ⟨l8, z8⟩, ⟨l9, z9⟩, ⟨l10, z10⟩, -⟩ := F
  rcases hE with hE | ⟨hE0, hE1⟩
  · generalize (seR b f c g).1 = e1 at *
    generalize (seR b f c g).2 = e2 at *
    have kE : (e2 == 0) = false := by simp [hE]
    clear hE hR
    by_cases hX : Xc = 0
    · subst hX
      by_cases hn : n < 1
      · clear HP hU hV
        go_wp2_with fail
        go_ret
        exact ⟨rfl, G9.below⟩
      · by_cases hd : 12 < d
        · clear HP hU hV
          go_wp2_with fail
          go_ret
          exact ⟨rfl, G9.below⟩
        · have hn' : 1 ≤ n := by omega
          have hd' : d ≤ 12 := by omega
          by_cases kU : Uc = 0
          · subst kU
            by_cases kV : Vc = 0
            · subst kV
              obtain ⟨W1, W2, W3⟩ := HP.out rfl hn' rfl rfl
              have W1 := Lib.hid W1
              have W2 := Lib.hid W2
              have W3 := Lib.hid W3
              clear HP
              go_wp2_with fail
              clear l0 z0 l1 z1 l2 z2 l3 z3 l4 z4 l5 z5 l6 z6 l7 z7 l8 z8 l9 z9 l10 z10
              refine (hU.out _).mono ?_
              rintro e w10 ⟨rfl, hg⟩
              have G10 := (((G9.trans hg).alloc (.cells #[.int .i64 Ua, .int .i64 Us] 26)).alloc (.cells #[.int .i64 Ub, .int .i64 Ut] 26))
              have L10 := (((L9.gr hg).new' [.int .i64 Ua, .int .i64 Us] 26 (w10.heap.size) (by simp)).new' [.int .i64 Ub, .int .i64 Ut] 26 (w10.heap.size + 1) (by simp))
              clear L9 G9 hg
              have F := L10
              obtain ⟨-, -, -, -, -, -, -, -, -, -, ⟨l10, z10⟩, -⟩ := F
              go_wp2_with fail
              clear l10 z10
              refine (hV.out _).mono ?_
              rintro e w11 ⟨rfl, hg⟩
              have G11 := (((G10.trans hg).alloc (.cells #[.int .i64 Va, .int .i64 Vs] 26)).alloc (.cells #[.int .i64 Vb, .int .i64 Vt] 26))
              have L11 := (((L10.gr hg).new' [.int .i64 Va, .int .i64 Vs] 26 (w11.heap.size) (by simp)).new' [.int .i64 Vb, .int .i64 Vt] 26 (w11.heap.size + 1) (by simp))
              clear L10 G10 hg
              have F := L11
              obtain ⟨⟨l0, z0⟩, -, ⟨l2, z2⟩, ⟨l3, z3⟩, -⟩ := F
              go_wp2_with fail
              clear l0 z0 l2 z2 l3 z3
              refine (between_any Ua Us Ub Ut Vb Vt _ W1.out).mono ?_
              rintro e w12 ⟨rfl, hg⟩
              have G12 := (G11.trans hg)
              have L12 := (L11.gr hg)
              clear L11 G11 hg
              have F := L12
              obtain ⟨⟨l0, z0⟩, ⟨l1, z1⟩, -, ⟨l3, z3⟩, -⟩ := F
              go_wp2_with fail
              clear l0 z0 l1 z1 l3 z3
              refine (between_any Ua Us Va Vs Vb Vt _ W2.out).mono ?_
              rintro e w13 ⟨rfl, hg⟩
              have G13 := (G12.trans hg)
              have L13 := (L12.gr hg)
              clear L12 G12 hg
              have F := L13
              obtain ⟨⟨l0, z0⟩, -, -, ⟨l3, z3⟩, -, -, -, -, -, -, -, -, -, -, ⟨l14, z14⟩, -⟩ := F
              go_wp2_with fail
              clear l0 z0 l3 z3 l14 z14
              refine (between_any Ua Us a s Vb Vt _ W3.out).mono ?_
              rintro e w14 ⟨rfl, hg⟩
              have G14 := (G13.trans hg)
              have L14 := (L13.gr hg)
              clear L13 G13 hg
              go_wp2_with fail
              go_ret
              exact ⟨rfl, G14.below⟩
            · have kV : (Vc != 0) = true := by simp [kV]
              clear HP
              go_wp2_with fail
              clear l0 z0 l1 z1 l2 z2 l3 z3 l4 z4 l5 z5 l6 z6 l7 z7 l8 z8 l9 z9 l10 z10
              refine (hU.out _).mono ?_
              rintro e w10 ⟨rfl, hg⟩
              have G10 := (((G9.trans hg).alloc (.cells #[.int .i64 Ua, .int .i64 Us] 26)).alloc (.cells #[.int .i64 Ub, .int .i64 Ut] 26))
              have L10 := (((L9.gr hg).new' [.int .i64 Ua, .int .i64 Us] 26 (w10.heap.size) (by simp)).new' [.int .i64 Ub, .int .i64 Ut] 26 (w10.heap.size + 1) (by simp))
              clear L9 G9 hg
              have F := L10
              obtain ⟨-, -, -, -, -, -, -, -, -, -, ⟨l10, z10⟩, -⟩ := F
              go_wp2_with fail
              clear l10 z10
              refine (hV.out _).mono ?_
              rintro e w11 ⟨rfl, hg⟩
              have G11 := (((G10.trans hg).alloc (.cells #[.int .i64 Va, .int .i64 Vs] 26)).alloc (.cells #[.int .i64 Vb, .int .i64 Vt] 26))
              have L11 := (((L10.gr hg).new' [.int .i64 Va, .int .i64 Vs] 26 (w11.heap.size) (by simp)).new' [.int .i64 Vb, .int .i64 Vt] 26 (w11.heap.size + 1) (by simp))
              clear L10 G10 hg
              go_wp2_with fail
              go_ret
              exact ⟨rfl, G11.below⟩
          · have kU : (Uc != 0) = true := by simp [kU]
            clear HP
            go_wp2_with fail
            clear l0 z0 l1 z1 l2 z2 l3 z3 l4 z4 l5 z5 l6 z6 l7 z7 l8 z8 l9 z9 l10 z10
            refine (hU.out _).mono ?_
            rintro e w10 ⟨rfl, hg⟩
            have G10 := (((G9.trans hg).alloc (.cells #[.int .i64 Ua, .int .i64 Us] 26)).alloc (.cells #[.int .i64 Ub, .int .i64 Ut] 26))
            have L10 := (((L9.gr hg).new' [.int .i64 Ua, .int .i64 Us] 26 (w10.heap.size) (by simp)).new' [.int .i64 Ub, .int .i64 Ut] 26 (w10.heap.size + 1) (by simp))
            clear L9 G9 hg
            have F := L10
            obtain ⟨-, -, -, -, -, -, -, -, -, -, ⟨l10, z10⟩, -⟩ := F
            go_wp2_with fail
            clear l10 z10
            refine (hV.out _).mono ?_
            rintro e w11 ⟨rfl, hg⟩
            have G11 := (((G10.trans hg).alloc (.cells #[.int .i64 Va, .int .i64 Vs] 26)).alloc (.cells #[.int .i64 Vb, .int .i64 Vt] 26))
            have L11 := (((L10.gr hg).new' [.int .i64 Va, .int .i64 Vs] 26 (w11.heap.size) (by simp)).new' [.int .i64 Vb, .int .i64 Vt] 26 (w11.heap.size + 1) (by simp))
            clear L10 G10 hg
            go_wp2_with fail
            go_ret
            exact ⟨rfl, G11.below⟩
    · have kX : (Xc != 0) = true := by simp [hX]
      clear hX HP hU hV
      go_wp2_with fail
      go_ret
      exact ⟨rfl, G9.below⟩
  · rw [hE1] at hR
    clear hE1
    generalize (seR b f c g).1 = e1 at *
    generalize (seR b f c g).2 = e2 at *
    subst hE0
    by_cases hX : Xc = 0
    · subst hX
      by_cases hn : n < 1
      · clear HP hU hV
        go_wp2_with fail
        clear l0 z0 l1 z1 l2 z2 l3 z3 l4 z4 l5 z5 l6 z6 l7 z7 l8 z8 l9 z9 l10 z10
        refine (hR.out _).mono ?_
        rintro e w10 ⟨rfl, hg⟩
        have G10 := (G9.trans hg)
        have L10 := (L9.gr hg)
        clear L9 G9 hg
        go_wp2_with fail
        go_ret
        exact ⟨rfl, G10.below⟩
      · by_cases hd : 12 < d
        · clear HP hU hV
          go_wp2_with fail
          clear l0 z0 l1 z1 l2 z2 l3 z3 l4 z4 l5 z5 l6 z6 l7 z7 l8 z8 l9 z9 l10 z10
          refine (hR.out _).mono ?_
          rintro e w10 ⟨rfl, hg⟩
          have G10 := (G9.trans hg)
          have L10 := (L9.gr hg)
          clear L9 G9 hg
          go_wp2_with fail
          go_ret
          exact ⟨rfl, G10.below⟩
        · have hn' : 1 ≤ n := by omega
          have hd' : d ≤ 12 := by omega
          by_cases kU : Uc = 0
          · subst kU
            by_cases kV : Vc = 0
            · subst kV
              obtain ⟨W1, W2, W3⟩ := HP.out rfl hn' rfl rfl
              have W1 := Lib.hid W1
              have W2 := Lib.hid W2
              have W3 := Lib.hid W3
              clear HP
              go_wp2_with fail
              clear l0 z0 l1 z1 l2 z2 l3 z3 l4 z4 l5 z5 l6 z6 l7 z7 l8 z8 l9 z9 l10 z10
              refine (hR.out _).mono ?_
              rintro e w10 ⟨rfl, hg⟩
              have G10 := (G9.trans hg)
              have L10 := (L9.gr hg)
              clear L9 G9 hg
              have F := L10
              obtain ⟨-, -, -, -, -, -, -, -, -, ⟨l9, z9⟩, -⟩ := F
              go_wp2_with fail
              clear l9 z9
              refine (hU.out _).mono ?_
              rintro e w11 ⟨rfl, hg⟩
              have G11 := (((G10.trans hg).alloc (.cells #[.int .i64 Ua, .int .i64 Us] 26)).alloc (.cells #[.int .i64 Ub, .int .i64 Ut] 26))
              have L11 := (((L10.gr hg).new' [.int .i64 Ua, .int .i64 Us] 26 (w11.heap.size) (by simp)).new' [.int .i64 Ub, .int .i64 Ut] 26 (w11.heap.size + 1) (by simp))
              clear L10 G10 hg
              have F := L11
              obtain ⟨-, -, -, -, -, -, -, -, -, -, ⟨l10, z10⟩, -⟩ := F
              go_wp2_with fail
              clear l10 z10
              refine (hV.out _).mono ?_
              rintro e w12 ⟨rfl, hg⟩
              have G12 := (((G11.trans hg).alloc (.cells #[.int .i64 Va, .int .i64 Vs] 26)).alloc (.cells #[.int .i64 Vb, .int .i64 Vt] 26))
              have L12 := (((L11.gr hg).new' [.int .i64 Va, .int .i64 Vs] 26 (w12.heap.size) (by simp)).new' [.int .i64 Vb, .int .i64 Vt] 26 (w12.heap.size + 1) (by simp))
              clear L11 G11 hg
              have F := L12
              obtain ⟨⟨l0, z0⟩, -, ⟨l2, z2⟩, ⟨l3, z3⟩, -⟩ := F
              go_wp2_with fail
              clear l0 z0 l2 z2 l3 z3
              refine (between_any Ua Us Ub Ut Vb Vt _ W1.out).mono ?_
              rintro e w13 ⟨rfl, hg⟩
              have G13 := (G12.trans hg)
              have L13 := (L12.gr hg)
              clear L12 G12 hg
              have F := L13
              obtain ⟨⟨l0, z0⟩, ⟨l1, z1⟩, -, ⟨l3, z3⟩, -⟩ := F
              go_wp2_with fail
              clear l0 z0 l1 z1 l3 z3
              refine (between_any Ua Us Va Vs Vb Vt _ W2.out).mono ?_
              rintro e w14 ⟨rfl, hg⟩
              have G14 := (G13.trans hg)
              have L14 := (L13.gr hg)
              clear L13 G13 hg
              have F := L14
              obtain ⟨⟨l0, z0⟩, -, -, ⟨l3, z3⟩, -, -, -, -, -, -, -, -, -, -, ⟨l14, z14⟩, -⟩ := F
              go_wp2_with fail
              clear l0 z0 l3 z3 l14 z14
              refine (between_any Ua Us a s Vb Vt _ W3.out).mono ?_
              rintro e w15 ⟨rfl, hg⟩
              have G15 := (G14.trans hg)
              have L15 := (L14.gr hg)
              clear L14 G14 hg
              go_wp2_with fail
              go_ret
              exact ⟨rfl, G15.below⟩
            · have kV : (Vc != 0) = true := by simp [kV]
              clear HP
              go_wp2_with fail
              clear l0 z0 l1 z1 l2 z2 l3 z3 l4 z4 l5 z5 l6 z6 l7 z7 l8 z8 l9 z9 l10 z10
              refine (hR.out _).mono ?_
              rintro e w10 ⟨rfl, hg⟩
              have G10 := (G9.trans hg)
              have L10 := (L9.gr hg)
              clear L9 G9 hg
              have F := L10
              obtain ⟨-, -, -, -, -, -, -, -, -, ⟨l9, z9⟩, -⟩ := F
              go_wp2_with fail
              clear l9 z9
              refine (hU.out _).mono ?_
              rintro e w11 ⟨rfl, hg⟩
              have G11 := (((G10.trans hg).alloc (.cells #[.int .i64 Ua, .int .i64 Us] 26)).alloc (.cells #[.int .i64 Ub, .int .i64 Ut] 26))
              have L11 := (((L10.gr hg).new' [.int .i64 Ua, .int .i64 Us] 26 (w11.heap.size) (by simp)).new' [.int .i64 Ub, .int .i64 Ut] 26 (w11.heap.size + 1) (by simp))
              clear L10 G10 hg
              have F := L11
              obtain ⟨-, -, -, -, -, -, -, -, -, -, ⟨l10, z10⟩, -⟩ := F
              go_wp2_with fail
              clear l10 z10
              refine (hV.out _).mono ?_
              rintro e w12 ⟨rfl, hg⟩
              have G12 := (((G11.trans hg).alloc (.cells #[.int .i64 Va, .int .i64 Vs] 26)).alloc (.cells #[.int .i64 Vb, .int .i64 Vt] 26))
              have L12 := (((L11.gr hg).new' [.int .i64 Va, .int .i64 Vs] 26 (w12.heap.size) (by simp)).new' [.int .i64 Vb, .int .i64 Vt] 26 (w12.heap.size + 1) (by simp))
              clear L11 G11 hg
              go_wp2_with fail
              go_ret
              exact ⟨rfl, G12.below⟩
          · have kU : (Uc != 0) = true := by simp [kU]
            clear HP
            go_wp2_with fail
            clear l0 z0 l1 z1 l2 z2 l3 z3 l4 z4 l5 z5 l6 z6 l7 z7 l8 z8 l9 z9 l10 z10
            refine (hR.out _).mono ?_
            rintro e w10 ⟨rfl, hg⟩
            have G10 := (G9.trans hg)
            have L10 := (L9.gr hg)
            clear L9 G9 hg
            have F := L10
            obtain ⟨-, -, -, -, -, -, -, -, -, ⟨l9, z9⟩, -⟩ := F
            go_wp2_with fail
            clear l9 z9
            refine (hU.out _).mono ?_
            rintro e w11 ⟨rfl, hg⟩
            have G11 := (((G10.trans hg).alloc (.cells #[.int .i64 Ua, .int .i64 Us] 26)).alloc (.cells #[.int .i64 Ub, .int .i64 Ut] 26))
            have L11 := (((L10.gr hg).new' [.int .i64 Ua, .int .i64 Us] 26 (w11.heap.size) (by simp)).new' [.int .i64 Ub, .int .i64 Ut] 26 (w11.heap.size + 1) (by simp))
            clear L10 G10 hg
            have F := L11
            obtain ⟨-, -, -, -, -, -, -, -, -, -, ⟨l10, z10⟩, -⟩ := F
            go_wp2_with fail
            clear l10 z10
            refine (hV.out _).mono ?_
            rintro e w12 ⟨rfl, hg⟩
            have G12 := (((G11.trans hg).alloc (.cells #[.int .i64 Va, .int .i64 Vs] 26)).alloc (.cells #[.int .i64 Vb, .int .i64 Vt] 26))
            have L12 := (((L11.gr hg).new' [.int .i64 Va, .int .i64 Vs] 26 (w12.heap.size) (by simp)).new' [.int .i64 Vb, .int .i64 Vt] 26 (w12.heap.size + 1) (by simp))
            clear L11 G11 hg
            go_wp2_with fail
            go_ret
            exact ⟨rfl, G12.below⟩
    · have kX : (Xc != 0) = true := by simp [hX]
      clear hX HP hU hV
      go_wp2_with fail
      clear l0 z0 l1 z1 l2 z2 l3 z3 l4 z4 l5 z5 l6 z6 l7 z7 l8 z8 l9 z9 l10 z10
      refine (hR.out _).mono ?_
      rintro e w10 ⟨rfl, hg⟩
      have G10 := (G9.trans hg)
      have L10 := (L9.gr hg)
      clear L9 G9 hg
      go_wp2_with fail
      go_ret
      exact ⟨rfl, G10.below⟩

set_option maxHeartbeats 4000000 in
set_option maxRecDepth 100000 in
theorem walk (w : World) (A0 : Option Addr) (n0 c0 : Nat) (hB0 : Bytes w w.heap.size A0 n0) :
    Calls Try.prog 5 #[.slice A0 n0 c0] w (LawDone w) := by
  by_cases hbig : 4096 < n0
  · have hd : decide ((4096 : Int) < n0) = true := by simp; omega
    go_enter Try.func5, Try.ntmps5
    go_wp2_with fail
    refine (big_any A0 n0 c0 w).mono ?_
    rw [hd]
    rintro e w1 ⟨rfl, rfl⟩
    go_wp2_with fail
    go_ret
    exact ⟨rfl, Below.refl _ _⟩
  · exact walk1 w A0 n0 c0 hB0 hbig

set_option maxRecDepth 100000 in
theorem lifted (os : Os) (started : os.Started) (H : Type) (enc : TypeId × Value → H) :
    ReturnsInHanded {} Try.checked os 5 .any (Rows.fnPowersSpec.pre6 enc Try.prog Try.f5 Rows.fnPowersRow.domain false) (Rows.fnPowersSpec.post enc Try.prog Try.f5 false true false false) := by
  refine returnsInHanded_of_change (C := Try.checked) own started (by kernel_rfl) Try.func5
    (ChangeSpec.witness6 (enc := enc) (C := Try.checked) false ⟨#[], #[.slice none 0 0], []⟩ 8 (by kernel_rfl) (by kernel_rfl) (by kernel_rfl) (by kernel_rfl)) ?_
  intro W base args ds gs before hval0 hW hcnd _
  have hval : ∀ (j : Nat) t v, Try.f5.params[j]? = some t → args[j]? = some v → Value.okWide Try.prog W .any base t v := hval0
  have hW' := hW
  obtain ⟨p, q, hA0, hV, hpq, hfz, hnd⟩ := hW
  have hA : DataW.TrodAll enc Try.prog W 0 (fun _ => true) true Try.f5.params.toList args.toList ds p := hA0
  have hT := hA
  obtain ⟨rfl, rfl⟩ := trodVars_none hV
  rw [Try.params5] at hA hval
  obtain ⟨v0, vs0, d0, ds0, p0, q0, hargs, rfl, rfl, h0, r0⟩ := trodAll_cons hA
  obtain ⟨rfl, rfl, rfl⟩ := trodAll_nil r0
  obtain rfl : args = #[v0] := by cases args; simp_all
  obtain ⟨A0, n0, c0, rfl, -, hB0⟩ := open_code Try.underlying22 Try.underlying5 (by kernel_rfl) (hval 0 22 v0 rfl rfl) h0
  clear hA0 hval0
  refine (walk W A0 n0 c0 hB0).mono fun e W' ⟨he, hb⟩ => ?_
  subst he
  exact ⟨_, rfl, law_post laidOut hW' hT hpq (by kernel_rfl) (fun _ _ => rfl) rfl rfl rfl Try.underlying4 hb⟩

theorem over : Rows.fnPowersRow.holds Try.pinned (OpenSpec.ofChange Rows.fnPowersSpec) :=
  OpenClaim.holds_of_wide 5 Try.f5 rfl rfl rfl rfl rfl rfl rfl ⟨rfl, rfl, rfl, rfl, rfl⟩ rfl rfl rfl rfl rfl (by kernel_rfl) Try.func5 (by kernel_rfl)
    (of_decide_eq_true (by kernel_rfl)) (by unfold Func.isWrapper; first | (rw [if_pos (by decide +kernel)]; kernel_rfl) | (rw [if_neg (by decide +kernel)]; exact ⟨rfl, rfl⟩))
    (fun os started H enc _ => lifted os started H enc)

theorem proved : Rows.FnPowersSaid :=
  over
end Go.Proofs.Ytipanchmhohlbaa.fnPowers
