/- For every code of bytes the positions of the drawn figure and of the next one, the directions and the decades are as the law FnScales says, and it returns true. No condition beyond the table as the program's text lays it. -/
import Derived.Test.YtjfcgkfgpemheaaDoorC05c
import Derived.Test.YtjfcgkfgpemheaaDoorD12
import Derived.Test.YtjfcgkfgpemheaaDoorSe
import Derived.Test.YtjfcgkfgpemheaaDoorHs
import Derived.Test.YtjfcgkfgpemheaaDoorBig
import Derived.Test.YtjfcgkfgpemheaaDoorM18
import Derived.Test.YtjfcgkfgpemheaaDoorDr
import Derived.Test.YtjfcgkfgpemheaaDoorTie
import Derived.Test.YtjfcgkfgpemheaaDoorCards
import Derived.Test.YtjfcgkfgpemheaaDoorFr
import Derived.Test.YtjfcgkfgpemheaaDoorFv
import Derived.Test.YtjfcgkfgpemheaaDoorRows
import Derived.WalkKit
import Derived.ProofKit
import Derived.OpenShut
namespace Go.Proofs.YtjfcgkfgpemheaaDoor.fnScales
open Go.ChangeShapes Go.WideShapes Go.ChangeAt Go.RowKit
set_option linter.unusedVariables false
set_option linter.unusedSimpArgs false

theorem own : ownKnob Tryd.prog.godebug = none := by kernel_rfl

theorem dcsl {w : World} (hL : laidMet Tryd.prog Rows.fnScalesRow.laid w) : Dcs w := by
  have h := hL.filter (fun x => x.1 == "loop.example/g00951/impl.scaleDecades")
  have e : Rows.fnScalesRow.laid.filter (fun x => x.1 == "loop.example/g00951/impl.scaleDecades") = [("loop.example/g00951/impl.scaleDecades", Lib.tabData .i64 [1, 2, 3, 1, 1, 1])] := by rfl
  rw [e] at h
  exact dcs_of (Lib.tabIs_of_head (g := 0) (by kernel_rfl) (by kernel_rfl) Tryd.underlying66 Tryd.underlying2 (by kernel_rfl) (by kernel_rfl) h)

attribute [local go_sem high] guard_fig neq_fig eql_fig guard_itv neq_itv
theorem nx_impl (s a t : Int) (h : a ≤ 9998) (f1 : fg a t = true) (f2 : sc s = true) (f3 : ¬ (s = 5 ∧ t ≠ 0)) (W : World) (hW : Dcs W) :
    Calls Tryd.prog 13 #[.int .i64 s, .agg #[.int .i64 (a + 1), .int .i64 t]] W fun e w' => e = .returned (.tuple #[.agg #[.int .i64 (psn s (a + 1) t).1, .int .i64 (psn s (a + 1) t).2], .int .i64 0]) ∧ Gr W w' := by
  have H := poR_impl s (a + 1) t W hW
  obtain ⟨⟨d1, d2⟩, t1, t2⟩ := (fg_iff a t).1 f1
  rw [po_of s (a + 1) t ((fg_iff _ _).2 ⟨⟨by omega, by omega⟩, t1, t2⟩) f2 f3] at H
  exact H
set_option maxHeartbeats 8000000 in
set_option maxRecDepth 100000 in
/-- The walk of a code that is not too long. -/
theorem walk1 (w : World) (hD : Dcs w) (A0 : Option Addr) (n0 c0 : Nat) (hB0 : Bytes w w.heap.size A0 n0) (hbig : ¬ 4096 < n0) :
    Calls Tryd.prog 3 #[.slice A0 n0 c0] w (LawDone w) := by
  have HD := Lib.hid hD
  clear hD
  have hd : decide ((4096 : Int) < n0) = false := by simp; omega
  go_enter Tryd.func3, Tryd.ntmps3
  go_wp2_with fail
  refine (big_any A0 n0 c0 w).mono ?_
  rw [hd]
  rintro e w1 ⟨rfl, rfl⟩
  clear hd
  go_wp2_with fail
  refine (drawPositionOf_any A0 n0 c0 w (by omega) hB0).mono ?_
  rintro e w1 ⟨s, a, t, rfl, -, -, hb⟩
  have G1 := ((Gr.of_below hb).alloc (.cells #[.int .i64 a, .int .i64 t] 25))
  have L1 := ((show Hass w1 [] from trivial).new' [.int .i64 a, .int .i64 t] 25 (w1.heap.size) (by simp))
  clear hb
  have F := L1
  obtain ⟨⟨l0, z0⟩, -⟩ := F
  go_wp2_with fail
  clear l0 z0
  refine (poR_impl s a t _ (HD.out.gr G1)).mono ?_
  rintro e w2 ⟨rfl, hg⟩
  have G2 := ((G1.trans hg).alloc (.cells #[.int .i64 ((poR s a t).1.1), .int .i64 ((poR s a t).1.2)] 29))
  have L2 := ((L1.gr hg).new' [.int .i64 ((poR s a t).1.1), .int .i64 ((poR s a t).1.2)] 29 (w2.heap.size) (by simp))
  clear L1 G1 hg
  have F := L2
  obtain ⟨-, ⟨l1, z1⟩, -⟩ := F
  go_wp2_with fail
  clear l1 z1
  refine (poR_spec s a t _).mono ?_
  rintro e w3 ⟨rfl, hg⟩
  have G3 := ((G2.trans hg).alloc (.cells #[.int .i64 ((poR s a t).1.1), .int .i64 ((poR s a t).1.2)] 29))
  have L3 := ((L2.gr hg).new' [.int .i64 ((poR s a t).1.1), .int .i64 ((poR s a t).1.2)] 29 (w3.heap.size) (by simp))
  clear L2 G2 hg
  go_wp2_with fail
  refine (drawIsRising_any A0 n0 c0 _ (by omega) (hB0.later G3.below)).mono ?_
  rintro e w4 ⟨x, rfl, -, hb⟩
  have G4 := (G3.trans (Gr.of_below hb))
  have L4 := (L3.below hb)
  clear L3 G3 hb
  go_wp2_with fail
  refine (riR_impl x _).mono ?_
  rintro e w5 ⟨rfl, rfl⟩
  have G5 := G4
  have L5 := L4
  clear G4 L4
  go_wp2_with fail
  refine (riR_spec x _).mono ?_
  rintro e w6 ⟨rfl, rfl⟩
  have G6 := G5
  have L6 := L5
  clear G5 L5
  go_wp2_with fail
  refine (deR_impl x _ (HD.out.gr G6)).mono ?_
  rintro e w7 ⟨rfl, rfl⟩
  have G7 := G6
  have L7 := L6
  clear G6 L6
  go_wp2_with fail
  refine (deR_spec x _).mono ?_
  rintro e w8 ⟨rfl, rfl⟩
  have G8 := G7
  have L8 := L7
  clear G7 L7
  have HP := Lib.hid (po_facts s a t)
  have hx : (sc x = true ∧ (riR x).2 = 0) ∨ (sc x = false ∧ (riR x).2 = 2) := by
    rcases sc_tf x with h | h
    · exact .inl ⟨h, by rw [riR_ok x h]⟩
    · exact .inr ⟨h, by rw [riR_no x h]⟩
  generalize (riR x).1 = r at *
  generalize (riR x).2 = c1 at *
  generalize (deR x).1 = d at *
  generalize (deR x).2 = c2 at *
  have hc : (poR s a t).2 = 0 ∨ ((poR s a t).2 == 0) = false := by
    by_cases h : (poR s a t).2 = 0
    · exact .inl h
    · exact .inr (by simp [h])
  generalize hbad : (poR s a t).2 = bad at *
  generalize hp1 : (poR s a t).1.1 = p1 at *
  generalize hp2 : (poR s a t).1.2 = p2 at *
  have IS1 := Lib.hid (fun W => isScale_impl x W)
  have IS2 := Lib.hid (fun W => isScale_spec x W)
  obtain ⟨b, hb⟩ : ∃ b, sc x = b := ⟨_, rfl⟩
  rw [hb] at IS1 IS2 hx
  clear hb
  have F := L8
  obtain ⟨⟨l0, z0⟩, ⟨l1, z1⟩, ⟨l2, z2⟩, -⟩ := F
  rcases hc with rfl | hc
  · obtain ⟨f1, f2, f3⟩ := HP.out rfl
    have e := po_of s a t f1 f2 f3
    rw [e] at hp1 hp2
    simp only at hp1 hp2
    obtain ⟨⟨d1, d2⟩, t1, t2⟩ := (fg_iff a t).1 f1
    have HR := Lib.hid (psn_root a t d1 d2)
    have HA := Lib.hid (fun W hW => poR_impl 1 a 0 W hW)
    have HC := Lib.hid (fun W hW => poR_impl 0 a t W hW)
    rw [po_of 1 a 0 (fg_zero f1) (by decide) (by omega)] at HA
    rw [po_of 0 a t f1 (by decide) (by omega)] at HC
    have HI := Lib.hid (fun W => riR_impl s W)
    rw [riR_ok s f2] at HI
    have HN := Lib.hid (fun (h : a ≤ 9998) W (hW : Dcs W) => nx_impl s a t h f1 f2 f3 W hW)
    have HU := Lib.hid (fun (h : a ≤ 9998) => psn_up s a t d1 h)
    have HV := Lib.hid (fun (h3 : s = 3) (h : a ≤ 9998) => (show (psn s (a + 1) t).1 < (psn s a t).1 by subst h3; exact psn_down a t d1 h))
    have HB := Lib.hid (psn_bd 1 a 0 (fg_zero f1))
    clear HP e f3 hbad
    have kb : (c1 == 0) = b := by rcases hx with ⟨rfl, rfl⟩ | ⟨rfl, rfl⟩ <;> rfl
    clear hx
    subst hp1 hp2
    generalize psn s (a + 1) t = N at *
    by_cases h9 : a ≤ 9998
    · by_cases h4 : s = 4 ∧ a = 3142
      · obtain ⟨rfl, rfl⟩ := h4
        go_wp2_with (first | (go_at_call 20; refine (IS1.out _).mono ?_; rintro e w' ⟨rfl, rfl⟩) | (go_at_call 21; refine (IS2.out _).mono ?_; rintro e w' ⟨rfl, rfl⟩) | (go_at_call 16; refine (HI.out _).mono ?_; rintro e w' ⟨rfl, rfl⟩))
        refine (HA.out _ (HD.out.gr G8)).mono ?_
        rintro e u1 ⟨rfl, hg⟩
        have G9 := (G8.trans hg).alloc (.cells #[.int .i64 (psn 1 3142 0).1, .int .i64 (psn 1 3142 0).2] 29)
        have L9 := (L8.gr hg).new [.int .i64 (psn 1 3142 0).1, .int .i64 (psn 1 3142 0).2] 29
        clear G8 L8 hg l0 z0 l1 z1 l2 z2
        have F := L9
        obtain ⟨⟨l0, z0⟩, -, -, ⟨l3, z3⟩, -⟩ := F
        go_wp2_with fail
        refine (HC.out _ (HD.out.gr G9)).mono ?_
        rintro e u2 ⟨rfl, hg⟩
        have G10 := (G9.trans hg).alloc (.cells #[.int .i64 (psn 0 3142 t).1, .int .i64 (psn 0 3142 t).2] 29)
        have L10 := (L9.gr hg).new [.int .i64 (psn 0 3142 t).1, .int .i64 (psn 0 3142 t).2] 29
        clear G9 L9 hg l0 z0 l3 z3
        have F := L10
        obtain ⟨⟨l0, z0⟩, ⟨l1, z1⟩, -⟩ := F
        obtain ⟨r1, r2⟩ := HR.out
        obtain ⟨e1, e2, e3, e4⟩ := HB.out
        go_wp2_with fail
        go_ret
        exact ⟨ret_bool (by first | rfl | exact decide_eq_true r2 | (rw [IntWalk.wrap64_in _ (by omega)]; exact decide_eq_true r2)), G10.below⟩
      · have hs4 : (s == 4) = false ∨ (s = 4 ∧ (a == 3142) = false) := by
          by_cases h : s = 4
          · exact .inr ⟨h, by simp; omega⟩
          · exact .inl (by simp [h])
        by_cases h3 : s = 3
        · have hv := HV.out h3 h9
          subst h3
          clear HU HV hs4
          go_wp2_with (first | (go_at_call 20; refine (IS1.out _).mono ?_; rintro e w' ⟨rfl, rfl⟩) | (go_at_call 21; refine (IS2.out _).mono ?_; rintro e w' ⟨rfl, rfl⟩) | (go_at_call 16; refine (HI.out _).mono ?_; rintro e w' ⟨rfl, rfl⟩))
          refine (HN.out h9 _ (HD.out.gr G8)).mono ?_
          rintro e u0 ⟨rfl, hg⟩
          have G9 := (G8.trans hg).alloc (.cells #[.int .i64 N.1, .int .i64 N.2] 29)
          have L9 := (L8.gr hg).new [.int .i64 N.1, .int .i64 N.2] 29
          clear G8 L8 hg l0 z0 l1 z1 l2 z2
          have F := L9
          obtain ⟨⟨l0, z0⟩, -, ⟨l2, z2⟩, ⟨l3, z3⟩, -⟩ := F
          go_wp2_with (first | (go_at_call 20; refine (IS1.out _).mono ?_; rintro e w' ⟨rfl, rfl⟩) | (go_at_call 21; refine (IS2.out _).mono ?_; rintro e w' ⟨rfl, rfl⟩) | (go_at_call 16; refine (HI.out _).mono ?_; rintro e w' ⟨rfl, rfl⟩))
          refine (HA.out _ (HD.out.gr G9)).mono ?_
          rintro e u1 ⟨rfl, hg⟩
          have G10 := (G9.trans hg).alloc (.cells #[.int .i64 (psn 1 a 0).1, .int .i64 (psn 1 a 0).2] 29)
          have L10 := (L9.gr hg).new [.int .i64 (psn 1 a 0).1, .int .i64 (psn 1 a 0).2] 29
          clear G9 L9 hg l0 z0 l2 z2 l3 z3
          have F := L10
          obtain ⟨⟨l0, z0⟩, -, -, -, ⟨l4, z4⟩, -⟩ := F
          go_wp2_with fail
          refine (HC.out _ (HD.out.gr G10)).mono ?_
          rintro e u2 ⟨rfl, hg⟩
          have G11 := (G10.trans hg).alloc (.cells #[.int .i64 (psn 0 a t).1, .int .i64 (psn 0 a t).2] 29)
          have L11 := (L10.gr hg).new [.int .i64 (psn 0 a t).1, .int .i64 (psn 0 a t).2] 29
          clear G10 L10 hg l0 z0 l4 z4
          have F := L11
          obtain ⟨⟨l0, z0⟩, ⟨l1, z1⟩, -⟩ := F
          obtain ⟨r1, r2⟩ := HR.out
          obtain ⟨e1, e2, e3, e4⟩ := HB.out
          go_wp2_with fail
          go_ret
          exact ⟨ret_bool (by first | rfl | exact decide_eq_true r2 | (rw [IntWalk.wrap64_in _ (by omega)]; exact decide_eq_true r2)), G11.below⟩
        · have hu := HU.out h9 h3 h4
          have e3 : decide (s ≠ 3) = true := by simp [h3]
          rw [e3] at HI
          clear HU HV e3
          rcases hs4 with hs4 | ⟨rfl, hs4⟩
          · skip
            go_wp2_with (first | (go_at_call 20; refine (IS1.out _).mono ?_; rintro e w' ⟨rfl, rfl⟩) | (go_at_call 21; refine (IS2.out _).mono ?_; rintro e w' ⟨rfl, rfl⟩) | (go_at_call 16; refine (HI.out _).mono ?_; rintro e w' ⟨rfl, rfl⟩))
            refine (HN.out h9 _ (HD.out.gr G8)).mono ?_
            rintro e u0 ⟨rfl, hg⟩
            have G9 := (G8.trans hg).alloc (.cells #[.int .i64 N.1, .int .i64 N.2] 29)
            have L9 := (L8.gr hg).new [.int .i64 N.1, .int .i64 N.2] 29
            clear G8 L8 hg l0 z0 l1 z1 l2 z2
            have F := L9
            obtain ⟨⟨l0, z0⟩, -, ⟨l2, z2⟩, ⟨l3, z3⟩, -⟩ := F
            go_wp2_with (first | (go_at_call 20; refine (IS1.out _).mono ?_; rintro e w' ⟨rfl, rfl⟩) | (go_at_call 21; refine (IS2.out _).mono ?_; rintro e w' ⟨rfl, rfl⟩) | (go_at_call 16; refine (HI.out _).mono ?_; rintro e w' ⟨rfl, rfl⟩))
            refine (HA.out _ (HD.out.gr G9)).mono ?_
            rintro e u1 ⟨rfl, hg⟩
            have G10 := (G9.trans hg).alloc (.cells #[.int .i64 (psn 1 a 0).1, .int .i64 (psn 1 a 0).2] 29)
            have L10 := (L9.gr hg).new [.int .i64 (psn 1 a 0).1, .int .i64 (psn 1 a 0).2] 29
            clear G9 L9 hg l0 z0 l2 z2 l3 z3
            have F := L10
            obtain ⟨⟨l0, z0⟩, -, -, -, ⟨l4, z4⟩, -⟩ := F
            go_wp2_with fail
            refine (HC.out _ (HD.out.gr G10)).mono ?_
            rintro e u2 ⟨rfl, hg⟩
            have G11 := (G10.trans hg).alloc (.cells #[.int .i64 (psn 0 a t).1, .int .i64 (psn 0 a t).2] 29)
            have L11 := (L10.gr hg).new [.int .i64 (psn 0 a t).1, .int .i64 (psn 0 a t).2] 29
            clear G10 L10 hg l0 z0 l4 z4
            have F := L11
            obtain ⟨⟨l0, z0⟩, ⟨l1, z1⟩, -⟩ := F
            obtain ⟨r1, r2⟩ := HR.out
            obtain ⟨e1, e2, e3, e4⟩ := HB.out
            go_wp2_with fail
            go_ret
            exact ⟨ret_bool (by first | rfl | exact decide_eq_true r2 | (rw [IntWalk.wrap64_in _ (by omega)]; exact decide_eq_true r2)), G11.below⟩
          · skip
            go_wp2_with (first | (go_at_call 20; refine (IS1.out _).mono ?_; rintro e w' ⟨rfl, rfl⟩) | (go_at_call 21; refine (IS2.out _).mono ?_; rintro e w' ⟨rfl, rfl⟩) | (go_at_call 16; refine (HI.out _).mono ?_; rintro e w' ⟨rfl, rfl⟩))
            refine (HN.out h9 _ (HD.out.gr G8)).mono ?_
            rintro e u0 ⟨rfl, hg⟩
            have G9 := (G8.trans hg).alloc (.cells #[.int .i64 N.1, .int .i64 N.2] 29)
            have L9 := (L8.gr hg).new [.int .i64 N.1, .int .i64 N.2] 29
            clear G8 L8 hg l0 z0 l1 z1 l2 z2
            have F := L9
            obtain ⟨⟨l0, z0⟩, -, ⟨l2, z2⟩, ⟨l3, z3⟩, -⟩ := F
            go_wp2_with (first | (go_at_call 20; refine (IS1.out _).mono ?_; rintro e w' ⟨rfl, rfl⟩) | (go_at_call 21; refine (IS2.out _).mono ?_; rintro e w' ⟨rfl, rfl⟩) | (go_at_call 16; refine (HI.out _).mono ?_; rintro e w' ⟨rfl, rfl⟩))
            refine (HA.out _ (HD.out.gr G9)).mono ?_
            rintro e u1 ⟨rfl, hg⟩
            have G10 := (G9.trans hg).alloc (.cells #[.int .i64 (psn 1 a 0).1, .int .i64 (psn 1 a 0).2] 29)
            have L10 := (L9.gr hg).new [.int .i64 (psn 1 a 0).1, .int .i64 (psn 1 a 0).2] 29
            clear G9 L9 hg l0 z0 l2 z2 l3 z3
            have F := L10
            obtain ⟨⟨l0, z0⟩, -, -, -, ⟨l4, z4⟩, -⟩ := F
            go_wp2_with fail
            refine (HC.out _ (HD.out.gr G10)).mono ?_
            rintro e u2 ⟨rfl, hg⟩
            have G11 := (G10.trans hg).alloc (.cells #[.int .i64 (psn 0 a t).1, .int .i64 (psn 0 a t).2] 29)
            have L11 := (L10.gr hg).new [.int .i64 (psn 0 a t).1, .int .i64 (psn 0 a t).2] 29
            clear G10 L10 hg l0 z0 l4 z4
            have F := L11
            obtain ⟨⟨l0, z0⟩, ⟨l1, z1⟩, -⟩ := F
            obtain ⟨r1, r2⟩ := HR.out
            obtain ⟨e1, e2, e3, e4⟩ := HB.out
            go_wp2_with fail
            go_ret
            exact ⟨ret_bool (by first | rfl | exact decide_eq_true r2 | (rw [IntWalk.wrap64_in _ (by omega)]; exact decide_eq_true r2)), G11.below⟩
    · obtain rfl : a = 9999 := by omega
      go_wp2_with (first | (go_at_call 20; refine (IS1.out _).mono ?_; rintro e w' ⟨rfl, rfl⟩) | (go_at_call 21; refine (IS2.out _).mono ?_; rintro e w' ⟨rfl, rfl⟩) | (go_at_call 16; refine (HI.out _).mono ?_; rintro e w' ⟨rfl, rfl⟩))
      refine (HA.out _ (HD.out.gr G8)).mono ?_
      rintro e u1 ⟨rfl, hg⟩
      have G9 := (G8.trans hg).alloc (.cells #[.int .i64 (psn 1 9999 0).1, .int .i64 (psn 1 9999 0).2] 29)
      have L9 := (L8.gr hg).new [.int .i64 (psn 1 9999 0).1, .int .i64 (psn 1 9999 0).2] 29
      clear G8 L8 hg l0 z0 l1 z1 l2 z2
      have F := L9
      obtain ⟨⟨l0, z0⟩, -, -, ⟨l3, z3⟩, -⟩ := F
      go_wp2_with fail
      refine (HC.out _ (HD.out.gr G9)).mono ?_
      rintro e u2 ⟨rfl, hg⟩
      have G10 := (G9.trans hg).alloc (.cells #[.int .i64 (psn 0 9999 t).1, .int .i64 (psn 0 9999 t).2] 29)
      have L10 := (L9.gr hg).new [.int .i64 (psn 0 9999 t).1, .int .i64 (psn 0 9999 t).2] 29
      clear G9 L9 hg l0 z0 l3 z3
      have F := L10
      obtain ⟨⟨l0, z0⟩, ⟨l1, z1⟩, -⟩ := F
      obtain ⟨r1, r2⟩ := HR.out
      obtain ⟨e1, e2, e3, e4⟩ := HB.out
      go_wp2_with fail
      go_ret
      exact ⟨ret_bool (by first | rfl | exact decide_eq_true r2 | (rw [IntWalk.wrap64_in _ (by omega)]; exact decide_eq_true r2)), G10.below⟩
  · have hc2 : (bad != 0) = true := by rw [bne, hc]; rfl
    clear HP hp1 hp2 hbad
    have kb : (c1 == 0) = b := by rcases hx with ⟨rfl, rfl⟩ | ⟨rfl, rfl⟩ <;> rfl
    clear hx
    go_wp2_with (first | (go_at_call 20; refine (IS1.out _).mono ?_; rintro e w' ⟨rfl, rfl⟩) | (go_at_call 21; refine (IS2.out _).mono ?_; rintro e w' ⟨rfl, rfl⟩))
    go_ret
    exact ⟨rfl, G8.below⟩

set_option maxHeartbeats 4000000 in
set_option maxRecDepth 100000 in
theorem walk (w : World) (hL : laidMet Tryd.prog Rows.fnScalesRow.laid w) (A0 : Option Addr) (n0 c0 : Nat) (hB0 : Bytes w w.heap.size A0 n0) :
    Calls Tryd.prog 3 #[.slice A0 n0 c0] w (LawDone w) := by
  have hD := dcsl hL
  clear hL
  by_cases hbig : 4096 < n0
  · have hd : decide ((4096 : Int) < n0) = true := by simp; omega
    go_enter Tryd.func3, Tryd.ntmps3
    go_wp2_with fail
    refine (big_any A0 n0 c0 w).mono ?_
    rw [hd]
    rintro e w1 ⟨rfl, rfl⟩
    go_wp2_with fail
    go_ret
    exact ⟨rfl, Below.refl _ _⟩
  · exact walk1 w hD A0 n0 c0 hB0 hbig

set_option maxRecDepth 100000 in
theorem lifted (os : Os) (started : os.Started) (H : Type) (enc : TypeId × Value → H) :
    ReturnsInHanded {} Tryd.checked os 3 .any (fun w args => (Rows.fnScalesSpec.pre enc Tryd.prog Tryd.f3 Rows.fnScalesRow.domain false w args ∧ laidMetH Tryd.prog Rows.fnScalesRow.laid w) ∧ sizedMet enc Tryd.prog Tryd.f3 (OpenSpec.ofChange Rows.fnScalesSpec) false w args) (Rows.fnScalesSpec.post enc Tryd.prog Tryd.f3 false true false false) := by
  refine returnsInHanded_of_change_and (C := Tryd.checked) (X := fun w _ => laidMetH Tryd.prog Rows.fnScalesRow.laid w) (fun _ _ _ hh h => h.of_heap hh) own started (by kernel_rfl) Tryd.func3
    (ChangeSpec.witness_shaped (enc := enc) (C := Tryd.checked) (os := os) (X := fun w _ => laidMetH Tryd.prog Rows.fnScalesRow.laid w) false (World.laidAll Tryd.prog os Rows.fnScalesRow.laid) #[.slice none 0 0] 8 (World.laidAll_os _ _ _)
      (World.shaped_of_ZipB (by kernel_rfl) (by kernel_rfl)) (by kernel_rfl) (by kernel_rfl) (by kernel_rfl)
      (by rw [MakeChecks.laidMetH_plain _ _ _ (by kernel_rfl)]; exact laidMet_laidAll _ (by kernel_rfl) (by kernel_rfl))) ?_
  intro W base args ds gs before hval0 hW _ _ hL _
  rw [MakeChecks.laidMetH_plain _ _ _ (by kernel_rfl)] at hL
  have hval : ∀ (j : Nat) t v, Tryd.f3.params[j]? = some t → args[j]? = some v → Value.okWide Tryd.prog W .any base t v := hval0
  have hW' := hW
  obtain ⟨p, q, hA0, hV, hpq, hfz, hnd⟩ := hW
  have hA : DataW.TrodAll enc Tryd.prog W 0 (fun _ => true) true Tryd.f3.params.toList args.toList ds p := hA0
  have hT := hA
  obtain ⟨g1, rfl⟩ := vars_one hV
  rw [Tryd.params3] at hA hval
  obtain ⟨v0, vs0, d0, ds0, p0, q0, hargs, rfl, rfl, h0, r0⟩ := trodAll_cons hA
  obtain ⟨rfl, rfl, rfl⟩ := trodAll_nil r0
  obtain rfl : args = #[v0] := by cases args; simp_all
  obtain ⟨A0, n0, c0, rfl, -, hB0⟩ := open_code Tryd.underlying22 Tryd.underlying5 (by kernel_rfl) (hval 0 22 v0 rfl rfl) h0
  clear hA0 hval0
  refine (walk W hL A0 n0 c0 hB0).mono fun e W' ⟨he, hb⟩ => ?_
  subst he
  exact ⟨_, rfl, law_postv laidOut hW' hT hpq (by kernel_rfl) (by kernel_rfl) hV rfl rfl rfl rfl Tryd.underlying4 hb⟩

theorem over : Rows.fnScalesRow.holds Tryd.pinned (OpenSpec.ofChange Rows.fnScalesSpec) :=
  OpenClaim.holds_of_wide 3 Tryd.f3 rfl rfl rfl rfl rfl rfl rfl ⟨rfl, rfl, rfl, rfl, rfl⟩ rfl rfl rfl rfl rfl (by kernel_rfl) Tryd.func3 (by kernel_rfl)
    (of_decide_eq_true (by kernel_rfl)) (by unfold Func.isWrapper; first | (rw [if_pos (by decide +kernel)]; kernel_rfl) | (rw [if_neg (by decide +kernel)]; exact ⟨rfl, rfl⟩))
    (fun os started H enc _ => lifted os started H enc)

theorem proved : Rows.FnScalesCardSaid :=
  Claim7.holds_tied_plain_at .later [] Rows.fnScalesCard.laidKinds true Rows.fnScalesCard.stood.harness Rows.fnScalesCard.stood.looks
    over (fun _ h => by cases h) (by kernel_rfl) (fun _ h => by cases h) fnScales_row_tie rfl ⟨rfl, rfl⟩ (by kernel_rfl) rfl
    (fun f fn hf hfn => by
      obtain rfl : f = 3 := Option.some.inj ((show Tryd.prog.funcNamed Rows.fnScalesRow.func = some 3 by kernel_rfl).symm.trans hf) |>.symm
      obtain rfl : fn = Tryd.f3 := (Option.some.inj (Tryd.func3.symm.trans hfn)).symm
      exact ⟨by kernel_rfl, fun j t ht => by
        rw [Tryd.params3] at ht
        have hm : t ∈ [22] := by simpa using Array.mem_of_getElem? ht
        have hall : ([22].all fun u => !Tryd.prog.wantsStandIn u) = true := by kernel_rfl
        exact (show Tryd.prog.wantsStandIn t = false by simpa using List.all_eq_true.1 hall t hm)⟩)
    (by kernel_rfl)
end Go.Proofs.YtjfcgkfgpemheaaDoor.fnScales
