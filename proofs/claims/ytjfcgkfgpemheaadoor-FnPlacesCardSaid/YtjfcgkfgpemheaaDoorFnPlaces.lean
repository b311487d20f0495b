/- For every code of bytes the places, the distances and the names of scales are as the law FnPlaces says, and it returns true. No condition beyond the tables as the program's text lays them. -/
import Derived.Test.YtjfcgkfgpemheaaDoorC05d
import Derived.Test.YtjfcgkfgpemheaaDoorC05e
import Derived.Test.YtjfcgkfgpemheaaDoorD13
import Derived.Test.YtjfcgkfgpemheaaDoorSe
import Derived.Test.YtjfcgkfgpemheaaDoorHs
import Derived.Test.YtjfcgkfgpemheaaDoorBig
import Derived.Test.YtjfcgkfgpemheaaDoorM18
import Derived.Test.YtjfcgkfgpemheaaDoorDr
import Derived.Test.YtjfcgkfgpemheaaDoorTie
import Derived.Test.YtjfcgkfgpemheaaDoorCards
import Derived.Test.YtjfcgkfgpemheaaDoorFr
import Derived.Test.YtjfcgkfgpemheaaDoorFv
import Derived.Test.YtjfcgkfgpemheaaDoorRows
import Derived.WalkKit
import Derived.ProofKit
import Derived.OpenShut
namespace Go.Proofs.YtjfcgkfgpemheaaDoor.fnPlaces
open Go.ChangeShapes Go.WideShapes Go.ChangeAt Go.RowKit
set_option linter.unusedVariables false
set_option linter.unusedSimpArgs false

theorem own : ownKnob Tryd.prog.godebug = none := by kernel_rfl

theorem dcsl {w : World} (hL : laidMet Tryd.prog Rows.fnPlacesRow.laid w) : Dcs w := by
  have h := hL.filter (fun x => x.1 == "loop.example/g00951/impl.scaleDecades")
  have e : Rows.fnPlacesRow.laid.filter (fun x => x.1 == "loop.example/g00951/impl.scaleDecades") = [("loop.example/g00951/impl.scaleDecades", Lib.tabData .i64 [1, 2, 3, 1, 1, 1])] := by rfl
  rw [e] at h
  exact dcs_of (Lib.tabIs_of_head (g := 0) (by kernel_rfl) (by kernel_rfl) Tryd.underlying66 Tryd.underlying2 (by kernel_rfl) (by kernel_rfl) h)

theorem nmsl {w : World} (hL : laidMet Tryd.prog Rows.fnPlacesRow.laid w) : Nms w := by
  have h := hL.filter (fun x => x.1 == "loop.example/g00951/impl.scaleNames")
  have e : Rows.fnPlacesRow.laid.filter (fun x => x.1 == "loop.example/g00951/impl.scaleNames") = [("loop.example/g00951/impl.scaleNames", strData [[67], [65], [75], [67, 73], [67, 70], [76]])] := by rfl
  rw [e] at h
  exact nms_of (strIs_of_head (g := 1) (by kernel_rfl) (by kernel_rfl) Tryd.underlying74 Tryd.underlying9 (by kernel_rfl) (by kernel_rfl) h)

attribute [local go_sem high] guard_fig neq_fig eql_fig guard_itv neq_itv
theorem nm_back (n : Int) : (snR n).2 = 2 ∨ ((snR n).2 = 0 ∧ rsR (snR n).1 = (n, 0)) := by
  rcases sc_tf n with h | h
  · right
    rw [snR_ok n h]
    refine ⟨rfl, ?_⟩
    rcases scale_cases n h with rfl | rfl | rfl | rfl | rfl | rfl <;> decide
  · left; rw [snR_no n h]
theorem db_facts (s a t b u l : Int) : (((dbR s a t b u l).2 == 0) = false) ∨ ((dbR s a t b u l).2 = 0 ∧ dbR s b u a t l = ((-(dbR s a t b u l).1.2, -(dbR s a t b u l).1.1), 0) ∧
    -1000000 ≤ (dbR s a t b u l).1.1 ∧ (dbR s a t b u l).1.1 ≤ 1000000 ∧ -1000000 ≤ (dbR s a t b u l).1.2 ∧ (dbR s a t b u l).1.2 ≤ 1000000) := by
  by_cases h : (dbR s a t b u l).2 = 0
  · right
    refine ⟨h, db_back s a t b u l h, ?_⟩
    rcases db_cases s a t b u l with ⟨e, -⟩ | ⟨e, -, -, e1, -⟩ | ⟨e, -, -, -, e2⟩ | ⟨e, f1, f2, e1, e2, hl⟩
    · rw [dbR_in _ _ _ _ _ _ e] at h; cases h
    · rw [dbR_rg _ _ _ _ _ _ e (.inl (by omega))] at h; cases h
    · rw [dbR_rg _ _ _ _ _ _ e (.inr (by omega))] at h; cases h
    · rw [dbR_ok _ _ _ _ _ _ e e1 e2]
      obtain ⟨p1, p2, p3, p4, -⟩ := pl_bd s a t l f1 hl
      obtain ⟨q1, q2, q3, q4, -⟩ := pl_bd s b u l f2 hl
      simp only
      omega
  · left; simp [h]
theorem pl_case (s d t l : Int) : (((plR s d t l).2 == 0) = false ∧ ((plR s d t l).2 != 0) = true) ∨ ((plR s d t l).2 = 0 ∧ -1 ≤ (plR s d t l).1.1 ∧ (plR s d t l).1.2 ≤ l + 1 ∧ (plR s d t l).1.1 ≤ (plR s d t l).1.2) := by
  by_cases h : (plR s d t l).2 = 0
  · right; exact ⟨h, pl_facts s d t l h⟩
  · left; simp [h]
theorem db_backI (x b v c u m d1 d2 : Int) (h : dbR x c u b v m = ((-d2, -d1), 0)) (W : World) (hW : Dcs W) :
    Calls Tryd.prog 26 #[.int .i64 x, .agg #[.int .i64 c, .int .i64 u], .agg #[.int .i64 b, .int .i64 v], .int .i64 m] W fun e w' => e = .returned (.tuple #[.agg #[.int .i64 (-d2), .int .i64 (-d1)], .int .i64 0]) ∧ Gr W w' := by
  have H := dbR_impl x c u b v m W hW
  rw [h] at H
  exact H
theorem rs_backI (T : ByteArray) (k : Int) (h : rsR T = (k, 0)) (W : World) (hW : Nms W) :
    Calls Tryd.prog 32 #[.string T] W fun e w' => e = .returned (.tuple #[.int .i64 k, .int .i64 0]) ∧ W = w' := by
  have H := rsR_impl T W hW
  rw [h] at H
  exact H
set_option maxHeartbeats 8000000 in
set_option maxRecDepth 100000 in
/-- The walk of a code that is not too long. -/
theorem walk1 (w : World) (hD : Dcs w) (hM : Nms w) (A0 : Option Addr) (n0 c0 : Nat) (hB0 : Bytes w w.heap.size A0 n0) (hbig : ¬ 4096 < n0) :
    Calls Tryd.prog 4 #[.slice A0 n0 c0] w (LawDone w) := by
  have HD := Lib.hid hD
  clear hD
  have HM := Lib.hid hM
  clear hM
  have hd : decide ((4096 : Int) < n0) = false := by simp; omega
  go_enter Tryd.func4, Tryd.ntmps4
  go_wp2_with fail
  refine (big_any A0 n0 c0 w).mono ?_
  rw [hd]
  rintro e w1 ⟨rfl, rfl⟩
  clear hd
  go_wp2_with fail
  refine (drawPlaceOf_any A0 n0 c0 w (by omega) hB0).mono ?_
  rintro e w1 ⟨s, a, t, l, rfl, -, -, ⟨hl1, hl2⟩, hb⟩
  have G1 := ((Gr.of_below hb).alloc (.cells #[.int .i64 a, .int .i64 t] 25))
  have L1 := ((show Hass w1 [] from trivial).new' [.int .i64 a, .int .i64 t] 25 (w1.heap.size) (by simp))
  clear hb
  have F := L1
  obtain ⟨⟨l0, z0⟩, -⟩ := F
  go_wp2_with fail
  clear l0 z0
  refine (plR_impl s a t l _ (HD.out.gr G1)).mono ?_
  rintro e w2 ⟨rfl, hg⟩
  have G2 := ((G1.trans hg).alloc (.cells #[.int .i64 ((plR s a t l).1.1), .int .i64 ((plR s a t l).1.2)] 29))
  have L2 := ((L1.gr hg).new' [.int .i64 ((plR s a t l).1.1), .int .i64 ((plR s a t l).1.2)] 29 (w2.heap.size) (by simp))
  clear L1 G1 hg
  have F := L2
  obtain ⟨-, ⟨l1, z1⟩, -⟩ := F
  go_wp2_with fail
  clear l1 z1
  refine (plR_spec s a t l _).mono ?_
  rintro e w3 ⟨rfl, hg⟩
  have G3 := ((G2.trans hg).alloc (.cells #[.int .i64 ((plR s a t l).1.1), .int .i64 ((plR s a t l).1.2)] 29))
  have L3 := ((L2.gr hg).new' [.int .i64 ((plR s a t l).1.1), .int .i64 ((plR s a t l).1.2)] 29 (w3.heap.size) (by simp))
  clear L2 G2 hg
  go_wp2_with fail
  refine (drawDistance_any A0 n0 c0 _ (by omega) (hB0.later G3.below)).mono ?_
  rintro e w4 ⟨x, b, v, c, u, m, rfl, -, -, -, -, hb⟩
  have G4 := (((G3.trans (Gr.of_below hb)).alloc (.cells #[.int .i64 b, .int .i64 v] 25)).alloc (.cells #[.int .i64 c, .int .i64 u] 25))
  have L4 := (((L3.below hb).new' [.int .i64 b, .int .i64 v] 25 (w4.heap.size) (by simp)).new' [.int .i64 c, .int .i64 u] 25 (w4.heap.size + 1) (by simp))
  clear L3 G3 hb
  have F := L4
  obtain ⟨⟨l0, z0⟩, ⟨l1, z1⟩, -⟩ := F
  go_wp2_with fail
  clear l0 z0 l1 z1
  refine (dbR_impl x b v c u m _ (HD.out.gr G4)).mono ?_
  rintro e w5 ⟨rfl, hg⟩
  have G5 := ((G4.trans hg).alloc (.cells #[.int .i64 ((dbR x b v c u m).1.1), .int .i64 ((dbR x b v c u m).1.2)] 29))
  have L5 := ((L4.gr hg).new' [.int .i64 ((dbR x b v c u m).1.1), .int .i64 ((dbR x b v c u m).1.2)] 29 (w5.heap.size) (by simp))
  clear L4 G4 hg
  have F := L5
  obtain ⟨-, ⟨l1, z1⟩, ⟨l2, z2⟩, -⟩ := F
  go_wp2_with fail
  clear l1 z1 l2 z2
  refine (dbR_spec x b v c u m _).mono ?_
  rintro e w6 ⟨rfl, hg⟩
  have G6 := ((G5.trans hg).alloc (.cells #[.int .i64 ((dbR x b v c u m).1.1), .int .i64 ((dbR x b v c u m).1.2)] 29))
  have L6 := ((L5.gr hg).new' [.int .i64 ((dbR x b v c u m).1.1), .int .i64 ((dbR x b v c u m).1.2)] 29 (w6.heap.size) (by simp))
  clear L5 G5 hg
  go_wp2_with fail
  refine (drawScaleName_any A0 n0 c0 _ (by omega) (hB0.later G6.below)).mono ?_
  rintro e w7 ⟨k, rfl, -, hb⟩
  have G7 := (G6.trans (Gr.of_below hb))
  have L7 := (L6.below hb)
  clear L6 G6 hb
  go_wp2_with fail
  refine (snR_impl k _ (HM.out.gr G7)).mono ?_
  rintro e w8 ⟨rfl, rfl⟩
  have G8 := G7
  have L8 := L7
  clear G7 L7
  go_wp2_with fail
  refine (snR_spec k _).mono ?_
  rintro e w9 ⟨rfl, hg⟩
  have G9 := (G8.trans hg)
  have L9 := (L8.gr hg)
  clear L8 G8 hg
  go_wp2_with fail
  refine (drawReadScale_any A0 n0 c0 _ (by omega) (hB0.later G9.below)).mono ?_
  rintro e w10 ⟨y, rfl, -, hb⟩
  have G10 := (G9.trans (Gr.of_below hb))
  have L10 := (L9.below hb)
  clear L9 G9 hb
  go_wp2_with fail
  refine (rsR_impl y _ (HM.out.gr G10)).mono ?_
  rintro e w11 ⟨rfl, rfl⟩
  have G11 := G10
  have L11 := L10
  clear G10 L10
  go_wp2_with fail
  refine (rsR_spec y _).mono ?_
  rintro e w12 ⟨rfl, hg⟩
  have G12 := (G11.trans hg)
  have L12 := (L11.gr hg)
  clear L11 G11 hg
  have HS := Lib.hid (nm_back k)
  have HT := Lib.hid (db_facts x b v c u m)
  have HP := Lib.hid (pl_case s a t l)
  generalize (snR k).1 = T at *
  generalize (snR k).2 = c3 at *
  generalize (rsR y).1 = r1 at *
  generalize (rsR y).2 = r2 at *
  generalize (dbR x b v c u m).1.1 = d1 at *
  generalize (dbR x b v c u m).1.2 = d2 at *
  generalize (dbR x b v c u m).2 = dc at *
  generalize (plR s a t l).1.1 = p1 at *
  generalize (plR s a t l).1.2 = p2 at *
  generalize (plR s a t l).2 = pc at *
  have F := L12
  obtain ⟨⟨l0, z0⟩, ⟨l1, z1⟩, ⟨l2, z2⟩, ⟨l3, z3⟩, ⟨l4, z4⟩, ⟨l5, z5⟩, ⟨l6, z6⟩, -⟩ := F
  rcases HS.out with rfl | ⟨rfl, hs⟩
  · clear HS
    rcases HT.out with hdc | ⟨rfl, hdb, g1, g2, g3, g4⟩
    · clear HT
      rcases HP.out with ⟨hp, hq⟩ | ⟨rfl, hp, hq, hr⟩
      · go_wp2_with fail
        go_ret
        exact ⟨rfl, G12.below⟩
      · go_wp2_with fail
        go_ret
        first
          | exact ⟨rfl, G12.below⟩
          | exact ⟨ret_bool (decide_eq_true hr), G12.below⟩
    · have HB := Lib.hid (db_backI x b v c u m d1 d2 hdb)
      clear HT hdb
      go_wp2_with fail
      refine (HB.out _ (HD.out.gr G12)).mono ?_
      rintro e v1 ⟨rfl, hg⟩
      have G13 := (G12.trans hg).alloc (.cells #[.int .i64 (-d2), .int .i64 (-d1)] 29)
      have L13 := (L12.gr hg).new [.int .i64 (-d2), .int .i64 (-d1)] 29
      clear G12 L12 hg
      clear l0 z0 l1 z1 l2 z2 l3 z3 l4 z4 l5 z5 l6 z6
      have F := L13
      obtain ⟨⟨l0, z0⟩, ⟨l1, z1⟩, ⟨l2, z2⟩, ⟨l3, z3⟩, ⟨l4, z4⟩, ⟨l5, z5⟩, ⟨l6, z6⟩, ⟨l7, z7⟩, -⟩ := F
      rcases HP.out with ⟨hp, hq⟩ | ⟨rfl, hp, hq, hr⟩
      · go_wp2_with fail
        go_ret
        exact ⟨rfl, G13.below⟩
      · go_wp2_with fail
        go_ret
        first
          | exact ⟨rfl, G13.below⟩
          | exact ⟨ret_bool (decide_eq_true hr), G13.below⟩
  · have HR := Lib.hid (rs_backI T k hs)
    clear HS hs
    go_wp2_with fail
    refine (HR.out _ (HM.out.gr G12)).mono ?_
    rintro e v0 ⟨rfl, rfl⟩
    rcases HT.out with hdc | ⟨rfl, hdb, g1, g2, g3, g4⟩
    · clear HT
      rcases HP.out with ⟨hp, hq⟩ | ⟨rfl, hp, hq, hr⟩
      · go_wp2_with fail
        go_ret
        exact ⟨rfl, G12.below⟩
      · go_wp2_with fail
        go_ret
        first
          | exact ⟨rfl, G12.below⟩
          | exact ⟨ret_bool (decide_eq_true hr), G12.below⟩
    · have HB := Lib.hid (db_backI x b v c u m d1 d2 hdb)
      clear HT hdb
      go_wp2_with fail
      refine (HB.out _ (HD.out.gr G12)).mono ?_
      rintro e v1 ⟨rfl, hg⟩
      have G13 := (G12.trans hg).alloc (.cells #[.int .i64 (-d2), .int .i64 (-d1)] 29)
      have L13 := (L12.gr hg).new [.int .i64 (-d2), .int .i64 (-d1)] 29
      clear G12 L12 hg
      clear l0 z0 l1 z1 l2 z2 l3 z3 l4 z4 l5 z5 l6 z6
      have F := L13
      obtain ⟨⟨l0, z0⟩, ⟨l1, z1⟩, ⟨l2, z2⟩, ⟨l3, z3⟩, ⟨l4, z4⟩, ⟨l5, z5⟩, ⟨l6, z6⟩, ⟨l7, z7⟩, -⟩ := F
      rcases HP.out with ⟨hp, hq⟩ | ⟨rfl, hp, hq, hr⟩
      · go_wp2_with fail
        go_ret
        exact ⟨rfl, G13.below⟩
      · go_wp2_with fail
        go_ret
        first
          | exact ⟨rfl, G13.below⟩
          | exact ⟨ret_bool (decide_eq_true hr), G13.below⟩

set_option maxHeartbeats 4000000 in
set_option maxRecDepth 100000 in
theorem walk (w : World) (hL : laidMet Tryd.prog Rows.fnPlacesRow.laid w) (A0 : Option Addr) (n0 c0 : Nat) (hB0 : Bytes w w.heap.size A0 n0) :
    Calls Tryd.prog 4 #[.slice A0 n0 c0] w (LawDone w) := by
  have hD := dcsl hL
  have hM := nmsl hL
  clear hL
  by_cases hbig : 4096 < n0
  · have hd : decide ((4096 : Int) < n0) = true := by simp; omega
    go_enter Tryd.func4, Tryd.ntmps4
    go_wp2_with fail
    refine (big_any A0 n0 c0 w).mono ?_
    rw [hd]
    rintro e w1 ⟨rfl, rfl⟩
    go_wp2_with fail
    go_ret
    exact ⟨rfl, Below.refl _ _⟩
  · exact walk1 w hD hM A0 n0 c0 hB0 hbig

set_option maxRecDepth 100000 in
theorem lifted (os : Os) (started : os.Started) (H : Type) (enc : TypeId × Value → H) :
    ReturnsInHanded {} Tryd.checked os 4 .any (fun w args => (Rows.fnPlacesSpec.pre enc Tryd.prog Tryd.f4 Rows.fnPlacesRow.domain false w args ∧ laidMetH Tryd.prog Rows.fnPlacesRow.laid w) ∧ sizedMet enc Tryd.prog Tryd.f4 (OpenSpec.ofChange Rows.fnPlacesSpec) false w args) (Rows.fnPlacesSpec.post enc Tryd.prog Tryd.f4 false true false false) := by
  refine returnsInHanded_of_change_and (C := Tryd.checked) (X := fun w _ => laidMetH Tryd.prog Rows.fnPlacesRow.laid w) (fun _ _ _ hh h => h.of_heap hh) own started (by kernel_rfl) Tryd.func4
    (ChangeSpec.witness_shaped (enc := enc) (C := Tryd.checked) (os := os) (X := fun w _ => laidMetH Tryd.prog Rows.fnPlacesRow.laid w) false (World.laidAll Tryd.prog os Rows.fnPlacesRow.laid) #[.slice none 0 0] 8 (World.laidAll_os _ _ _)
      (World.shaped_of_ZipB (by kernel_rfl) (by kernel_rfl)) (by kernel_rfl) (by kernel_rfl) (by kernel_rfl)
      (by rw [MakeChecks.laidMetH_plain _ _ _ (by kernel_rfl)]; exact laidMet_laidAll _ (by kernel_rfl) (by kernel_rfl))) ?_
  intro W base args ds gs before hval0 hW _ _ hL _
  rw [MakeChecks.laidMetH_plain _ _ _ (by kernel_rfl)] at hL
  have hval : ∀ (j : Nat) t v, Tryd.f4.params[j]? = some t → args[j]? = some v → Value.okWide Tryd.prog W .any base t v := hval0
  have hW' := hW
  obtain ⟨p, q, hA0, hV, hpq, hfz, hnd⟩ := hW
  have hA : DataW.TrodAll enc Tryd.prog W 0 (fun _ => true) true Tryd.f4.params.toList args.toList ds p := hA0
  have hT := hA
  obtain ⟨g1, g2, rfl⟩ := vars_two hV
  rw [Tryd.params4] at hA hval
  obtain ⟨v0, vs0, d0, ds0, p0, q0, hargs, rfl, rfl, h0, r0⟩ := trodAll_cons hA
  obtain ⟨rfl, rfl, rfl⟩ := trodAll_nil r0
  obtain rfl : args = #[v0] := by cases args; simp_all
  obtain ⟨A0, n0, c0, rfl, -, hB0⟩ := open_code Tryd.underlying22 Tryd.underlying5 (by kernel_rfl) (hval 0 22 v0 rfl rfl) h0
  clear hA0 hval0
  refine (walk W hL A0 n0 c0 hB0).mono fun e W' ⟨he, hb⟩ => ?_
  subst he
  exact ⟨_, rfl, law_postv laidOut hW' hT hpq (by kernel_rfl) (by kernel_rfl) hV rfl rfl rfl rfl Tryd.underlying4 hb⟩

theorem over : Rows.fnPlacesRow.holds Tryd.pinned (OpenSpec.ofChange Rows.fnPlacesSpec) :=
  OpenClaim.holds_of_wide 4 Tryd.f4 rfl rfl rfl rfl rfl rfl rfl ⟨rfl, rfl, rfl, rfl, rfl⟩ rfl rfl rfl rfl rfl (by kernel_rfl) Tryd.func4 (by kernel_rfl)
    (of_decide_eq_true (by kernel_rfl)) (by unfold Func.isWrapper; first | (rw [if_pos (by decide +kernel)]; kernel_rfl) | (rw [if_neg (by decide +kernel)]; exact ⟨rfl, rfl⟩))
    (fun os started H enc _ => lifted os started H enc)

theorem proved : Rows.FnPlacesCardSaid :=
  Claim7.holds_tied_plain_at .later [] Rows.fnPlacesCard.laidKinds true Rows.fnPlacesCard.stood.harness Rows.fnPlacesCard.stood.looks
    over (fun _ h => by cases h) (by kernel_rfl) (fun _ h => by cases h) fnPlaces_row_tie rfl ⟨rfl, rfl⟩ (by kernel_rfl) rfl
    (fun f fn hf hfn => by
      obtain rfl : f = 4 := Option.some.inj ((show Tryd.prog.funcNamed Rows.fnPlacesRow.func = some 4 by kernel_rfl).symm.trans hf) |>.symm
      obtain rfl : fn = Tryd.f4 := (Option.some.inj (Tryd.func4.symm.trans hfn)).symm
      exact ⟨by kernel_rfl, fun j t ht => by
        rw [Tryd.params4] at ht
        have hm : t ∈ [22] := by simpa using Array.mem_of_getElem? ht
        have hall : ([22].all fun u => !Tryd.prog.wantsStandIn u) = true := by kernel_rfl
        exact (show Tryd.prog.wantsStandIn t = false by simpa using List.all_eq_true.1 hall t hm)⟩)
    (by kernel_rfl)
end Go.Proofs.YtjfcgkfgpemheaaDoor.fnPlaces
