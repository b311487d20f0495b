/- For every code of bytes the readings of the drawn point and of the place of a rolled figure are as the law FnReadings says, and it returns true. No condition beyond the table as the program's text lays it. -/
import Derived.Test.YtgadkpkpdpphbaaDoorC06i
import Derived.Test.YtgadkpkpdpphbaaDoorC04g
import Derived.Test.YtgadkpkpdpphbaaDoorD14
import Derived.Test.YtgadkpkpdpphbaaDoorD16
import Derived.Test.YtgadkpkpdpphbaaDoorSe
import Derived.Test.YtgadkpkpdpphbaaDoorHs
import Derived.Test.YtgadkpkpdpphbaaDoorBig
import Derived.Test.YtgadkpkpdpphbaaDoorMB
import Derived.Test.YtgadkpkpdpphbaaDoorMm
import Derived.Test.YtgadkpkpdpphbaaDoorDr
import Derived.Test.YtgadkpkpdpphbaaDoorTie
import Derived.Test.YtgadkpkpdpphbaaDoorCards
import Derived.Test.YtgadkpkpdpphbaaDoorFr
import Derived.Test.YtgadkpkpdpphbaaDoorFv
import Derived.Test.YtgadkpkpdpphbaaDoorRows
import Derived.WalkKit
import Derived.ProofKit
import Derived.OpenShut
namespace Go.Proofs.YtgadkpkpdpphbaaDoor.fnReadings
open Go.ChangeShapes Go.WideShapes Go.ChangeAt Go.RowKit
set_option linter.unusedVariables false
set_option linter.unusedSimpArgs false

theorem own : ownKnob Tryd.prog.godebug = none := by kernel_rfl

theorem dcsl {w : World} (hL : laidMet Tryd.prog Rows.fnReadingsRow.laid w) : Dcs w := by
  have h := hL.filter (fun x => x.1 == "loop.example/g00951/impl.scaleDecades")
  have e : Rows.fnReadingsRow.laid.filter (fun x => x.1 == "loop.example/g00951/impl.scaleDecades") = [("loop.example/g00951/impl.scaleDecades", Lib.tabData .i64 [1, 2, 3, 1, 1, 1])] := by rfl
  rw [e] at h
  exact dcs_of (Lib.tabIs_of_head (g := 0) (by kernel_rfl) (by kernel_rfl) Tryd.underlying70 Tryd.underlying2 (by kernel_rfl) (by kernel_rfl) h)

attribute [local go_sem high] guard_fig neq_fig eql_fig guard_itv neq_itv run_imin run_imax
theorem imx_max (l x : Int) : imax 0 (imin l x) = max 0 (min l x) := by
  unfold imax imin
  split <;> split <;> omega
set_option maxHeartbeats 8000000 in
set_option maxRecDepth 100000 in
/-- The walk of a code that is not too long. -/
theorem walk1 (w : World) (hD : Dcs w) (A0 : Option Addr) (n0 c0 : Nat) (hB0 : Bytes w w.heap.size A0 n0) (hbig : ¬ 4096 < n0) :
    Calls Tryd.prog 3 #[.slice A0 n0 c0] w (LawDone w) := by
  have HD := Lib.hid hD
  clear hD
  have hd : decide ((4096 : Int) < n0) = false := by simp; omega
  go_enter Tryd.func3, Tryd.ntmps3
  go_wp2_with fail
  refine (big_any A0 n0 c0 w).mono ?_
  rw [hd]
  rintro e w1 ⟨rfl, rfl⟩
  clear hd
  go_wp2_with fail
  refine (drawFirst_any A0 n0 c0 w (by omega) hB0).mono ?_
  rintro e w1 ⟨s, l, p, k, rfl, -, -, -, -, hb⟩
  have G1 := (Gr.of_below hb)
  have L1 := (show Hass w1 [] from trivial)
  clear hb
  go_wp2_with fail
  refine (frR_impl s l p k _ (HD.out.gr G1)).mono ?_
  rintro e w2 ⟨rfl, hg⟩
  have G2 := ((G1.trans hg).alloc (.cells #[.int .i64 ((frR s l p k).1.1), .int .i64 ((frR s l p k).1.2)] 27))
  have L2 := ((L1.gr hg).new' [.int .i64 ((frR s l p k).1.1), .int .i64 ((frR s l p k).1.2)] 27 (w2.heap.size) (by simp))
  clear L1 G1 hg
  go_wp2_with fail
  refine (frR_spec s l p k _).mono ?_
  rintro e w3 ⟨rfl, hg⟩
  have G3 := ((G2.trans hg).alloc (.cells #[.int .i64 ((frR s l p k).1.1), .int .i64 ((frR s l p k).1.2)] 27))
  have L3 := ((L2.gr hg).new' [.int .i64 ((frR s l p k).1.1), .int .i64 ((frR s l p k).1.2)] 27 (w3.heap.size) (by simp))
  clear L2 G2 hg
  go_wp2_with fail
  refine (lrR_impl s l p k _ (HD.out.gr G3)).mono ?_
  rintro e w4 ⟨rfl, hg⟩
  have G4 := ((G3.trans hg).alloc (.cells #[.int .i64 ((lrR s l p k).1.1), .int .i64 ((lrR s l p k).1.2)] 27))
  have L4 := ((L3.gr hg).new' [.int .i64 ((lrR s l p k).1.1), .int .i64 ((lrR s l p k).1.2)] 27 (w4.heap.size) (by simp))
  clear L3 G3 hg
  go_wp2_with fail
  refine (lrR_spec s l p k _).mono ?_
  rintro e w5 ⟨rfl, hg⟩
  have G5 := ((G4.trans hg).alloc (.cells #[.int .i64 ((lrR s l p k).1.1), .int .i64 ((lrR s l p k).1.2)] 27))
  have L5 := ((L4.gr hg).new' [.int .i64 ((lrR s l p k).1.1), .int .i64 ((lrR s l p k).1.2)] 27 (w5.heap.size) (by simp))
  clear L4 G4 hg
  go_wp2_with fail
  refine (crR_impl s l p k _ (HD.out.gr G5)).mono ?_
  rintro e w6 ⟨rfl, hg⟩
  have G6 := (G5.trans hg)
  have L6 := (L5.gr hg)
  clear L5 G5 hg
  go_wp2_with fail
  refine (crR_spec s l p k _).mono ?_
  rintro e w7 ⟨rfl, hg⟩
  have G7 := (G6.trans hg)
  have L7 := (L6.gr hg)
  clear L6 G6 hg
  have HP := Lib.hid (rd_parts s l p k)
  generalize (frR s l p k).1.1 = a1 at *
  generalize (frR s l p k).1.2 = a2 at *
  generalize (frR s l p k).2 = ca at *
  generalize (lrR s l p k).1.1 = b1 at *
  generalize (lrR s l p k).1.2 = b2 at *
  generalize (lrR s l p k).2 = cb at *
  generalize (crR s l p k).1 = n at *
  generalize (crR s l p k).2 = cn at *
  have F := L7
  obtain ⟨⟨l0, z0⟩, ⟨l1, z1⟩, ⟨l2, z2⟩, ⟨l3, z3⟩, -⟩ := F
  rcases HP.out with ⟨hok, rfl, rfl, rfl⟩ | ⟨hok, rfl, rfl, rfl, rfl⟩ | ⟨hok, rfl, rfl, rfl, hn, hbt⟩
  · clear HP
    go_wp2_with fail
    go_ret
    exact ⟨rfl, G7.below⟩
  · clear HP
    obtain ⟨hs, hl, -, hk⟩ := (ok6_iff _ _ _ _).1 hok
    have hl2 := (ln_iff l).1 hl
    have HDe := Lib.hid (fun W hW => deR_impl s W hW)
    rw [deR_ok s hs] at HDe
    obtain ⟨dd1, dd2⟩ := dec_bd s
    have BT := Lib.hid (fun (W : World) => trivial)
    go_wp2_with fail
    refine (HDe.out _ (HD.out.gr G7)).mono ?_
    rintro e w8 ⟨rfl, rfl⟩
    go_wp2_with fail
    refine (roll_any A0 n0 c0 601 _ (by omega) (hB0.later G7.below)).mono ?_
    rintro e w9 ⟨b, rfl, hb, D9, hb9⟩
    go_wp2_with fail
    refine (below_any A0 n0 c0 b 900 _ (by omega) (by omega) D9).mono ?_
    rintro e wa ⟨x, rfl, x0, x1, Da, hda⟩
    have hba := hb9.trans (hda.below hb hb9.size)
    clear hda D9 hb9
    go_wp2_with fail
    refine (below_any A0 n0 c0 b (dec s) _ dd1 (by omega) Da).mono ?_
    rintro e wb ⟨y, rfl, y0, y1, -, hdb⟩
    have hbb := hba.trans (hdb.below hb hba.size)
    clear hdb hba Da
    obtain ⟨x, rfl⟩ := Int.eq_ofNat_of_zero_le x0
    obtain ⟨y, rfl⟩ := Int.eq_ofNat_of_zero_le y0
    have hx : x < 900 := by omega
    obtain ⟨o1, o2, o3, o4, o5, o6⟩ := own_reading s l k x y hs hl hk hx y1
    obtain ⟨q1, q2⟩ := own_bd s l k x y hs hl hx y1
    
    have HPl := Lib.hid (fun W hW => plR_impl s (1000 + 10 * (x : Int)) y l W hW)
    rw [o2] at HPl
    have HM := Lib.hid (fun W hW => mbR_impl s (1000 + 10 * (x : Int)) y l (max 0 (min l (pl s (1000 + 10 * x) y l).1)) k W hW)
    rw [o3] at HM
    have HCn := Lib.hid (fun W hW => crR_impl s l (max 0 (min l (pl s (1000 + 10 * x) y l).1)) k W hW)
    rw [o4] at HCn
    generalize may s (1000 + 10 * (x : Int)) y l (max 0 (min l (pl s (1000 + 10 * x) y l).1)) k = ok at *
    generalize cntN s l (max 0 (min l (pl s (1000 + 10 * x) y l).1)) k = own at *
    generalize pl s (1000 + 10 * (x : Int)) y l = pp at *
    obtain ⟨p1, p2⟩ := pp
    simp only at HPl HM HCn o5 o6 q1 q2
    obtain ⟨aa, haa⟩ : ∃ aa, max 0 (min l p1) = aa := ⟨_, rfl⟩
    rw [haa] at HM HCn o6
    have HAA := Lib.hid haa
    have O5 := Lib.hid o5
    have O6 := Lib.hid o6
    clear haa o1 o2 o3 o4 o5 o6 x0 x1 y0 y1 HDe dd1 dd2 hok hs
    have Gb := (G7.trans (Gr.of_below hbb)).alloc (.cells #[.int .i64 (1000 + 10 * (x : Int)), .int .i64 y] 27)
    have Lb := (L7.below hbb).new [.int .i64 (1000 + 10 * (x : Int)), .int .i64 y] 27
    clear hbb hb l0 z0 l1 z1 l2 z2 l3 z3
    have F := Lb
    obtain ⟨⟨l0, z0⟩, -⟩ := F
    go_wp2_with fail
    clear l0 z0
    refine (HPl.out _ (HD.out.gr Gb)).mono ?_
    rintro e wc ⟨rfl, hg⟩
    have Gc := (Gb.trans hg).alloc (.cells #[.int .i64 p1, .int .i64 p2] 38)
    have Lc := (Lb.gr hg).new [.int .i64 p1, .int .i64 p2] 38
    clear Lb Gb hg
    have F := Lc
    obtain ⟨⟨l0, z0⟩, ⟨l1, z1⟩, -⟩ := F
    go_wp2_with fail
    rw [HAA.out]
    refine (HM.out _ (HD.out.gr Gc)).mono ?_
    rintro e wd ⟨rfl, hg⟩
    have Gd := Gc.trans hg
    have Ld := Lc.gr hg
    clear Lc Gc hg l0 z0 l1 z1
    go_wp2_with fail
    refine (HCn.out _ (HD.out.gr Gd)).mono ?_
    rintro e we ⟨rfl, hg⟩
    have Ge := Gd.trans hg
    have Le := Ld.gr hg
    clear Ld Gd hg
    have F := Le
    obtain ⟨⟨l0, z0⟩, -, -, ⟨l3, z3⟩, -, ⟨l5, z5⟩, -⟩ := F
    cases ok
    · have hne : (aa != p1) = true := by
        have := O6.out
        by_cases h : aa = p1
        · have := this h; cases this
        · simp [h]
      clear O5 O6
      go_wp2_with fail
      go_ret
      exact ⟨rfl, Ge.below⟩
    · have ho := O5.out rfl
      clear O5 O6
      go_wp2_with fail
      go_ret
      exact ⟨rfl, Ge.below⟩
  · clear HP
    obtain ⟨hs, hl, -, hk⟩ := (ok6_iff _ _ _ _).1 hok
    have hl2 := (ln_iff l).1 hl
    have HDe := Lib.hid (fun W hW => deR_impl s W hW)
    rw [deR_ok s hs] at HDe
    obtain ⟨dd1, dd2⟩ := dec_bd s
    have BT := Lib.hid (fun W => between_any a1 a2 a1 a2 b1 b2 W hbt)
    go_wp2_with fail
    refine (HDe.out _ (HD.out.gr G7)).mono ?_
    rintro e w8 ⟨rfl, rfl⟩
    go_wp2_with fail
    refine (roll_any A0 n0 c0 601 _ (by omega) (hB0.later G7.below)).mono ?_
    rintro e w9 ⟨b, rfl, hb, D9, hb9⟩
    go_wp2_with fail
    refine (below_any A0 n0 c0 b 900 _ (by omega) (by omega) D9).mono ?_
    rintro e wa ⟨x, rfl, x0, x1, Da, hda⟩
    have hba := hb9.trans (hda.below hb hb9.size)
    clear hda D9 hb9
    go_wp2_with fail
    refine (below_any A0 n0 c0 b (dec s) _ dd1 (by omega) Da).mono ?_
    rintro e wb ⟨y, rfl, y0, y1, -, hdb⟩
    have hbb := hba.trans (hdb.below hb hba.size)
    clear hdb hba Da
    obtain ⟨x, rfl⟩ := Int.eq_ofNat_of_zero_le x0
    obtain ⟨y, rfl⟩ := Int.eq_ofNat_of_zero_le y0
    have hx : x < 900 := by omega
    obtain ⟨o1, o2, o3, o4, o5, o6⟩ := own_reading s l k x y hs hl hk hx y1
    obtain ⟨q1, q2⟩ := own_bd s l k x y hs hl hx y1
    
    have HPl := Lib.hid (fun W hW => plR_impl s (1000 + 10 * (x : Int)) y l W hW)
    rw [o2] at HPl
    have HM := Lib.hid (fun W hW => mbR_impl s (1000 + 10 * (x : Int)) y l (max 0 (min l (pl s (1000 + 10 * x) y l).1)) k W hW)
    rw [o3] at HM
    have HCn := Lib.hid (fun W hW => crR_impl s l (max 0 (min l (pl s (1000 + 10 * x) y l).1)) k W hW)
    rw [o4] at HCn
    generalize may s (1000 + 10 * (x : Int)) y l (max 0 (min l (pl s (1000 + 10 * x) y l).1)) k = ok at *
    generalize cntN s l (max 0 (min l (pl s (1000 + 10 * x) y l).1)) k = own at *
    generalize pl s (1000 + 10 * (x : Int)) y l = pp at *
    obtain ⟨p1, p2⟩ := pp
    simp only at HPl HM HCn o5 o6 q1 q2
    obtain ⟨aa, haa⟩ : ∃ aa, max 0 (min l p1) = aa := ⟨_, rfl⟩
    rw [haa] at HM HCn o6
    have HAA := Lib.hid haa
    have O5 := Lib.hid o5
    have O6 := Lib.hid o6
    clear haa o1 o2 o3 o4 o5 o6 x0 x1 y0 y1 HDe dd1 dd2 hok hs
    have Gb := (G7.trans (Gr.of_below hbb)).alloc (.cells #[.int .i64 (1000 + 10 * (x : Int)), .int .i64 y] 27)
    have Lb := (L7.below hbb).new [.int .i64 (1000 + 10 * (x : Int)), .int .i64 y] 27
    clear hbb hb l0 z0 l1 z1 l2 z2 l3 z3
    have F := Lb
    obtain ⟨⟨l0, z0⟩, -⟩ := F
    go_wp2_with fail
    clear l0 z0
    refine (HPl.out _ (HD.out.gr Gb)).mono ?_
    rintro e wc ⟨rfl, hg⟩
    have Gc := (Gb.trans hg).alloc (.cells #[.int .i64 p1, .int .i64 p2] 38)
    have Lc := (Lb.gr hg).new [.int .i64 p1, .int .i64 p2] 38
    clear Lb Gb hg
    have F := Lc
    obtain ⟨⟨l0, z0⟩, ⟨l1, z1⟩, -⟩ := F
    go_wp2_with fail
    rw [HAA.out]
    refine (HM.out _ (HD.out.gr Gc)).mono ?_
    rintro e wd ⟨rfl, hg⟩
    have Gd := Gc.trans hg
    have Ld := Lc.gr hg
    clear Lc Gc hg l0 z0 l1 z1
    go_wp2_with fail
    refine (HCn.out _ (HD.out.gr Gd)).mono ?_
    rintro e we ⟨rfl, hg⟩
    have Ge := Gd.trans hg
    have Le := Ld.gr hg
    clear Ld Gd hg
    have F := Le
    obtain ⟨⟨l0, z0⟩, -, -, ⟨l3, z3⟩, -, ⟨l5, z5⟩, -⟩ := F
    cases ok
    · have hne : (aa != p1) = true := by
        have := O6.out
        by_cases h : aa = p1
        · have := this h; cases this
        · simp [h]
      clear O5 O6
      go_wp2_with (first | (go_at_call 25; refine (BT.out _).mono ?_; rintro e w' ⟨rfl, kz, oz, rfl⟩))
      go_ret
      exact ⟨rfl, (Ge.gr kz oz).below⟩
    · have ho := O5.out rfl
      clear O5 O6
      go_wp2_with (first | (go_at_call 25; refine (BT.out _).mono ?_; rintro e w' ⟨rfl, kz, oz, rfl⟩))
      go_ret
      exact ⟨rfl, (Ge.gr kz oz).below⟩

set_option maxHeartbeats 4000000 in
set_option maxRecDepth 100000 in
theorem walk (w : World) (hL : laidMet Tryd.prog Rows.fnReadingsRow.laid w) (A0 : Option Addr) (n0 c0 : Nat) (hB0 : Bytes w w.heap.size A0 n0) :
    Calls Tryd.prog 3 #[.slice A0 n0 c0] w (LawDone w) := by
  have hD := dcsl hL
  clear hL
  by_cases hbig : 4096 < n0
  · have hd : decide ((4096 : Int) < n0) = true := by simp; omega
    go_enter Tryd.func3, Tryd.ntmps3
    go_wp2_with fail
    refine (big_any A0 n0 c0 w).mono ?_
    rw [hd]
    rintro e w1 ⟨rfl, rfl⟩
    go_wp2_with fail
    go_ret
    exact ⟨rfl, Below.refl _ _⟩
  · exact walk1 w hD A0 n0 c0 hB0 hbig

set_option maxRecDepth 100000 in
theorem lifted (os : Os) (started : os.Started) (H : Type) (enc : TypeId × Value → H) :
    ReturnsInHanded {} Tryd.checked os 3 .any (fun w args => (Rows.fnReadingsSpec.pre enc Tryd.prog Tryd.f3 Rows.fnReadingsRow.domain false w args ∧ laidMetH Tryd.prog Rows.fnReadingsRow.laid w) ∧ sizedMet enc Tryd.prog Tryd.f3 (OpenSpec.ofChange Rows.fnReadingsSpec) false w args) (Rows.fnReadingsSpec.post enc Tryd.prog Tryd.f3 false true false false) := by
  refine returnsInHanded_of_change_and (C := Tryd.checked) (X := fun w _ => laidMetH Tryd.prog Rows.fnReadingsRow.laid w) (fun _ _ _ hh h => h.of_heap hh) own started (by kernel_rfl) Tryd.func3
    (ChangeSpec.witness_shaped (enc := enc) (C := Tryd.checked) (os := os) (X := fun w _ => laidMetH Tryd.prog Rows.fnReadingsRow.laid w) false (World.laidAll Tryd.prog os Rows.fnReadingsRow.laid) #[.slice none 0 0] 8 (World.laidAll_os _ _ _)
      (World.shaped_of_ZipB (by kernel_rfl) (by kernel_rfl)) (by kernel_rfl) (by kernel_rfl) (by kernel_rfl)
      (by rw [MakeChecks.laidMetH_plain _ _ _ (by kernel_rfl)]; exact laidMet_laidAll _ (by kernel_rfl) (by kernel_rfl))) ?_
  intro W base args ds gs before hval0 hW _ _ hL _
  rw [MakeChecks.laidMetH_plain _ _ _ (by kernel_rfl)] at hL
  have hval : ∀ (j : Nat) t v, Tryd.f3.params[j]? = some t → args[j]? = some v → Value.okWide Tryd.prog W .any base t v := hval0
  have hW' := hW
  obtain ⟨p, q, hA0, hV, hpq, hfz, hnd⟩ := hW
  have hA : DataW.TrodAll enc Tryd.prog W 0 (fun _ => true) true Tryd.f3.params.toList args.toList ds p := hA0
  have hT := hA
  obtain ⟨g1, rfl⟩ := vars_one hV
  rw [Tryd.params3] at hA hval
  obtain ⟨v0, vs0, d0, ds0, p0, q0, hargs, rfl, rfl, h0, r0⟩ := trodAll_cons hA
  obtain ⟨rfl, rfl, rfl⟩ := trodAll_nil r0
  obtain rfl : args = #[v0] := by cases args; simp_all
  obtain ⟨A0, n0, c0, rfl, -, hB0⟩ := open_code Tryd.underlying22 Tryd.underlying5 (by kernel_rfl) (hval 0 22 v0 rfl rfl) h0
  clear hA0 hval0
  refine (walk W hL A0 n0 c0 hB0).mono fun e W' ⟨he, hb⟩ => ?_
  subst he
  exact ⟨_, rfl, law_postv laidOut hW' hT hpq (by kernel_rfl) (by kernel_rfl) hV rfl rfl rfl rfl Tryd.underlying4 hb⟩

theorem over : Rows.fnReadingsRow.holds Tryd.pinned (OpenSpec.ofChange Rows.fnReadingsSpec) :=
  OpenClaim.holds_of_wide 3 Tryd.f3 rfl rfl rfl rfl rfl rfl rfl ⟨rfl, rfl, rfl, rfl, rfl⟩ rfl rfl rfl rfl rfl (by kernel_rfl) Tryd.func3 (by kernel_rfl)
    (of_decide_eq_true (by kernel_rfl)) (by unfold Func.isWrapper; first | (rw [if_pos (by decide +kernel)]; kernel_rfl) | (rw [if_neg (by decide +kernel)]; exact ⟨rfl, rfl⟩))
    (fun os started H enc _ => lifted os started H enc)

theorem proved : Rows.FnReadingsCardSaid :=
  Claim7.holds_tied_plain_at .later [] Rows.fnReadingsCard.laidKinds true Rows.fnReadingsCard.stood.harness Rows.fnReadingsCard.stood.looks
    over (fun _ h => by cases h) (by kernel_rfl) (fun _ h => by cases h) fnReadings_row_tie rfl ⟨rfl, rfl⟩ (by kernel_rfl) rfl
    (fun f fn hf hfn => by
      obtain rfl : f = 3 := Option.some.inj ((show Tryd.prog.funcNamed Rows.fnReadingsRow.func = some 3 by kernel_rfl).symm.trans hf) |>.symm
      obtain rfl : fn = Tryd.f3 := (Option.some.inj (Tryd.func3.symm.trans hfn)).symm
      exact ⟨by kernel_rfl, fun j t ht => by
        rw [Tryd.params3] at ht
        have hm : t ∈ [22] := by simpa using Array.mem_of_getElem? ht
        have hall : ([22].all fun u => !Tryd.prog.wantsStandIn u) = true := by kernel_rfl
        exact (show Tryd.prog.wantsStandIn t = false by simpa using List.all_eq_true.1 hall t hm)⟩)
    (by kernel_rfl)
end Go.Proofs.YtgadkpkpdpphbaaDoor.fnReadings
