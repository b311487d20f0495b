/- For every code of bytes the best reading of the drawn point and a rolled figure are as the law FnBestReadings says, and it returns true. No condition beyond the table as the program's text lays it. -/
import Derived.Test.YtgadkpkpdpphbaaGreatDoorC06r
import Derived.Test.YtgadkpkpdpphbaaGreatDoorD14
import Derived.Test.YtgadkpkpdpphbaaGreatDoorD16
import Derived.Test.YtgadkpkpdpphbaaGreatDoorSe
import Derived.Test.YtgadkpkpdpphbaaGreatDoorHs
import Derived.Test.YtgadkpkpdpphbaaGreatDoorBig
import Derived.Test.YtgadkpkpdpphbaaGreatDoorMB
import Derived.Test.YtgadkpkpdpphbaaGreatDoorMm
import Derived.Test.YtgadkpkpdpphbaaGreatDoorDr
import Derived.Test.YtgadkpkpdpphbaaGreatDoorTie
import Derived.Test.YtgadkpkpdpphbaaGreatDoorCards
import Derived.Test.YtgadkpkpdpphbaaGreatDoorFr
import Derived.Test.YtgadkpkpdpphbaaGreatDoorFv
import Derived.Test.YtgadkpkpdpphbaaGreatDoorRows
import Derived.WalkKit
import Derived.ProofKit
import Derived.OpenShut
namespace Go.Proofs.YtgadkpkpdpphbaaGreatDoor.fnBestReadings
open Go.ChangeShapes Go.WideShapes Go.ChangeAt Go.RowKit
set_option linter.unusedVariables false
set_option linter.unusedSimpArgs false

theorem own : ownKnob Tryz.prog.godebug = none := by kernel_rfl

theorem dcsl {w : World} (hL : laidMet Tryz.prog Rows.fnBestReadingsRow.laid w) : Dcs w := by
  have h := hL.filter (fun x => x.1 == "loop.example/g00951/impl.scaleDecades")
  have e : Rows.fnBestReadingsRow.laid.filter (fun x => x.1 == "loop.example/g00951/impl.scaleDecades") = [("loop.example/g00951/impl.scaleDecades", Lib.tabData .i64 [1, 2, 3, 1, 1, 1])] := by rfl
  rw [e] at h
  exact dcs_of (Lib.tabIs_of_head (g := 0) (by kernel_rfl) (by kernel_rfl) Tryz.underlying78 Tryz.underlying2 (by kernel_rfl) (by kernel_rfl) h)

attribute [local go_sem high] guard_fig neq_fig eql_fig guard_itv neq_itv run_imin run_imax
theorem imax_max (x y : Int) : imax x y = max x y := by
  unfold imax
  split <;> omega
theorem br_case (s l p : Int) : (ok6 s l p 0 = true ∧ (brR s l p).2 = 0) ∨ (((brR s l p).2 == 0) = false ∧ ((brR s l p).2 != 0) = true) := by
  rcases ok6_tf s l p 0 with h | h
  · left; rw [brR_ok s l p h]; exact ⟨h, rfl⟩
  · right; rw [brR_rg s l p h]; exact ⟨rfl, rfl⟩
theorem best_bd (s l p : Int) (h : ok6 s l p 0 = true) : fg (brR s l p).1.1 (brR s l p).1.2 = true ∧ ¬ (s = 5 ∧ (brR s l p).1.2 ≠ 0) := by
  obtain ⟨k, hk, e, -⟩ := bstN_spec s l p
  have hk2 := figs_bd s
  rw [brR_ok s l p h, e]
  have ht := at_tens s k hk
  exact ⟨at_fg k (by omega), dec_5 s _ ht.1 ht.2⟩
set_option maxHeartbeats 8000000 in
set_option maxRecDepth 100000 in
/-- The walk of a code that is not too long. -/
theorem walk1 (w : World) (hD : Dcs w) (A0 : Option Addr) (n0 c0 : Nat) (hB0 : Bytes w w.heap.size A0 n0) (hbig : ¬ 4096 < n0) :
    Calls Tryz.prog 3 #[.slice A0 n0 c0] w (LawDone w) := by
  have HD := Lib.hid hD
  clear hD
  have hd : decide ((4096 : Int) < n0) = false := by simp; omega
  go_enter Tryz.func3, Tryz.ntmps3
  go_wp2_with fail
  refine (big_any A0 n0 c0 w).mono ?_
  rw [hd]
  rintro e w1 ⟨rfl, rfl⟩
  clear hd
  go_wp2_with fail
  refine (drawBest_any A0 n0 c0 w (by omega) hB0).mono ?_
  rintro e w1 ⟨s, l, p, rfl, -, -, -, hb⟩
  have G1 := (Gr.of_below hb)
  have L1 := (show Hass w1 [] from trivial)
  clear hb
  go_wp2_with fail
  refine (brR_impl s l p _ (HD.out.gr G1)).mono ?_
  rintro e w2 ⟨rfl, hg⟩
  have G2 := ((G1.trans hg).alloc (.cells #[.int .i64 ((brR s l p).1.1), .int .i64 ((brR s l p).1.2)] 27))
  have L2 := ((L1.gr hg).new' [.int .i64 ((brR s l p).1.1), .int .i64 ((brR s l p).1.2)] 27 (w2.heap.size) (by simp))
  clear L1 G1 hg
  go_wp2_with fail
  refine (brR_spec s l p _).mono ?_
  rintro e w3 ⟨rfl, hg⟩
  have G3 := ((G2.trans hg).alloc (.cells #[.int .i64 ((brR s l p).1.1), .int .i64 ((brR s l p).1.2)] 27))
  have L3 := ((L2.gr hg).new' [.int .i64 ((brR s l p).1.1), .int .i64 ((brR s l p).1.2)] 27 (w3.heap.size) (by simp))
  clear L2 G2 hg
  go_wp2_with fail
  refine (drawMayBe_any A0 n0 c0 _ (by omega) (hB0.later G3.below)).mono ?_
  rintro e w4 ⟨x, g, t, m, a', e', rfl, -, -, -, -, -, hb⟩
  have G4 := ((G3.trans (Gr.of_below hb)).alloc (.cells #[.int .i64 g, .int .i64 t] 27))
  have L4 := ((L3.below hb).new' [.int .i64 g, .int .i64 t] 27 (w4.heap.size) (by simp))
  clear L3 G3 hb
  have F := L4
  obtain ⟨⟨l0, z0⟩, -⟩ := F
  go_wp2_with fail
  clear l0 z0
  refine (mbR_impl x g t m a' e' _ (HD.out.gr G4)).mono ?_
  rintro e w5 ⟨rfl, hg⟩
  have G5 := (G4.trans hg)
  have L5 := (L4.gr hg)
  clear L4 G4 hg
  have F := L5
  obtain ⟨⟨l0, z0⟩, -⟩ := F
  go_wp2_with fail
  clear l0 z0
  refine (mbR_spec x g t m a' e' _).mono ?_
  rintro e w6 ⟨rfl, hg⟩
  have G6 := (G5.trans hg)
  have L6 := (L5.gr hg)
  clear L5 G5 hg
  go_wp2_with fail
  refine (drawReadError_any A0 n0 c0 _ (by omega) (hB0.later G6.below)).mono ?_
  rintro e w7 ⟨r1, r2, r3, r4, rfl, -, -, -, -, hb⟩
  have G7 := (G6.trans (Gr.of_below hb))
  have L7 := (L6.below hb)
  clear L6 G6 hb
  go_wp2_with fail
  refine (rrR_impl r1 r2 r3 r4 _ (HD.out.gr G7)).mono ?_
  rintro e w8 ⟨rfl, hg⟩
  have G8 := (G7.trans hg)
  have L8 := (L7.gr hg)
  clear L7 G7 hg
  go_wp2_with fail
  refine (rrR_spec r1 r2 r3 r4 _).mono ?_
  rintro e w9 ⟨rfl, hg⟩
  have G9 := (G8.trans hg)
  have L9 := (L8.gr hg)
  clear L8 G8 hg
  have HP := Lib.hid (br_case s l p)
  have HB := Lib.hid (best_bd s l p)
  have HN := Lib.hid (best_near s l p)
  generalize (mbR x g t m a' e').1 = ok at *
  generalize (mbR x g t m a' e').2 = co at *
  generalize (rrR r1 r2 r3 r4).1 = n at *
  generalize (rrR r1 r2 r3 r4).2 = cn at *
  generalize hbr : brR s l p = R at *
  obtain ⟨⟨f1, f2⟩, cf⟩ := R
  simp only at *
  have F := L9
  obtain ⟨⟨l0, z0⟩, ⟨l1, z1⟩, ⟨l2, z2⟩, -⟩ := F
  rcases HP.out with ⟨hok, rfl⟩ | ⟨h1, h2⟩
  rotate_left
  · clear HP HB HN hbr
    go_wp2_with fail
    go_ret
    exact ⟨rfl, G9.below⟩
  · obtain ⟨hs, hl, ⟨hp1, hp2⟩, -⟩ := (ok6_iff _ _ _ _).1 hok
    have hl2 := (ln_iff l).1 hl
    obtain ⟨b1, b2⟩ := HB.out hok
    have hnear := fun (x y : Nat) hx hy => HN.out x y hok hx hy
    have HDe := Lib.hid (fun W hW => deR_impl s W hW)
    rw [deR_ok s hs] at HDe
    obtain ⟨dd1, dd2⟩ := dec_bd s
    obtain ⟨P1, P2, P3, P4, -⟩ := pl_bd s f1 f2 l b1 hl
    have HPl := Lib.hid (fun W hW => plR_impl s f1 f2 l W hW)
    rw [pl_ok s f1 f2 l b1 hs b2 hl] at HPl
    have HZ := Lib.hid hnear
    clear HP HB HN hbr hnear b1 b2
    go_wp2_with fail
    refine (HPl.out _ (HD.out.gr G9)).mono ?_
    rintro e wa ⟨rfl, hg⟩
    have Ga := (G9.trans hg).alloc (.cells #[.int .i64 (pl s f1 f2 l).1, .int .i64 (pl s f1 f2 l).2] 39)
    have La := (L9.gr hg).new [.int .i64 (pl s f1 f2 l).1, .int .i64 (pl s f1 f2 l).2] 39
    clear L9 G9 hg l0 z0 l1 z1 l2 z2
    go_wp2_with fail
    refine (HDe.out _ (HD.out.gr Ga)).mono ?_
    rintro e wa' ⟨rfl, rfl⟩
    go_wp2_with fail
    refine (roll_any A0 n0 c0 602 _ (by omega) (hB0.later Ga.below)).mono ?_
    rintro e wb ⟨b, rfl, hb, D9, hb9⟩
    go_wp2_with fail
    refine (below_any A0 n0 c0 b 900 _ (by omega) (by omega) D9).mono ?_
    rintro e wc ⟨u, rfl, u0, u1, Da, hda⟩
    have hba := hb9.trans (hda.below hb hb9.size)
    clear hda D9 hb9
    go_wp2_with fail
    refine (below_any A0 n0 c0 b (dec s) _ dd1 (by omega) Da).mono ?_
    rintro e wd ⟨v, rfl, v0, v1, -, hdb⟩
    have hbb := hba.trans (hdb.below hb hba.size)
    clear hdb hba Da
    obtain ⟨u, rfl⟩ := Int.eq_ofNat_of_zero_le u0
    obtain ⟨v, rfl⟩ := Int.eq_ofNat_of_zero_le v0
    have hu : u < 900 := by omega
    obtain ⟨d', t', e0, o1, o2, o3⟩ := HZ.out u v hu v1
    obtain ⟨hd', ht'⟩ := Prod.mk.inj (Prod.mk.inj e0).1
    rw [← hd', ← ht'] at o3
    clear hd' ht'
    obtain ⟨q1, q2⟩ := own_bd s l 0 u v hs hl hu v1
    have q34 := own_bd2 s l u v hs hl hu v1
    have HQl := Lib.hid (fun W hW => plR_impl s (1000 + 10 * (u : Int)) v l W hW)
    rw [o2] at HQl
    have Gd := Ga.trans (Gr.of_below hbb)
    have Ld := La.below hbb
    clear La Ga hbb hb HZ e0 o1 o2
    go_wp2_with fail
    refine (HQl.out _ (HD.out.gr Gd)).mono ?_
    generalize pl s (1000 + 10 * (u : Int)) v l = Q at *
    generalize pl s f1 f2 l = P at *
    obtain ⟨Q1, Q2⟩ := Q
    obtain ⟨P1', P2'⟩ := P
    simp only at o3 q1 q2 q34 P1 P2 P3 P4 Ld
    obtain ⟨q3, q4⟩ := q34
    rintro e we ⟨rfl, hg⟩
    have Ge := (Gd.trans hg).alloc (.cells #[.int .i64 Q1, .int .i64 Q2] 39)
    have Le := (Ld.gr hg).new [.int .i64 Q1, .int .i64 Q2] 39
    clear Ld Gd hg HQl HPl HDe dd1 dd2 u0 u1 v0 v1
    have F := Le
    obtain ⟨⟨l0, z0⟩, ⟨l1, z1⟩, -⟩ := F
    have O3 := Lib.hid o3
    clear o3
    have e1 : IntKind.i64.wrap (P1' + P2') = P1' + P2' := IntWalk.i64_in _ (by omega)
    have e2 : IntKind.i64.wrap (2 * p) = 2 * p := IntWalk.i64_in _ (by omega)
    have e3 : IntKind.i64.wrap (P1' + P2' - 2 * p) = P1' + P2' - 2 * p := IntWalk.i64_in _ (by omega)
    have e4 : IntKind.i64.wrap (Q1 + Q2) = Q1 + Q2 := IntWalk.i64_in _ (by omega)
    have e5 : IntKind.i64.wrap (Q1 + Q2 - 2 * p) = Q1 + Q2 - 2 * p := IntWalk.i64_in _ (by omega)
    go_wp2_with fail
    go_quiet (fail)
    clear e1 e2 e3 e4 e5
    go_wp2_with fail
    go_ret
    refine ⟨ret_bool ?_, (Ge.drewN _).below⟩
    have := O3.out
    (try simp only [imax_max])
    exact decide_eq_true this

set_option maxHeartbeats 4000000 in
set_option maxRecDepth 100000 in
theorem walk (w : World) (hL : laidMet Tryz.prog Rows.fnBestReadingsRow.laid w) (A0 : Option Addr) (n0 c0 : Nat) (hB0 : Bytes w w.heap.size A0 n0) :
    Calls Tryz.prog 3 #[.slice A0 n0 c0] w (LawDone w) := by
  have hD := dcsl hL
  clear hL
  by_cases hbig : 4096 < n0
  · have hd : decide ((4096 : Int) < n0) = true := by simp; omega
    go_enter Tryz.func3, Tryz.ntmps3
    go_wp2_with fail
    refine (big_any A0 n0 c0 w).mono ?_
    rw [hd]
    rintro e w1 ⟨rfl, rfl⟩
    go_wp2_with fail
    go_ret
    exact ⟨rfl, Below.refl _ _⟩
  · exact walk1 w hD A0 n0 c0 hB0 hbig

set_option maxRecDepth 100000 in
theorem lifted (os : Os) (started : os.Started) (H : Type) (enc : TypeId × Value → H) :
    ReturnsInHanded {} Tryz.checked os 3 .any (fun w args => (Rows.fnBestReadingsSpec.pre enc Tryz.prog Tryz.f3 Rows.fnBestReadingsRow.domain false w args ∧ laidMetH Tryz.prog Rows.fnBestReadingsRow.laid w) ∧ sizedMet enc Tryz.prog Tryz.f3 (OpenSpec.ofChange Rows.fnBestReadingsSpec) false w args) (Rows.fnBestReadingsSpec.post enc Tryz.prog Tryz.f3 false true false false) := by
  refine returnsInHanded_of_change_and (C := Tryz.checked) (X := fun w _ => laidMetH Tryz.prog Rows.fnBestReadingsRow.laid w) (fun _ _ _ hh h => h.of_heap hh) own started (by kernel_rfl) Tryz.func3
    (ChangeSpec.witness_shaped (enc := enc) (C := Tryz.checked) (os := os) (X := fun w _ => laidMetH Tryz.prog Rows.fnBestReadingsRow.laid w) false (World.laidAll Tryz.prog os Rows.fnBestReadingsRow.laid) #[.slice none 0 0] 8 (World.laidAll_os _ _ _)
      (World.shaped_of_ZipB (by kernel_rfl) (by kernel_rfl)) (by kernel_rfl) (by kernel_rfl) (by kernel_rfl)
      (by rw [MakeChecks.laidMetH_plain _ _ _ (by kernel_rfl)]; exact laidMet_laidAll _ (by kernel_rfl) (by kernel_rfl))) ?_
  intro W base args ds gs before hval0 hW _ _ hL _
  rw [MakeChecks.laidMetH_plain _ _ _ (by kernel_rfl)] at hL
  have hval : ∀ (j : Nat) t v, Tryz.f3.params[j]? = some t → args[j]? = some v → Value.okWide Tryz.prog W .any base t v := hval0
  have hW' := hW
  obtain ⟨p, q, hA0, hV, hpq, hfz, hnd⟩ := hW
  have hA : DataW.TrodAll enc Tryz.prog W 0 (fun _ => true) true Tryz.f3.params.toList args.toList ds p := hA0
  have hT := hA
  obtain ⟨g1, rfl⟩ := vars_one hV
  rw [Tryz.params3] at hA hval
  obtain ⟨v0, vs0, d0, ds0, p0, q0, hargs, rfl, rfl, h0, r0⟩ := trodAll_cons hA
  obtain ⟨rfl, rfl, rfl⟩ := trodAll_nil r0
  obtain rfl : args = #[v0] := by cases args; simp_all
  obtain ⟨A0, n0, c0, rfl, -, hB0⟩ := open_code Tryz.underlying22 Tryz.underlying5 (by kernel_rfl) (hval 0 22 v0 rfl rfl) h0
  clear hA0 hval0
  refine (walk W hL A0 n0 c0 hB0).mono fun e W' ⟨he, hb⟩ => ?_
  subst he
  exact ⟨_, rfl, law_postv laidOut hW' hT hpq (by kernel_rfl) (by kernel_rfl) hV rfl rfl rfl rfl Tryz.underlying4 hb⟩

theorem over : Rows.fnBestReadingsRow.holds Tryz.pinned (OpenSpec.ofChange Rows.fnBestReadingsSpec) :=
  OpenClaim.holds_of_wide 3 Tryz.f3 rfl rfl rfl rfl rfl rfl rfl ⟨rfl, rfl, rfl, rfl, rfl⟩ rfl rfl rfl rfl rfl (by kernel_rfl) Tryz.func3 (by kernel_rfl)
    (of_decide_eq_true (by kernel_rfl)) (by unfold Func.isWrapper; first | (rw [if_pos (by decide +kernel)]; kernel_rfl) | (rw [if_neg (by decide +kernel)]; exact ⟨rfl, rfl⟩))
    (fun os started H enc _ => lifted os started H enc)

theorem proved : Rows.FnBestReadingsCardSaid :=
  Claim7.holds_tied_plain_at .later [] Rows.fnBestReadingsCard.laidKinds true Rows.fnBestReadingsCard.stood.harness Rows.fnBestReadingsCard.stood.looks
    over (fun _ h => by cases h) (by kernel_rfl) (fun _ h => by cases h) fnBestReadings_row_tie rfl ⟨rfl, rfl⟩ (by kernel_rfl) rfl
    (fun f fn hf hfn => by
      obtain rfl : f = 3 := Option.some.inj ((show Tryz.prog.funcNamed Rows.fnBestReadingsRow.func = some 3 by kernel_rfl).symm.trans hf) |>.symm
      obtain rfl : fn = Tryz.f3 := (Option.some.inj (Tryz.func3.symm.trans hfn)).symm
      exact ⟨by kernel_rfl, fun j t ht => by
        rw [Tryz.params3] at ht
        have hm : t ∈ [22] := by simpa using Array.mem_of_getElem? ht
        have hall : ([22].all fun u => !Tryz.prog.wantsStandIn u) = true := by kernel_rfl
        exact (show Tryz.prog.wantsStandIn t = false by simpa using List.all_eq_true.1 hall t hm)⟩)
    (by kernel_rfl)
end Go.Proofs.YtgadkpkpdpphbaaGreatDoor.fnBestReadings
