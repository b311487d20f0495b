/- For every code of bytes the needed length of the drawn figure is as the law FnNeededLengths says, and it returns true. No condition beyond the table as the program's text lays it. -/
import Derived.Test.YtgadkpkpdpphbaaDoorC06t
import Derived.Test.YtgadkpkpdpphbaaDoorC06g
import Derived.Test.YtgadkpkpdpphbaaDoorC01b
import Derived.Test.YtgadkpkpdpphbaaDoorD17
import Derived.Test.YtgadkpkpdpphbaaDoorSe
import Derived.Test.YtgadkpkpdpphbaaDoorHs
import Derived.Test.YtgadkpkpdpphbaaDoorBig
import Derived.Test.YtgadkpkpdpphbaaDoorMB
import Derived.Test.YtgadkpkpdpphbaaDoorDr
import Derived.Test.YtgadkpkpdpphbaaDoorTie
import Derived.Test.YtgadkpkpdpphbaaDoorCards
import Derived.Test.YtgadkpkpdpphbaaDoorFr
import Derived.Test.YtgadkpkpdpphbaaDoorFv
import Derived.Test.YtgadkpkpdpphbaaDoorRows
import Derived.WalkKit
import Derived.ProofKit
import Derived.OpenShut
namespace Go.Proofs.YtgadkpkpdpphbaaDoor.fnNeededLengths
open Go.ChangeShapes Go.WideShapes Go.ChangeAt Go.RowKit
set_option linter.unusedVariables false
set_option linter.unusedSimpArgs false

theorem own : ownKnob Tryd.prog.godebug = none := by kernel_rfl

theorem dcsl {w : World} (hL : laidMet Tryd.prog Rows.fnNeededLengthsRow.laid w) : Dcs w := by
  have h := hL.filter (fun x => x.1 == "loop.example/g00951/impl.scaleDecades")
  have e : Rows.fnNeededLengthsRow.laid.filter (fun x => x.1 == "loop.example/g00951/impl.scaleDecades") = [("loop.example/g00951/impl.scaleDecades", Lib.tabData .i64 [1, 2, 3, 1, 1, 1])] := by rfl
  rw [e] at h
  exact dcs_of (Lib.tabIs_of_head (g := 0) (by kernel_rfl) (by kernel_rfl) Tryd.underlying70 Tryd.underlying2 (by kernel_rfl) (by kernel_rfl) h)

attribute [local go_sem high] guard_fig neq_fig eql_fig guard_itv neq_itv
theorem nl_case (s d t e g : Int) : (((nlR s d t e g).2 == 0) = false ∧ ((nlR s d t e g).2 != 0) = true) ∨ ((nlR s d t e g).2 = 0 ∧ nlR s d t e g = ((nlR s d t e g).1, 0)) := by
  by_cases h : (nlR s d t e g).2 = 0
  · exact .inr ⟨h, Prod.ext rfl h⟩
  · left; simp [h]
def pl_in (x : Int × Int) : Prop := -200000 ≤ x.1 ∧ x.1 ≤ 310000 ∧ -200000 ≤ x.2 ∧ x.2 ≤ 310000
set_option maxHeartbeats 8000000 in
set_option maxRecDepth 100000 in
/-- The walk of a code that is not too long. -/
theorem walk1 (w : World) (hD : Dcs w) (A0 : Option Addr) (n0 c0 : Nat) (hB0 : Bytes w w.heap.size A0 n0) (hbig : ¬ 4096 < n0) :
    Calls Tryd.prog 4 #[.slice A0 n0 c0] w (LawDone w) := by
  have HD := Lib.hid hD
  clear hD
  have hd : decide ((4096 : Int) < n0) = false := by simp; omega
  go_enter Tryd.func4, Tryd.ntmps4
  go_wp2_with fail
  refine (big_any A0 n0 c0 w).mono ?_
  rw [hd]
  rintro e w1 ⟨rfl, rfl⟩
  clear hd
  go_wp2_with fail
  refine (drawNeeded_any A0 n0 c0 w (by omega) hB0).mono ?_
  rintro e w1 ⟨s, d, t, e', g, rfl, -, -, -, -, hb⟩
  have G1 := ((Gr.of_below hb).alloc (.cells #[.int .i64 d, .int .i64 t] 27))
  have L1 := ((show Hass w1 [] from trivial).new' [.int .i64 d, .int .i64 t] 27 (w1.heap.size) (by simp))
  clear hb
  have F := L1
  obtain ⟨⟨l0, z0⟩, -⟩ := F
  go_wp2_with fail
  clear l0 z0
  refine (nlR_impl s d t e' g _ (HD.out.gr G1)).mono ?_
  rintro e w2 ⟨rfl, hg⟩
  have G2 := (G1.trans hg)
  have L2 := (L1.gr hg)
  clear L1 G1 hg
  have F := L2
  obtain ⟨⟨l0, z0⟩, -⟩ := F
  go_wp2_with fail
  clear l0 z0
  refine (nlR_spec s d t e' g _).mono ?_
  rintro e w3 ⟨rfl, hg⟩
  have G3 := (G2.trans hg)
  have L3 := (L2.gr hg)
  clear L2 G2 hg
  have HP := Lib.hid (nl_case s d t e' g)
  have HN := Lib.hid (fun n h => need_facts s d t e' g n h)
  generalize nlR s d t e' g = R at *
  obtain ⟨n, cn⟩ := R
  simp only at HP HN ⊢
  have F := L3
  obtain ⟨⟨l0, z0⟩, -⟩ := F
  rcases HP.out with ⟨h1, h2⟩ | ⟨rfl, hR⟩
  · clear HP HN
    go_wp2_with fail
    go_ret
    exact ⟨rfl, G3.below⟩
  · obtain ⟨f1, o7, fB, fA, hro, n1, n2, ha0, ha1⟩ := HN.out n rfl
    clear HP HN hR
    obtain ⟨hs, ⟨e1, e2⟩, ⟨g1, g2⟩, t1, t2⟩ := (ok7_iff _ _ _ _).1 o7
    have h5 := dec_5 s t t1 (by omega)
    have hl : ln n = true := (ln_iff n).2 ⟨by omega, n2⟩
    have HR := Lib.hid (fun W => roR_impl d t g W)
    rw [hro] at HR
    have hpw : pw (4 - g) = (p10 (4 - g).toNat, 0) := pw_ok _ (by omega) (by omega)
    have HT := Lib.hid (fun W => powerOfTen_impl (4 - g) W)
    rw [hpw] at HT
    have hB : (nlB d t g) = (nlA d t g).1 + p10 (4 - g).toNat := rfl
    have PA0 := Lib.hid (fun W hW => plR_impl s (nlA d t g).1 t n W hW)
    rw [pl_ok s (nlA d t g).1 t n fA hs h5 hl] at PA0
    have PB0 := Lib.hid (fun W hW => plR_impl s (nlB d t g) t n W hW)
    rw [pl_ok s (nlB d t g) t n fB hs h5 hl] at PB0
    have pa := pl_bd s (nlA d t g).1 t n fA hl
    have pb := pl_bd s (nlB d t g) t n fB hl
    have HA1 := Lib.hid (fun (h : n ≠ 100) => (show (∀ W, Dcs W → Calls Tryd.prog 23 #[.int .i64 s, .agg #[.int .i64 (nlA d t g).1, .int .i64 t], .int .i64 (n - 100)] W fun e w' => e = .returned (.tuple #[.agg #[.int .i64 (pl s (nlA d t g).1 t (n - 100)).1, .int .i64 (pl s (nlA d t g).1 t (n - 100)).2], .int .i64 0]) ∧ Gr W w') ∧
        (∀ W, Dcs W → Calls Tryd.prog 23 #[.int .i64 s, .agg #[.int .i64 (nlB d t g), .int .i64 t], .int .i64 (n - 100)] W fun e w' => e = .returned (.tuple #[.agg #[.int .i64 (pl s (nlB d t g) t (n - 100)).1, .int .i64 (pl s (nlB d t g) t (n - 100)).2], .int .i64 0]) ∧ Gr W w') ∧
        pl_in (pl s (nlA d t g).1 t (n - 100)) ∧ pl_in (pl s (nlB d t g) t (n - 100)) ∧ ¬ ((pl s (nlB d t g) t (n - 100)).2 + e' ≤ (pl s (nlA d t g).1 t (n - 100)).1 ∨ (pl s (nlA d t g).1 t (n - 100)).2 + e' ≤ (pl s (nlB d t g) t (n - 100)).1) by
      have hlt : n < 100 ∨ 100 < n := by omega
      have hl1 : ln (n - 100) = true := (ln_iff _).2 ⟨by omega, by omega⟩
      refine ⟨fun W hW => ?_, fun W hW => ?_, ?_, ?_, ?_⟩
      · have H := plR_impl s (nlA d t g).1 t (n - 100) W hW
        rw [pl_ok s (nlA d t g).1 t (n - 100) fA hs h5 hl1] at H
        exact H
      · have H := plR_impl s (nlB d t g) t (n - 100) W hW
        rw [pl_ok s (nlB d t g) t (n - 100) fB hs h5 hl1] at H
        exact H
      · obtain ⟨x1, x2, x3, x4, -⟩ := pl_bd s (nlA d t g).1 t (n - 100) fA hl1; exact ⟨x1, x2, x3, x4⟩
      · obtain ⟨x1, x2, x3, x4, -⟩ := pl_bd s (nlB d t g) t (n - 100) fB hl1; exact ⟨x1, x2, x3, x4⟩
      · intro hh
        have h6 := (apt_iff s (nlA d t g).1 t (nlB d t g) t (n - 100) e').2 hh
        rw [ha1 h] at h6; cases h6))
    have HA0 := Lib.hid ((apt_iff s (nlA d t g).1 t (nlB d t g) t n e').1 ha0)
    obtain ⟨ab1, ab2⟩ := ((fg_iff _ _).1 fA).1
    obtain ⟨bb1, bb2⟩ := ((fg_iff _ _).1 fB).1
    have hu := p10_bd (4 - g).toNat (by omega)
    generalize pl s (nlA d t g).1 t n = pP at *
    generalize pl s (nlB d t g) t n = pQ at *
    generalize pl s (nlA d t g).1 t (n - 100) = rP at *
    generalize pl s (nlB d t g) t (n - 100) = rQ at *
    generalize nlB d t g = B at *
    generalize (nlA d t g).1 = A at *
    generalize p10 (4 - g).toNat = u at *
    clear ha0 ha1 fA fB f1 o7 hro hpw h5 hl hs t1 t2
    go_wp2_with fail
    clear l0 z0
    refine (HR.out _).mono ?_
    rintro e w4 ⟨rfl, hg⟩
    have G4 := (G3.trans hg).alloc (.cells #[.int .i64 A, .int .i64 t] 27)
    have L4 := (L3.gr hg).new [.int .i64 A, .int .i64 t] 27
    clear L3 G3 hg HR
    go_wp2_with fail
    refine (HT.out _).mono ?_
    rintro e w5 ⟨rfl, rfl⟩
    have F := L4
    obtain ⟨⟨l0, z0⟩, -⟩ := F
    subst hB
    have G6 := G4.alloc (.cells #[.int .i64 (A + u), .int .i64 t] 27)
    have L6 := L4.new' [.int .i64 (A + u), .int .i64 t] 27 (w4.heap.size + 1) (by simp)
    clear L4 G4 HT
    go_wp2_with fail
    clear l0 z0
    generalize (w4.alloc (.cells #[.int .i64 A, .int .i64 t] 27)).alloc (.cells #[.int .i64 (A + u), .int .i64 t] 27) = w6 at *
    go_loopw [16] (fun i wr => ∃ k : Nat, k ≤ 2 ∧ i = .int .i64 k ∧ (k = 2 → n ≠ 100) ∧ Gr w6 wr) (fun i _ => 2 - (intOf i).toNat)
    case atStart => exact ⟨0, by omega, rfl, by omega, Gr.refl _⟩
    case round =>
      obtain ⟨k, hk, rfl, hk2, hG⟩ := hrel
      have F := L6.gr hG
      obtain ⟨⟨l0, z0⟩, ⟨l1, z1⟩, -⟩ := F
      rcases (show k = 0 ∨ k = 1 ∨ k = 2 by omega) with rfl | rfl | rfl
      · clear hk hk2
        obtain ⟨P1, P2⟩ := pP
        obtain ⟨Q1, Q2⟩ := pQ
        obtain ⟨x1, x2, x3, x4, -⟩ := pa
        obtain ⟨y1, y2, y3, y4, -⟩ := pb
        simp only at PA0 PB0 x1 x2 x3 x4 y1 y2 y3 y4
        have hor := HA0.out
        simp only at hor
        have HOR := Lib.hid hor
        clear hor HA0 HA1
        have hn0 : (n == 0) = false := by simp; omega
        go_wp2_with fail
        refine ((PA0.out _ (HD.out.gr (G6.trans hG)))).mono ?_
        rintro e u1 ⟨rfl, hg⟩
        have Ga := ((G6.trans hG).trans hg).alloc (.cells #[.int .i64 P1, .int .i64 P2] 38)
        have La := ((L6.gr hG).gr hg).new [.int .i64 P1, .int .i64 P2] 38
        have Wa := (hG.trans hg).alloc (.cells #[.int .i64 P1, .int .i64 P2] 38)
        clear hg l0 z0 l1 z1
        have F := La
        obtain ⟨-, ⟨l1, z1⟩, -⟩ := F
        go_wp2_with fail
        refine ((PB0.out _ (HD.out.gr Ga))).mono ?_
        rintro e u2 ⟨rfl, hg⟩
        have Gb := (Ga.trans hg).alloc (.cells #[.int .i64 Q1, .int .i64 Q2] 38)
        have Lb := (La.gr hg).new [.int .i64 Q1, .int .i64 Q2] 38
        have Wb := (Wa.trans hg).alloc (.cells #[.int .i64 Q1, .int .i64 Q2] 38)
        clear hg Ga La Wa l1 z1
        have F := Lb
        obtain ⟨⟨l0, z0⟩, ⟨l1, z1⟩, -⟩ := F
        by_cases c1 : Q2 + e' ≤ P1
        · go_wp2_with fail
          go_roundw
          case rel => exact ⟨1, by omega, by go_num, by omega, Wb⟩
          case measure => simp [intOf]
        · have c2 : P2 + e' ≤ Q1 := by have := HOR.out; omega
          go_wp2_with fail
          go_roundw
          case rel => exact ⟨1, by omega, by go_num, by omega, Wb⟩
          case measure => simp [intOf]
      · by_cases hn : n = 100
        · subst hn
          clear HA1
          go_wp2_with fail
          go_ret
          exact ⟨rfl, (G6.trans hG).below⟩
        · obtain ⟨hA1, hB1, x, y, hno⟩ := HA1.out hn
          have PA1 := Lib.hid hA1
          have PB1 := Lib.hid hB1
          obtain ⟨P1, P2⟩ := rP
          obtain ⟨Q1, Q2⟩ := rQ
          obtain ⟨x1, x2, x3, x4⟩ := x
          obtain ⟨y1, y2, y3, y4⟩ := y
          simp only at PA1 PB1 x1 x2 x3 x4 y1 y2 y3 y4 hno
          have c1 : ¬ (Q2 + e' ≤ P1) := by omega
          have c2 : ¬ (P2 + e' ≤ Q1) := by omega
          clear hno HA1 HA0 hA1 hB1 pa pb
          have hn0 : (n - 100 == 0) = false := by simp; omega
          go_wp2_with fail
          refine ((PA1.out _ (HD.out.gr (G6.trans hG)))).mono ?_
          rintro e u1 ⟨rfl, hg⟩
          have Ga := ((G6.trans hG).trans hg).alloc (.cells #[.int .i64 P1, .int .i64 P2] 38)
          have La := ((L6.gr hG).gr hg).new [.int .i64 P1, .int .i64 P2] 38
          have Wa := (hG.trans hg).alloc (.cells #[.int .i64 P1, .int .i64 P2] 38)
          clear hg l0 z0 l1 z1
          have F := La
          obtain ⟨-, ⟨l1, z1⟩, -⟩ := F
          go_wp2_with fail
          refine ((PB1.out _ (HD.out.gr Ga))).mono ?_
          rintro e u2 ⟨rfl, hg⟩
          have Gb := (Ga.trans hg).alloc (.cells #[.int .i64 Q1, .int .i64 Q2] 38)
          have Lb := (La.gr hg).new [.int .i64 Q1, .int .i64 Q2] 38
          have Wb := (Wa.trans hg).alloc (.cells #[.int .i64 Q1, .int .i64 Q2] 38)
          clear hg Ga La Wa l1 z1
          have F := Lb
          obtain ⟨⟨l0, z0⟩, ⟨l1, z1⟩, -⟩ := F
          go_wp2_with fail
          go_roundw
          case rel => exact ⟨2, by omega, by go_num, fun _ => hn, Wb⟩
          case measure => simp [intOf]
      · clear HA1 HA0 pa pb
        go_wp2_with fail
        go_ret
        exact ⟨rfl, (G6.trans hG).below⟩

set_option maxHeartbeats 4000000 in
set_option maxRecDepth 100000 in
theorem walk (w : World) (hL : laidMet Tryd.prog Rows.fnNeededLengthsRow.laid w) (A0 : Option Addr) (n0 c0 : Nat) (hB0 : Bytes w w.heap.size A0 n0) :
    Calls Tryd.prog 4 #[.slice A0 n0 c0] w (LawDone w) := by
  have hD := dcsl hL
  clear hL
  by_cases hbig : 4096 < n0
  · have hd : decide ((4096 : Int) < n0) = true := by simp; omega
    go_enter Tryd.func4, Tryd.ntmps4
    go_wp2_with fail
    refine (big_any A0 n0 c0 w).mono ?_
    rw [hd]
    rintro e w1 ⟨rfl, rfl⟩
    go_wp2_with fail
    go_ret
    exact ⟨rfl, Below.refl _ _⟩
  · exact walk1 w hD A0 n0 c0 hB0 hbig

set_option maxRecDepth 100000 in
theorem lifted (os : Os) (started : os.Started) (H : Type) (enc : TypeId × Value → H) :
    ReturnsInHanded {} Tryd.checked os 4 .any (fun w args => (Rows.fnNeededLengthsSpec.pre enc Tryd.prog Tryd.f4 Rows.fnNeededLengthsRow.domain false w args ∧ laidMetH Tryd.prog Rows.fnNeededLengthsRow.laid w) ∧ sizedMet enc Tryd.prog Tryd.f4 (OpenSpec.ofChange Rows.fnNeededLengthsSpec) false w args) (Rows.fnNeededLengthsSpec.post enc Tryd.prog Tryd.f4 false true false false) := by
  refine returnsInHanded_of_change_and (C := Tryd.checked) (X := fun w _ => laidMetH Tryd.prog Rows.fnNeededLengthsRow.laid w) (fun _ _ _ hh h => h.of_heap hh) own started (by kernel_rfl) Tryd.func4
    (ChangeSpec.witness_shaped (enc := enc) (C := Tryd.checked) (os := os) (X := fun w _ => laidMetH Tryd.prog Rows.fnNeededLengthsRow.laid w) false (World.laidAll Tryd.prog os Rows.fnNeededLengthsRow.laid) #[.slice none 0 0] 8 (World.laidAll_os _ _ _)
      (World.shaped_of_ZipB (by kernel_rfl) (by kernel_rfl)) (by kernel_rfl) (by kernel_rfl) (by kernel_rfl)
      (by rw [MakeChecks.laidMetH_plain _ _ _ (by kernel_rfl)]; exact laidMet_laidAll _ (by kernel_rfl) (by kernel_rfl))) ?_
  intro W base args ds gs before hval0 hW _ _ hL _
  rw [MakeChecks.laidMetH_plain _ _ _ (by kernel_rfl)] at hL
  have hval : ∀ (j : Nat) t v, Tryd.f4.params[j]? = some t → args[j]? = some v → Value.okWide Tryd.prog W .any base t v := hval0
  have hW' := hW
  obtain ⟨p, q, hA0, hV, hpq, hfz, hnd⟩ := hW
  have hA : DataW.TrodAll enc Tryd.prog W 0 (fun _ => true) true Tryd.f4.params.toList args.toList ds p := hA0
  have hT := hA
  obtain ⟨g1, rfl⟩ := vars_one hV
  rw [Tryd.params4] at hA hval
  obtain ⟨v0, vs0, d0, ds0, p0, q0, hargs, rfl, rfl, h0, r0⟩ := trodAll_cons hA
  obtain ⟨rfl, rfl, rfl⟩ := trodAll_nil r0
  obtain rfl : args = #[v0] := by cases args; simp_all
  obtain ⟨A0, n0, c0, rfl, -, hB0⟩ := open_code Tryd.underlying22 Tryd.underlying5 (by kernel_rfl) (hval 0 22 v0 rfl rfl) h0
  clear hA0 hval0
  refine (walk W hL A0 n0 c0 hB0).mono fun e W' ⟨he, hb⟩ => ?_
  subst he
  exact ⟨_, rfl, law_postv laidOut hW' hT hpq (by kernel_rfl) (by kernel_rfl) hV rfl rfl rfl rfl Tryd.underlying4 hb⟩

theorem over : Rows.fnNeededLengthsRow.holds Tryd.pinned (OpenSpec.ofChange Rows.fnNeededLengthsSpec) :=
  OpenClaim.holds_of_wide 4 Tryd.f4 rfl rfl rfl rfl rfl rfl rfl ⟨rfl, rfl, rfl, rfl, rfl⟩ rfl rfl rfl rfl rfl (by kernel_rfl) Tryd.func4 (by kernel_rfl)
    (of_decide_eq_true (by kernel_rfl)) (by unfold Func.isWrapper; first | (rw [if_pos (by decide +kernel)]; kernel_rfl) | (rw [if_neg (by decide +kernel)]; exact ⟨rfl, rfl⟩))
    (fun os started H enc _ => lifted os started H enc)

theorem proved : Rows.FnNeededLengthsCardSaid :=
  Claim7.holds_tied_plain_at .later [] Rows.fnNeededLengthsCard.laidKinds true Rows.fnNeededLengthsCard.stood.harness Rows.fnNeededLengthsCard.stood.looks
    over (fun _ h => by cases h) (by kernel_rfl) (fun _ h => by cases h) fnNeededLengths_row_tie rfl ⟨rfl, rfl⟩ (by kernel_rfl) rfl
    (fun f fn hf hfn => by
      obtain rfl : f = 4 := Option.some.inj ((show Tryd.prog.funcNamed Rows.fnNeededLengthsRow.func = some 4 by kernel_rfl).symm.trans hf) |>.symm
      obtain rfl : fn = Tryd.f4 := (Option.some.inj (Tryd.func4.symm.trans hfn)).symm
      exact ⟨by kernel_rfl, fun j t ht => by
        rw [Tryd.params4] at ht
        have hm : t ∈ [22] := by simpa using Array.mem_of_getElem? ht
        have hall : ([22].all fun u => !Tryd.prog.wantsStandIn u) = true := by kernel_rfl
        exact (show Tryd.prog.wantsStandIn t = false by simpa using List.all_eq_true.1 hall t hm)⟩)
    (by kernel_rfl)
end Go.Proofs.YtgadkpkpdpphbaaDoor.fnNeededLengths
