/- For every code of bytes the powers of ten, numbers of digits and common divisors of the drawn numbers are as the law FnDigits says, and it returns true. No condition beyond the library's tables as its text lays them. -/
import Derived.Test.YtdgbkdhmabneeabDoorC01c
import Derived.Test.YtdgbkdhmabneeabDoorD3
import Derived.Test.YtdgbkdhmabneeabDoorBig
import Derived.Test.YtdgbkdhmabneeabDoorT2
import Derived.Test.YtdgbkdhmabneeabDoorDr
import Derived.Test.YtdgbkdhmabneeabDoorTie
import Derived.Test.YtdgbkdhmabneeabDoorCards
import Derived.Test.YtdgbkdhmabneeabDoorFr
import Derived.Test.YtdgbkdhmabneeabDoorRows
import Derived.WalkKit
import Derived.ProofKit
import Derived.OpenShut
namespace Go.Proofs.YtdgbkdhmabneeabDoor.fnDigits
open Go.ChangeShapes Go.WideShapes Go.ChangeAt Go.RowKit
set_option linter.unusedVariables false
set_option linter.unusedSimpArgs false

theorem own : ownKnob Tryd.prog.godebug = none := by kernel_rfl

theorem tab {w : World} (hL : laidMet Tryd.prog Rows.fnDigitsRow.laid w) : Tab w := by
  have h := hL.filter (fun x => x.1 == "internal/strconv.uint64pow10")
  have e : Rows.fnDigitsRow.laid.filter (fun x => x.1 == "internal/strconv.uint64pow10") = [("internal/strconv.uint64pow10", Lib.tabData .u64 Lib.pow10Tab)] := by rfl
  rw [e] at h
  exact Lib.tabIs_of_head (g := 0) (by kernel_rfl) (by kernel_rfl) Tryd.underlying90 Tryd.underlying79 (by kernel_rfl) (by kernel_rfl) h

theorem ten_digits (n : Int) (h1 : 0 ≤ n) (h2 : n ≤ 12) : cntR (p10 n.toNat) = (n + 1, 0) := by
  have hb := p10_bd n.toNat (by omega)
  rw [cntR_ok _ (by omega) (by omega)]
  have e : (p10 n.toNat).toNat = 10 ^ n.toNat := by rw [p10_pow]; exact Int.toNat_natCast _
  rw [e, Lib.decDigits_length, Lib.nDigits_unique n.toNat _ (Nat.le_refl _) (Nat.pow_lt_pow_right (by decide) (by omega))]
  simp; omega


set_option maxHeartbeats 4000000 in
set_option maxRecDepth 100000 in
theorem walk (w : World) (hL : laidMet Tryd.prog Rows.fnDigitsRow.laid w) (A0 : Option Addr) (n0 c0 : Nat) (hB0 : Bytes w w.heap.size A0 n0) :
    Calls Tryd.prog 3 #[.slice A0 n0 c0] w (LawDone w) := by
  have HT := Lib.hid (tab hL)
  clear hL
  by_cases hbig : 4096 < n0
  · have hd : decide ((4096 : Int) < n0) = true := by simp; omega
    go_enter Tryd.func3, Tryd.ntmps3
    go_wp2_with fail
    refine (big_any A0 n0 c0 w).mono ?_
    rw [hd]
    rintro e w1 ⟨rfl, rfl⟩
    go_wp2_with fail
    go_ret
    exact ⟨rfl, Below.refl _ _⟩
  · have hd : decide ((4096 : Int) < n0) = false := by simp; omega
    go_enter Tryd.func3, Tryd.ntmps3
    go_wp2_with fail
    refine (big_any A0 n0 c0 w).mono ?_
    rw [hd]
    rintro e w1 ⟨rfl, rfl⟩
    clear hd
    go_wp2_with fail
    refine (drawPower_any A0 n0 c0 w (by omega) hB0).mono ?_
    rintro e w1 ⟨n, rfl, ⟨n1, n2⟩, hb1⟩
    go_wp2_with fail
    refine (powerOfTen_impl n w1).mono ?_
    rintro e w' ⟨rfl, rfl⟩
    go_wp2_with fail
    refine (powerOfTen_spec n w1).mono ?_
    rintro e w' ⟨rfl, rfl⟩
    go_wp2_with fail
    refine (drawCount_any A0 n0 c0 w1 (by omega) (hB0.later hb1)).mono ?_
    rintro e w2 ⟨k, rfl, -, hb2⟩
    have hb2 := below_start hb1 hb2
    go_wp2_with fail
    refine (countDigits_impl k w2 (HT.out.later hb2)).mono ?_
    rintro e w3 ⟨rfl, hb3⟩
    have hb3 := below_start hb2 hb3
    go_wp2_with fail
    refine (countDigits_spec k w3).mono ?_
    rintro e w4 ⟨rfl, hb4⟩
    have hb4 := below_start hb3 hb4
    go_wp2_with fail
    refine (drawCommon_any A0 n0 c0 w4 (by omega) (hB0.later hb4)).mono ?_
    rintro e w5 ⟨a, b, rfl, -, -, hb5⟩
    have hb5 := below_start hb4 hb5
    clear hb1 hb2 hb3 hb4
    go_wp2_with fail
    refine (gcR_impl a b w5).mono ?_
    rintro e w6 ⟨rfl, d1, rfl⟩
    go_wp2_with fail
    refine (gcR_spec a b _).mono ?_
    rintro e w6 ⟨rfl, d2, rfl⟩
    have hb6 := below_on (below_on hb5 d1) d2
    generalize (w5.drewN d1).drewN d2 = w6 at *
    clear hb5
    by_cases hg : (vl a && vl b) = false
    · rw [gcR_no a b hg]
      clear hg
      by_cases hp : 0 ≤ n ∧ n ≤ 12
      · have HD := Lib.hid (ten_digits n hp.1 hp.2)
        rw [pw_ok n hp.1 hp.2]
        go_wp2_with fail
        refine (countDigits_impl _ w6 (HT.out.later hb6)).mono ?_
        rw [HD.out]
        rintro e w7 ⟨rfl, hb7⟩
        go_wp2_with fail
        go_ret
        exact ⟨rfl, below_start hb6 hb7⟩
      · rw [pw_no n (by omega)]
        go_wp2_with fail
        go_ret
        exact ⟨rfl, hb6⟩
    · rw [gcR_ok a b hg]
      obtain ⟨⟨g1, g2⟩, ⟨g3, g4⟩⟩ := gcd_facts a b
      have g5 := gcd_zero a b
      clear hg
      generalize Nat.gcd a.natAbs b.natAbs = g at *
      have gz : (g = 0 ∧ a = 0 ∧ b = 0) ∨ (((g : Int) == 0) = false ∧ 0 < g) := by
        by_cases h : g = 0
        · exact .inl ⟨h, g5 h⟩
        · exact .inr ⟨by simp [h], by omega⟩
      clear g5
      by_cases hp : 0 ≤ n ∧ n ≤ 12
      · have HD := Lib.hid (ten_digits n hp.1 hp.2)
        rw [pw_ok n hp.1 hp.2]
        rcases gz with ⟨rfl, rfl, rfl⟩ | ⟨gb, gp⟩
        all_goals
          go_wp2_with fail
          refine (countDigits_impl _ w6 (HT.out.later hb6)).mono ?_
          rw [HD.out]
          rintro e w7 ⟨rfl, hb7⟩
          go_wp2_with fail
          go_ret
          exact ⟨rfl, below_start hb6 hb7⟩
      · rw [pw_no n (by omega)]
        rcases gz with ⟨rfl, rfl, rfl⟩ | ⟨gb, gp⟩
        all_goals
          go_wp2_with fail
          go_ret
          exact ⟨rfl, hb6⟩

set_option maxRecDepth 100000 in
theorem lifted (os : Os) (started : os.Started) (H : Type) (enc : TypeId × Value → H) :
    ReturnsInHanded {} Tryd.checked os 3 .any (fun w args => (Rows.fnDigitsSpec.pre enc Tryd.prog Tryd.f3 Rows.fnDigitsRow.domain false w args ∧ laidMetH Tryd.prog Rows.fnDigitsRow.laid w) ∧ sizedMet enc Tryd.prog Tryd.f3 (OpenSpec.ofChange Rows.fnDigitsSpec) false w args) (Rows.fnDigitsSpec.post enc Tryd.prog Tryd.f3 false true false false) := by
  refine returnsInHanded_of_change_and (C := Tryd.checked) (X := fun w _ => laidMetH Tryd.prog Rows.fnDigitsRow.laid w) (fun _ _ _ hh h => h.of_heap hh) own started (by kernel_rfl) Tryd.func3
    (ChangeSpec.witness_shaped (enc := enc) (C := Tryd.checked) (os := os) (X := fun w _ => laidMetH Tryd.prog Rows.fnDigitsRow.laid w) false (World.laidAll Tryd.prog os Rows.fnDigitsRow.laid) #[.slice none 0 0] 8 (World.laidAll_os _ _ _)
      (World.shaped_of_ZipB (by kernel_rfl) (by kernel_rfl)) (by kernel_rfl) (by kernel_rfl) (by kernel_rfl)
      (by rw [MakeChecks.laidMetH_plain _ _ _ (by kernel_rfl)]; exact laidMet_laidAll _ (by kernel_rfl) (by kernel_rfl))) ?_
  intro W base args ds gs before hval0 hW _ _ hL _
  rw [MakeChecks.laidMetH_plain _ _ _ (by kernel_rfl)] at hL
  have hval : ∀ (j : Nat) t v, Tryd.f3.params[j]? = some t → args[j]? = some v → Value.okWide Tryd.prog W .any base t v := hval0
  have hW' := hW
  obtain ⟨p, q, hA0, hV, hpq, hfz, hnd⟩ := hW
  have hA : DataW.TrodAll enc Tryd.prog W 0 (fun _ => true) true Tryd.f3.params.toList args.toList ds p := hA0
  have hT := hA
  obtain ⟨rfl, rfl⟩ := trodVars_none hV
  rw [Tryd.params3] at hA hval
  obtain ⟨v0, vs0, d0, ds0, p0, q0, hargs, rfl, rfl, h0, r0⟩ := trodAll_cons hA
  obtain ⟨rfl, rfl, rfl⟩ := trodAll_nil r0
  obtain rfl : args = #[v0] := by cases args; simp_all
  obtain ⟨A0, n0, c0, rfl, -, hB0⟩ := open_code Tryd.underlying22 Tryd.underlying5 (by kernel_rfl) (hval 0 22 v0 rfl rfl) h0
  clear hA0 hval0
  refine (walk W hL A0 n0 c0 hB0).mono fun e W' ⟨he, hb⟩ => ?_
  subst he
  exact ⟨_, rfl, law_post laidOut hW' hT hpq (by kernel_rfl) (fun _ _ => rfl) rfl rfl rfl Tryd.underlying4 hb⟩

theorem over : Rows.fnDigitsRow.holds Tryd.pinned (OpenSpec.ofChange Rows.fnDigitsSpec) :=
  OpenClaim.holds_of_wide 3 Tryd.f3 rfl rfl rfl rfl rfl rfl rfl ⟨rfl, rfl, rfl, rfl, rfl⟩ rfl rfl rfl rfl rfl (by kernel_rfl) Tryd.func3 (by kernel_rfl)
    (of_decide_eq_true (by kernel_rfl)) (by unfold Func.isWrapper; first | (rw [if_pos (by decide +kernel)]; kernel_rfl) | (rw [if_neg (by decide +kernel)]; exact ⟨rfl, rfl⟩))
    (fun os started H enc _ => lifted os started H enc)

theorem proved : Rows.FnDigitsCardSaid :=
  Claim7.holds_tied_plain_at .later [] Rows.fnDigitsCard.laidKinds true Rows.fnDigitsCard.stood.harness true
    over (fun _ h => by cases h) (by kernel_rfl) (fun _ h => by cases h) fnDigits_row_tie rfl ⟨rfl, rfl⟩ (by kernel_rfl) rfl
    (fun f fn hf hfn => by
      obtain rfl : f = 3 := Option.some.inj ((show Tryd.prog.funcNamed Rows.fnDigitsRow.func = some 3 by kernel_rfl).symm.trans hf) |>.symm
      obtain rfl : fn = Tryd.f3 := (Option.some.inj (Tryd.func3.symm.trans hfn)).symm
      exact ⟨by kernel_rfl, fun j t ht => by
        rw [Tryd.params3] at ht
        have hm : t ∈ [22] := by simpa using Array.mem_of_getElem? ht
        have hall : ([22].all fun u => !Tryd.prog.wantsStandIn u) = true := by kernel_rfl
        exact (show Tryd.prog.wantsStandIn t = false by simpa using List.all_eq_true.1 hall t hm)⟩)
    (by kernel_rfl)
end Go.Proofs.YtdgbkdhmabneeabDoor.fnDigits
