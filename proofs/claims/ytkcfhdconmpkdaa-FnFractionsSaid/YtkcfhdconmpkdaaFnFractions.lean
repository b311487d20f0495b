/- For every code of bytes the quotients of the drawn values lie as the law FnFractions says, and it returns true. No condition. -/
import Derived.Test.YtkcfhdconmpkdaaM02
import Derived.Test.YtkcfhdconmpkdaaC01c
import Derived.Test.YtkcfhdconmpkdaaD2
import Derived.Test.YtkcfhdconmpkdaaBig
import Derived.Test.YtkcfhdconmpkdaaFr
import Derived.Test.YtkcfhdconmpkdaaRows
import Derived.WalkKit
import Derived.ProofKit
import Derived.OpenShut
namespace Go.Proofs.Ytkcfhdconmpkdaa.fnFractions
open Go.ChangeShapes Go.WideShapes Go.ChangeAt Go.RowKit
set_option linter.unusedVariables false
set_option linter.unusedSimpArgs false

theorem own : ownKnob Try.prog.godebug = none := by kernel_rfl


set_option maxRecDepth 100000 in
theorem walk (w : World) (A0 : Option Addr) (n0 c0 : Nat) (hB0 : Bytes w w.heap.size A0 n0) :
    Calls Try.prog 3 #[.slice A0 n0 c0] w (LawDone w) := by
  by_cases hbig : 4096 < n0
  · have hd : decide ((4096 : Int) < n0) = true := by simp; omega
    go_enter Try.func3, Try.ntmps3
    go_wp2_with fail
    refine (big_any A0 n0 c0 w).mono ?_
    rw [hd]
    rintro e w1 ⟨rfl, rfl⟩
    go_wp2_with fail
    go_ret
    exact ⟨rfl, Below.refl _ _⟩
  · have hd : decide ((4096 : Int) < n0) = false := by simp; omega
    go_enter Try.func3, Try.ntmps3
    go_wp2_with fail
    refine (big_any A0 n0 c0 w).mono ?_
    rw [hd]
    rintro e w1 ⟨rfl, rfl⟩
    clear hd
    go_wp2_with fail
    refine (drawDivide_any A0 n0 c0 w (by omega) hB0).mono ?_
    rintro e w1 ⟨a, b, rfl, ha, hb, hl⟩
    by_cases hc : dcode a b = 0
    · obtain ⟨x, y, z, hx, hy, hz, hp, hn, bx, by', zz⟩ := frac_all a b hc
      obtain ⟨⟨a1, a2⟩, ⟨b1, b2⟩, hb0⟩ := dcode0 a b hc
      have HX := Lib.hid hx
      have HY := Lib.hid hy
      have HZ := Lib.hid hz
      clear hx hy hz hc ha hb
      have hzx : z = x ∨ (z = y ∧ (z == x) = false) := by
        by_cases h : z = x
        · exact .inl h
        · exact .inr ⟨by omega, by simp [h]⟩
      clear zz
      by_cases hbn : b < 0
      · obtain ⟨f1, f2, f3, f4, f5, f6, f7, f8, -⟩ := hn hbn
        clear hp hn
        rcases hzx with rfl | ⟨rfl, hne⟩
        all_goals
          go_wp2_with (first
        | (go_at_call 11; refine (ddR_impl _ _ _).mono ?_; rw [HX.out]; rintro e w' ⟨rfl, rfl⟩)
        | (go_at_call 12; refine (ddR_spec _ _ _).mono ?_; rw [HX.out]; rintro e w' ⟨rfl, rfl⟩)
        | (go_at_call 13; refine (duR_impl _ _ _).mono ?_; rw [HY.out]; rintro e w' ⟨rfl, rfl⟩)
        | (go_at_call 14; refine (duR_spec _ _ _).mono ?_; rw [HY.out]; rintro e w' ⟨rfl, rfl⟩)
        | (go_at_call 15; refine (dnR_impl _ _ _).mono ?_; rw [HZ.out]; rintro e w' ⟨rfl, rfl⟩)
        | (go_at_call 16; refine (dnR_spec _ _ _).mono ?_; rw [HZ.out]; rintro e w' ⟨rfl, rfl⟩))
          go_ret
          exact ⟨ret_bool (decide_eq_true (by omega)), hl⟩
      · obtain ⟨f1, f2, f3, f4, f5, f6, f7, f8, -⟩ := hp (by omega)
        clear hp hn
        rcases hzx with rfl | ⟨rfl, hne⟩
        all_goals
          go_wp2_with (first
        | (go_at_call 11; refine (ddR_impl _ _ _).mono ?_; rw [HX.out]; rintro e w' ⟨rfl, rfl⟩)
        | (go_at_call 12; refine (ddR_spec _ _ _).mono ?_; rw [HX.out]; rintro e w' ⟨rfl, rfl⟩)
        | (go_at_call 13; refine (duR_impl _ _ _).mono ?_; rw [HY.out]; rintro e w' ⟨rfl, rfl⟩)
        | (go_at_call 14; refine (duR_spec _ _ _).mono ?_; rw [HY.out]; rintro e w' ⟨rfl, rfl⟩)
        | (go_at_call 15; refine (dnR_impl _ _ _).mono ?_; rw [HZ.out]; rintro e w' ⟨rfl, rfl⟩)
        | (go_at_call 16; refine (dnR_spec _ _ _).mono ?_; rw [HZ.out]; rintro e w' ⟨rfl, rfl⟩))
          go_ret
          exact ⟨ret_bool (decide_eq_true (by omega)), hl⟩
    · have HX := Lib.hid (ddR_no a b hc)
      have HY := Lib.hid (duR_no a b hc)
      have HZ := Lib.hid (dnR_no a b hc)
      have hne : (dcode a b != 0) = true := by simp [hc]
      clear hc ha hb
      generalize dcode a b = q at *
      go_wp2_with (first
        | (go_at_call 11; refine (ddR_impl _ _ _).mono ?_; rw [HX.out]; rintro e w' ⟨rfl, rfl⟩)
        | (go_at_call 12; refine (ddR_spec _ _ _).mono ?_; rw [HX.out]; rintro e w' ⟨rfl, rfl⟩)
        | (go_at_call 13; refine (duR_impl _ _ _).mono ?_; rw [HY.out]; rintro e w' ⟨rfl, rfl⟩)
        | (go_at_call 14; refine (duR_spec _ _ _).mono ?_; rw [HY.out]; rintro e w' ⟨rfl, rfl⟩)
        | (go_at_call 15; refine (dnR_impl _ _ _).mono ?_; rw [HZ.out]; rintro e w' ⟨rfl, rfl⟩)
        | (go_at_call 16; refine (dnR_spec _ _ _).mono ?_; rw [HZ.out]; rintro e w' ⟨rfl, rfl⟩))
      go_ret
      exact ⟨rfl, hl⟩

set_option maxRecDepth 100000 in
theorem lifted (os : Os) (started : os.Started) (H : Type) (enc : TypeId × Value → H) :
    ReturnsInHanded {} Try.checked os 3 .any (Rows.fnFractionsSpec.pre6 enc Try.prog Try.f3 Rows.fnFractionsRow.domain false) (Rows.fnFractionsSpec.post enc Try.prog Try.f3 false true false false) := by
  refine returnsInHanded_of_change (C := Try.checked) own started (by kernel_rfl) Try.func3
    (ChangeSpec.witness6 (enc := enc) (C := Try.checked) false ⟨#[], #[.slice none 0 0], []⟩ 8 (by kernel_rfl) (by kernel_rfl) (by kernel_rfl) (by kernel_rfl)) ?_
  intro W base args ds gs before hval0 hW hcnd _
  have hval : ∀ (j : Nat) t v, Try.f3.params[j]? = some t → args[j]? = some v → Value.okWide Try.prog W .any base t v := hval0
  have hW' := hW
  obtain ⟨p, q, hA0, hV, hpq, hfz, hnd⟩ := hW
  have hA : DataW.TrodAll enc Try.prog W 0 (fun _ => true) true Try.f3.params.toList args.toList ds p := hA0
  have hT := hA
  obtain ⟨rfl, rfl⟩ := trodVars_none hV
  rw [Try.params3] at hA hval
  obtain ⟨v0, vs0, d0, ds0, p0, q0, hargs, rfl, rfl, h0, r0⟩ := trodAll_cons hA
  obtain ⟨rfl, rfl, rfl⟩ := trodAll_nil r0
  obtain rfl : args = #[v0] := by cases args; simp_all
  obtain ⟨A0, n0, c0, rfl, -, hB0⟩ := open_code Try.underlying22 Try.underlying5 (by kernel_rfl) (hval 0 22 v0 rfl rfl) h0
  clear hA0 hval0
  refine (walk W A0 n0 c0 hB0).mono fun e W' ⟨he, hb⟩ => ?_
  subst he
  exact ⟨_, rfl, law_post laidOut hW' hT hpq (by kernel_rfl) (fun _ _ => rfl) rfl rfl rfl Try.underlying4 hb⟩

theorem over : Rows.fnFractionsRow.holds Try.pinned (OpenSpec.ofChange Rows.fnFractionsSpec) :=
  OpenClaim.holds_of_wide 3 Try.f3 rfl rfl rfl rfl rfl rfl rfl ⟨rfl, rfl, rfl, rfl, rfl⟩ rfl rfl rfl rfl rfl (by kernel_rfl) Try.func3 (by kernel_rfl)
    (of_decide_eq_true (by kernel_rfl)) (by unfold Func.isWrapper; first | (rw [if_pos (by decide +kernel)]; kernel_rfl) | (rw [if_neg (by decide +kernel)]; exact ⟨rfl, rfl⟩))
    (fun os started H enc _ => lifted os started H enc)

theorem proved : Rows.FnFractionsSaid :=
  over
end Go.Proofs.Ytkcfhdconmpkdaa.fnFractions
