/- Contracts of chapter 2: relative errors. -/
import Derived.Test.YtdbeedfapkfibaaGreatDoorC02d
import Derived.Test.YtdbeedfapkfibaaGreatDoor1A
import Derived.Test.YtdbeedfapkfibaaGreatDoorMA
namespace Go.Proofs.YtdbeedfapkfibaaGreatDoor
open Go.RowKit
set_option linter.unusedVariables false
set_option linter.unusedSimpArgs false

theorem ratio_any (a s b t m c : Int) (w : World) (a1 : 1000 ≤ a) (a2 : a ≤ 9999) (b1 : 1000 ≤ b) (b2 : b ≤ 9999) (s1 : -30 ≤ s) (s2 : s ≤ 30) (t1 : -30 ≤ t) (t2 : t ≤ 30)
    (hm : (if 8 < s - t then 8 else s - t) = m) (hc : (if -8 < m then m else -8) = c) (c1 : -8 ≤ c) (c2 : c ≤ 8) :
    Calls Tryz.prog 87 #[.agg #[.int .i64 a, .int .i64 s], .agg #[.int .i64 b, .int .i64 t]] w fun e w' => e = .returned (.tuple #[.int .i64 (raR a b c).1, .int .i64 (raR a b c).2]) ∧ Gr w w' := by
  have HM := Lib.hid hm
  have HC := Lib.hid hc
  clear hm hc
  by_cases h : c < 0
  · have H := Lib.hid (raR_neg a b c h)
    have hb := mul_8 b (-c).toNat (by omega) b1 b2
    have hp := p10_8 (-c).toNat (by omega)
    have q1 : IntKind.i64.wrap (-c) = -c := IntWalk.i64_in _ (by omega)
    have q2 : IntKind.i64.wrap (b * p10 (-c).toNat) = b * p10 (-c).toNat := IntWalk.i64_in _ (by omega)
    go_enter Tryz.func87, Tryz.ntmps87
    go_wp2_with (first
      | (go_at_call 102; refine (min_any _ _ _).mono ?_; rw [HM.out]; rintro e w' ⟨rfl, rfl⟩)
      | (go_at_call 101; refine (max_any _ _ _).mono ?_; rw [HC.out]; rintro e w' ⟨rfl, rfl⟩))
    ((first | refine region_gr_on (by kernel_rfl) (by kernel_rfl) ?_ | refine region_gr (by kernel_rfl) (by kernel_rfl) ?_); (repeat (quiet_step (refine Calls.gr_same (tenTo_any _ _ ?_ ?_) <;> omega))); refine wpQuiet_nil ?_; intro _ hw'; obtain ⟨⟨kq, oq⟩, hw''⟩ := hw'; subst hw'')
    go_wp2
    go_ret2
    exact ⟨ret_two (by rw [H.out]) (by rw [H.out]), (by repeat (first | with_reducible exact Gr.refl _ | with_reducible refine Gr.alloc ?_ _ | with_reducible refine Gr.gr ?_ _ _ | with_reducible refine Gr.drew ?_ | with_reducible refine Gr.drewN ?_ _))⟩
  · have H := Lib.hid (raR_pos a b c (by omega))
    have hb := mul_8 a c.toNat (by omega) a1 a2
    have hp := p10_8 c.toNat (by omega)
    have q2 : IntKind.i64.wrap (a * p10 c.toNat) = a * p10 c.toNat := IntWalk.i64_in _ (by omega)
    go_enter Tryz.func87, Tryz.ntmps87
    go_wp2_with (first
      | (go_at_call 102; refine (min_any _ _ _).mono ?_; rw [HM.out]; rintro e w' ⟨rfl, rfl⟩)
      | (go_at_call 101; refine (max_any _ _ _).mono ?_; rw [HC.out]; rintro e w' ⟨rfl, rfl⟩))
    ((first | refine region_gr_on (by kernel_rfl) (by kernel_rfl) ?_ | refine region_gr (by kernel_rfl) (by kernel_rfl) ?_); (repeat (quiet_step (refine Calls.gr_same (tenTo_any _ _ ?_ ?_) <;> omega))); refine wpQuiet_nil ?_; intro _ hw'; obtain ⟨⟨kq, oq⟩, hw''⟩ := hw'; subst hw'')
    go_wp2
    go_ret2
    exact ⟨ret_two (by rw [H.out]) (by rw [H.out]), (by repeat (first | with_reducible exact Gr.refl _ | with_reducible refine Gr.alloc ?_ _ | with_reducible refine Gr.gr ?_ _ _ | with_reducible refine Gr.drew ?_ | with_reducible refine Gr.drewN ?_ _))⟩

theorem reR_impl (a s b t : Int) (w : World) :
    Calls Tryz.prog 60 #[.agg #[.int .i64 a, .int .i64 s], .agg #[.int .i64 b, .int .i64 t]] w fun e w' => e = .returned (.tuple #[.int .i64 (reR a s b t).1, .int .i64 (reR a s b t).2]) ∧ Gr w w' := by
  rcases two_cases a s b t with ⟨h0, h1, h2⟩ | ⟨hn, hc⟩
  · obtain ⟨⟨a1, a2⟩, s1, s2⟩ := (fg_iff a s).1 h1
    obtain ⟨⟨b1, b2⟩, t1, t2⟩ := (fg_iff b t).1 h2
    have H1 := reR_hi a s b t h1 h2
    have H2 := reR_lo a s b t h1 h2
    have E1 := Lib.hid h1
    have E2 := Lib.hid h2
    clear h0 h1 h2
    obtain ⟨m, c, hm, hc, c1, c2, hcc⟩ := clamp_ex (s - t)
    obtain ⟨hV1, hV2⟩ := raR_reV a s b t c a1 a2 b1 b2 hcc
    obtain ⟨⟨n1, n2⟩, d1, d2⟩ := raR_bd a b c a1 a2 b1 b2 c1 c2
    have hr := ratio_any a s b t m c (a1 := a1) (a2 := a2) (b1 := b1) (b2 := b2) (s1 := s1) (s2 := s2) (t1 := t1) (t2 := t2) (hm := hm) (hc := hc) (c1 := c1) (c2 := c2)
    generalize (raR a b c).1 = n at *
    generalize (raR a b c).2 = d at *
    have HA := Lib.hid (max_abs n d)
    have hcd := cd_small ((n - d).natAbs * 1000000) d (by omega) (by omega) 1000000000000000000 (by omega) (by omega)
    rw [reE_cd] at hV1 hV2
    clear hm hc hcc
    by_cases h9 : 9000000 < cd ((n - d).natAbs * 1000000) d
    · have H := Lib.hid (H1 (hV1.2 h9))
      clear H1 H2 hV1 hV2
      go_enter Tryz.func60, Tryz.ntmps60
      go_wp2_with (first
        | (go_at_call 22; refine (isFigure_impl _ _ _).mono ?_; (first | rw [E1.out] | rw [E2.out]); rintro e w' ⟨rfl, k, os, rfl⟩)
        | (go_at_call 87; refine (hr _).mono ?_; rintro e w' ⟨rfl, k, os, rfl⟩)
        | (go_at_call 88; refine (distance_any _ _ _ (by omega) (by omega) (by omega) (by omega)).mono ?_; rintro e w' ⟨rfl, rfl⟩)
        | (go_at_call 41; refine (quotientUp_any _ _ _ (by omega) (by omega) (by omega) (by omega) (by omega)).mono ?_; rintro e w' ⟨rfl, rfl⟩))
      go_ret2
      exact ⟨ret_two (by rw [H.out]) (by rw [H.out]), (by repeat (first | with_reducible exact Gr.refl _ | with_reducible refine Gr.alloc ?_ _ | with_reducible refine Gr.gr ?_ _ _ | with_reducible refine Gr.drew ?_ | with_reducible refine Gr.drewN ?_ _))⟩
    · have hle := Int.not_lt.1 (fun h => h9 (hV1.1 h))
      have H := Lib.hid (H2 hle)
      have HV := Lib.hid (hV2 hle)
      clear H1 H2 hV1 hV2
      go_enter Tryz.func60, Tryz.ntmps60
      go_wp2_with (first
        | (go_at_call 22; refine (isFigure_impl _ _ _).mono ?_; (first | rw [E1.out] | rw [E2.out]); rintro e w' ⟨rfl, k, os, rfl⟩)
        | (go_at_call 87; refine (hr _).mono ?_; rintro e w' ⟨rfl, k, os, rfl⟩)
        | (go_at_call 88; refine (distance_any _ _ _ (by omega) (by omega) (by omega) (by omega)).mono ?_; rintro e w' ⟨rfl, rfl⟩)
        | (go_at_call 41; refine (quotientUp_any _ _ _ (by omega) (by omega) (by omega) (by omega) (by omega)).mono ?_; rintro e w' ⟨rfl, rfl⟩))
      go_ret2
      exact ⟨ret_two (by rw [H.out, ← HV.out]) (by rw [H.out]), (by repeat (first | with_reducible exact Gr.refl _ | with_reducible refine Gr.alloc ?_ _ | with_reducible refine Gr.gr ?_ _ _ | with_reducible refine Gr.drew ?_ | with_reducible refine Gr.drewN ?_ _))⟩
  · have H := Lib.hid (reR_no a s b t hn)
    clear hn
    rcases hc with h | ⟨h, h'⟩
    · have E1 := Lib.hid h
      clear h
      go_enter Tryz.func60, Tryz.ntmps60
      go_wp2_with (go_at_call 22; refine (isFigure_impl _ _ _).mono ?_; rw [E1.out]; rintro e w' ⟨rfl, k, os, rfl⟩)
      go_ret2
      exact ⟨ret_two (by rw [H.out]) (by rw [H.out]), (by repeat (first | with_reducible exact Gr.refl _ | with_reducible refine Gr.alloc ?_ _ | with_reducible refine Gr.gr ?_ _ _ | with_reducible refine Gr.drew ?_ | with_reducible refine Gr.drewN ?_ _))⟩
    · have E1 := Lib.hid h
      have E2 := Lib.hid h'
      clear h h'
      go_enter Tryz.func60, Tryz.ntmps60
      go_wp2_with (go_at_call 22; refine (isFigure_impl _ _ _).mono ?_; (first | rw [E1.out] | rw [E2.out]); rintro e w' ⟨rfl, k, os, rfl⟩)
      go_ret2
      exact ⟨ret_two (by rw [H.out]) (by rw [H.out]), (by repeat (first | with_reducible exact Gr.refl _ | with_reducible refine Gr.alloc ?_ _ | with_reducible refine Gr.gr ?_ _ _ | with_reducible refine Gr.drew ?_ | with_reducible refine Gr.drewN ?_ _))⟩

/-- What the model reckons. -/
theorem error_spec (a s b t : Int) (w : World) (a1 : 1000 ≤ a) (a2 : a ≤ 9999) (b1 : 1000 ≤ b) (b2 : b ≤ 9999) (s1 : -30 ≤ s) (s2 : s ≤ 30) (t1 : -30 ≤ t) (t2 : t ≤ 30) :
    Calls Tryz.prog 92 #[.agg #[.int .i64 a, .int .i64 s], .agg #[.int .i64 b, .int .i64 t]] w fun e w' => e = .returned (.int .i64 (reV a s b t)) ∧ Gr w w' := by
  by_cases h1 : 1 < s - t
  · have H := Lib.hid (show reV a s b t = 9000001 by unfold reV; rw [if_pos h1])
    go_enter Tryz.func92, Tryz.ntmps92
    go_wp2
    go_ret
    exact ⟨ret_int (by rw [H.out]), (by repeat (first | with_reducible exact Gr.refl _ | with_reducible refine Gr.alloc ?_ _ | with_reducible refine Gr.gr ?_ _ _ | with_reducible refine Gr.drew ?_ | with_reducible refine Gr.drewN ?_ _))⟩
  by_cases h2 : s - t < -6
  · have H := Lib.hid (show reV a s b t = 1000000 by unfold reV; rw [if_neg h1, if_pos h2])
    go_enter Tryz.func92, Tryz.ntmps92
    go_wp2
    go_ret
    exact ⟨ret_int (by rw [H.out]), (by repeat (first | with_reducible exact Gr.refl _ | with_reducible refine Gr.alloc ?_ _ | with_reducible refine Gr.gr ?_ _ _ | with_reducible refine Gr.drew ?_ | with_reducible refine Gr.drewN ?_ _))⟩
  by_cases h3 : 0 < s - t
  · have H := Lib.hid (show reV a s b t = reE (a * p10 (s - t).toNat) b by unfold reV; rw [if_neg h1, if_neg h2, if_pos h3])
    obtain ⟨n1, n2⟩ := mul_8 a (s - t).toNat (by omega) a1 a2
    have hp := p10_8 (s - t).toNat (by omega)
    have HE := Lib.hid (reE_cd (a * p10 (s - t).toNat) b)
    have HX := Lib.hid (Int.mul_comm 1000000 ((a * p10 (s - t).toNat - b).natAbs : Int))
    have ha : ((a * p10 (s - t).toNat - b).natAbs : Int) ≤ 1000000000000 := by omega
    have ha' : 0 ≤ ((a * p10 (s - t).toNat - b).natAbs : Int) := by omega
    go_enter Tryz.func92, Tryz.ntmps92
    go_wp2
    go_quiet (fail)
    go_wp2_with (first
      | (go_at_call 36; refine (ten_any _ _ (by omega) (by omega)).mono ?_; rintro e w' ⟨rfl, rfl⟩)
      | (go_at_call 103; refine (abs_any _ _ (by omega) (by omega)).mono ?_; rintro e w' ⟨rfl, rfl⟩)
      | (go_at_call 42; refine (ceil_any _ _ _ (by omega) (by omega) (by omega) (by omega) (by omega)).mono ?_; rintro e w' ⟨rfl, rfl⟩))
    go_ret
    exact ⟨ret_int (by rw [H.out, HE.out, HX.out]), (by repeat (first | with_reducible exact Gr.refl _ | with_reducible refine Gr.alloc ?_ _ | with_reducible refine Gr.gr ?_ _ _ | with_reducible refine Gr.drew ?_ | with_reducible refine Gr.drewN ?_ _))⟩
  · have H := Lib.hid (show reV a s b t = reE a (b * p10 (t - s).toNat) by unfold reV; rw [if_neg h1, if_neg h2, if_neg h3])
    obtain ⟨n1, n2⟩ := mul_8 b (t - s).toNat (by omega) b1 b2
    have hp := p10_8 (t - s).toNat (by omega)
    have HE := Lib.hid (reE_cd a (b * p10 (t - s).toNat))
    have HX := Lib.hid (Int.mul_comm 1000000 ((a - b * p10 (t - s).toNat).natAbs : Int))
    have HT := Lib.hid (show -(s - t) = t - s by omega)
    have ha : ((a - b * p10 (t - s).toNat).natAbs : Int) ≤ 1000000000000 := by omega
    have ha' : 0 ≤ ((a - b * p10 (t - s).toNat).natAbs : Int) := by omega
    go_enter Tryz.func92, Tryz.ntmps92
    go_wp2
    go_quiet (fail)
    go_wp2_with (first
      | (go_at_call 36; rw [HT.out]; refine (ten_any _ _ (by omega) (by omega)).mono ?_; rintro e w' ⟨rfl, rfl⟩)
      | (go_at_call 103; refine (abs_any _ _ (by omega) (by omega)).mono ?_; rintro e w' ⟨rfl, rfl⟩)
      | (go_at_call 42; refine (ceil_any _ _ _ (by omega) (by omega) (by omega) (by omega) (by omega)).mono ?_; rintro e w' ⟨rfl, rfl⟩))
    go_ret
    exact ⟨ret_int (by rw [H.out, HE.out, HX.out]), (by repeat (first | with_reducible exact Gr.refl _ | with_reducible refine Gr.alloc ?_ _ | with_reducible refine Gr.gr ?_ _ _ | with_reducible refine Gr.drew ?_ | with_reducible refine Gr.drewN ?_ _))⟩

theorem reR_spec (a s b t : Int) (w : World) :
    Calls Tryz.prog 67 #[.agg #[.int .i64 a, .int .i64 s], .agg #[.int .i64 b, .int .i64 t]] w fun e w' => e = .returned (.tuple #[.int .i64 (reR a s b t).1, .int .i64 (reR a s b t).2]) ∧ Gr w w' := by
  rcases two_cases a s b t with ⟨h0, h1, h2⟩ | ⟨hn, hc⟩
  · obtain ⟨⟨a1, a2⟩, s1, s2⟩ := (fg_iff a s).1 h1
    obtain ⟨⟨b1, b2⟩, t1, t2⟩ := (fg_iff b t).1 h2
    have H1 := reR_hi a s b t h1 h2
    have H2 := reR_lo a s b t h1 h2
    have E0 := Lib.hid h0
    have he := error_spec a s b t (a1 := a1) (a2 := a2) (b1 := b1) (b2 := b2) (s1 := s1) (s2 := s2) (t1 := t1) (t2 := t2)
    clear h0 h1 h2
    by_cases h9 : 9000000 < reV a s b t
    · have H := Lib.hid (H1 h9)
      clear H1 H2
      go_enter Tryz.func67, Tryz.ntmps67
      go_wp2_with (first
        | (go_at_call 65; refine (two_spec _ _ _ _ _).mono ?_; rw [E0.out]; rintro e w' ⟨rfl, k, os, rfl⟩)
        | (go_at_call 92; refine (he _).mono ?_; rintro e w' ⟨rfl, k, os, rfl⟩))
      go_ret2
      exact ⟨ret_two (by rw [H.out]) (by rw [H.out]), (by repeat (first | with_reducible exact Gr.refl _ | with_reducible refine Gr.alloc ?_ _ | with_reducible refine Gr.gr ?_ _ _ | with_reducible refine Gr.drew ?_ | with_reducible refine Gr.drewN ?_ _))⟩
    · have H := Lib.hid (H2 (by omega))
      clear H1 H2
      go_enter Tryz.func67, Tryz.ntmps67
      go_wp2_with (first
        | (go_at_call 65; refine (two_spec _ _ _ _ _).mono ?_; rw [E0.out]; rintro e w' ⟨rfl, k, os, rfl⟩)
        | (go_at_call 92; refine (he _).mono ?_; rintro e w' ⟨rfl, k, os, rfl⟩))
      go_ret2
      exact ⟨ret_two (by rw [H.out]) (by rw [H.out]), (by repeat (first | with_reducible exact Gr.refl _ | with_reducible refine Gr.alloc ?_ _ | with_reducible refine Gr.gr ?_ _ _ | with_reducible refine Gr.drew ?_ | with_reducible refine Gr.drewN ?_ _))⟩
  · have H := Lib.hid (reR_no a s b t hn)
    have E0 := Lib.hid hn
    clear hn hc
    go_enter Tryz.func67, Tryz.ntmps67
    go_wp2_with (go_at_call 65; refine (two_spec _ _ _ _ _).mono ?_; rw [E0.out]; rintro e w' ⟨rfl, k, os, rfl⟩)
    go_ret2
    exact ⟨ret_two (by rw [H.out]) (by rw [H.out]), (by repeat (first | with_reducible exact Gr.refl _ | with_reducible refine Gr.alloc ?_ _ | with_reducible refine Gr.gr ?_ _ _ | with_reducible refine Gr.drew ?_ | with_reducible refine Gr.drewN ?_ _))⟩
end Go.Proofs.YtdbeedfapkfibaaGreatDoor
