/- Contracts of chapter 10: the least length for some units. -/
import Derived.Test.YtdbeedfapkfibaaDoorC10d
namespace Go.Proofs.YtdbeedfapkfibaaDoor
open Go.RowKit Go.Shelf
set_option linter.unusedVariables false
set_option linter.unusedSimpArgs false

theorem lfV_max (s a b c u : Int) : max 1 (cd (uon s a b c) u) = lfV s a b c u ∧ (if cd (uon s a b c) u < 1 then 1 else cd (uon s a b c) u) = lfV s a b c u := by
  refine ⟨?_, rfl⟩
  unfold lfV
  split <;> omega
theorem unt_not {u : Int} (h : unt u = false) : u < 1 ∨ (1 ≤ u ∧ 1048576 < u) := by
  have := mt (unt_iff u).2 (by rw [h]; simp)
  omega

set_option maxHeartbeats 2000000 in
theorem lfR_impl (s a b c u : Int) (w : World) (hD : Dcs w) :
    Calls Tryd.prog 24 #[.int .i64 s, .agg #[.int .i64 (a), .int .i64 (b), .int .i64 (c)], .int .i64 u] w fun e w' => e = .returned (.tuple #[.int .i64 (lfR s a b c u).1, .int .i64 (lfR s a b c u).2]) ∧ Gr w w' := by
  have HD := Lib.hid hD
  have HA := Lib.hid (fun W => areErrors_impl a b c W)
  have HS := Lib.hid (fun W => logScale_impl s W)
  clear hD
  rcases lfC_cases s a b c u with ⟨h1, e⟩ | ⟨h1, h2, e⟩ | ⟨h1, h2, h3, e⟩ | h
  · have HR := Lib.hid (lfR_no s a b c u (by omega))
    rw [e] at HR
    rw [h1] at HA
    clear h1 e
    go_enter Tryd.func24, Tryd.ntmps24
    go_wp2_with (go_at_call 26; refine (HA.out _).mono ?_; rintro e w' ⟨rfl, kk, os, rfl⟩)
    go_ret2
    exact ⟨ret_two (by rw [HR.out]) (by rw [HR.out]), (by repeat (first | with_reducible exact Gr.refl _ | with_reducible refine Gr.alloc ?_ _ | with_reducible refine Gr.gr ?_ _ _ | with_reducible refine Gr.drew ?_ | with_reducible refine Gr.drewN ?_ _))⟩
  · have HR := Lib.hid (lfR_no s a b c u (by omega))
    rw [e] at HR
    rw [h1] at HA
    rw [h2] at HS
    clear h1 h2 e
    go_enter Tryd.func24, Tryd.ntmps24
    go_wp2_with (first | (go_at_call 26; refine (HA.out _).mono ?_; rintro e w' ⟨rfl, kk, os, rfl⟩) | (go_at_call 53; refine (HS.out _).mono ?_; rintro e w' ⟨rfl, rfl⟩))
    go_ret2
    exact ⟨ret_two (by rw [HR.out]) (by rw [HR.out]), (by repeat (first | with_reducible exact Gr.refl _ | with_reducible refine Gr.alloc ?_ _ | with_reducible refine Gr.gr ?_ _ _ | with_reducible refine Gr.drew ?_ | with_reducible refine Gr.drewN ?_ _))⟩
  · have HR := Lib.hid (lfR_no s a b c u (by omega))
    rw [e] at HR
    rw [h1] at HA
    rw [h2] at HS
    rcases unt_not h3 with h4 | ⟨h4, h5⟩
    all_goals
      clear h1 h2 h3 e
      go_enter Tryd.func24, Tryd.ntmps24
      go_wp2_with (first | (go_at_call 26; refine (HA.out _).mono ?_; rintro e w' ⟨rfl, kk, os, rfl⟩) | (go_at_call 53; refine (HS.out _).mono ?_; rintro e w' ⟨rfl, rfl⟩))
      go_ret2
      exact ⟨ret_two (by rw [HR.out]) (by rw [HR.out]), (by repeat (first | with_reducible exact Gr.refl _ | with_reducible refine Gr.alloc ?_ _ | with_reducible refine Gr.gr ?_ _ _ | with_reducible refine Gr.drew ?_ | with_reducible refine Gr.drewN ?_ _))⟩
  · have h' : er a b c = true ∧ lsc s = true ∧ unt u = true := by
      rcases h with ⟨h1, h2, h3, -⟩ | ⟨h1, h2, h3, -⟩ <;> exact ⟨h1, h2, h3⟩
    obtain ⟨h1, h2, h3⟩ := h'
    have HU := Lib.hid (fun W hD => unitsOfOne_any s a b c W hD h1 h2)
    have hb := uon_bd s a b c h1
    obtain ⟨u1, u2⟩ := (unt_iff u).1 h3
    have HC := Lib.hid (fun W => quotientUp_any (uon s a b c) u W (by omega) (by omega) (by omega) (by omega) (by omega))
    have HM := Lib.hid (fun W => max_any (cd (uon s a b c) u) 1 W)
    rw [(lfV_max s a b c u).2] at HM
    have HL := Lib.hid (fun W => isLength_impl (lfV s a b c u) W)
    have hv := lfV_one s a b c u
    rw [h1] at HA
    rw [h2] at HS
    rcases h with ⟨-, -, -, h4, e⟩ | ⟨-, -, -, h4, e⟩
    · have HR := Lib.hid (lfR_no s a b c u (by omega))
      rw [e] at HR
      rw [show ln (lfV s a b c u) = false by cases hh : ln (lfV s a b c u); { rfl }; { have := (ln_iff _).1 hh; omega }] at HL
      generalize lfV s a b c u = V at *
      generalize cd (uon s a b c) u = T at *
      generalize uon s a b c = R at *
      clear h1 h2 h3 e
      go_enter Tryd.func24, Tryd.ntmps24
      go_wp2_with (first
        | (go_at_call 26; refine (HA.out _).mono ?_; rintro e w' ⟨rfl, kk, os, rfl⟩)
        | (go_at_call 53; refine (HS.out _).mono ?_; rintro e w' ⟨rfl, rfl⟩)
        | (go_at_call 56; refine (HU.out _ (HD.out.gr (by repeat (first | with_reducible exact Gr.refl _ | with_reducible refine Gr.alloc ?_ _ | with_reducible refine Gr.gr ?_ _ _ | with_reducible refine Gr.drew ?_ | with_reducible refine Gr.drewN ?_ _)))).mono ?_; rintro e w' ⟨rfl, kk, os, rfl⟩)
        | (go_at_call 55; refine (HC.out _).mono ?_; rintro e w' ⟨rfl, rfl⟩)
        | (go_at_call 64; refine (HM.out _).mono ?_; rintro e w' ⟨rfl, rfl⟩)
        | (go_at_call 54; refine (HL.out _).mono ?_; rintro e w' ⟨rfl, rfl⟩))
      go_ret2
      exact ⟨ret_two (by rw [HR.out]) (by rw [HR.out]), (by repeat (first | with_reducible exact Gr.refl _ | with_reducible refine Gr.alloc ?_ _ | with_reducible refine Gr.gr ?_ _ _ | with_reducible refine Gr.drew ?_ | with_reducible refine Gr.drewN ?_ _))⟩
    · have HR := Lib.hid (lfR_ok s a b c u e)
      rw [show ln (lfV s a b c u) = true from (ln_iff _).2 ⟨hv, h4⟩] at HL
      generalize lfV s a b c u = V at *
      generalize cd (uon s a b c) u = T at *
      generalize uon s a b c = R at *
      clear h1 h2 h3 e
      go_enter Tryd.func24, Tryd.ntmps24
      go_wp2_with (first
        | (go_at_call 26; refine (HA.out _).mono ?_; rintro e w' ⟨rfl, kk, os, rfl⟩)
        | (go_at_call 53; refine (HS.out _).mono ?_; rintro e w' ⟨rfl, rfl⟩)
        | (go_at_call 56; refine (HU.out _ (HD.out.gr (by repeat (first | with_reducible exact Gr.refl _ | with_reducible refine Gr.alloc ?_ _ | with_reducible refine Gr.gr ?_ _ _ | with_reducible refine Gr.drew ?_ | with_reducible refine Gr.drewN ?_ _)))).mono ?_; rintro e w' ⟨rfl, kk, os, rfl⟩)
        | (go_at_call 55; refine (HC.out _).mono ?_; rintro e w' ⟨rfl, rfl⟩)
        | (go_at_call 64; refine (HM.out _).mono ?_; rintro e w' ⟨rfl, rfl⟩)
        | (go_at_call 54; refine (HL.out _).mono ?_; rintro e w' ⟨rfl, rfl⟩))
      go_ret2
      exact ⟨ret_two (by rw [HR.out]) (by rw [HR.out]), (by repeat (first | with_reducible exact Gr.refl _ | with_reducible refine Gr.alloc ?_ _ | with_reducible refine Gr.gr ?_ _ _ | with_reducible refine Gr.drew ?_ | with_reducible refine Gr.drewN ?_ _))⟩

set_option maxHeartbeats 2000000 in
theorem lfR_spec (s a b c u : Int) (w : World) :
    Calls Tryd.prog 25 #[.int .i64 s, .agg #[.int .i64 (a), .int .i64 (b), .int .i64 (c)], .int .i64 u] w fun e w' => e = .returned (.tuple #[.int .i64 (lfR s a b c u).1, .int .i64 (lfR s a b c u).2]) ∧ Gr w w' := by
  have HA := Lib.hid (fun W => areErrors_spec a b c W)
  have HS := Lib.hid (fun W => logScale_spec s W)
  have HI := Lib.hid (fun W => in_any u 1 1048576 W)
  rw [show decide (1 ≤ u ∧ u ≤ 1048576) = unt u from rfl] at HI
  rcases lfC_cases s a b c u with ⟨h1, e⟩ | ⟨h1, h2, e⟩ | ⟨h1, h2, h3, e⟩ | h
  · have HR := Lib.hid (lfR_no s a b c u (by omega))
    rw [e] at HR
    rw [h1] at HA
    clear h1 e
    go_enter Tryd.func25, Tryd.ntmps25
    go_wp2_with (go_at_call 57; refine (HA.out _).mono ?_; rintro e w' ⟨rfl, kk, os, rfl⟩)
    go_ret2
    exact ⟨ret_two (by rw [HR.out]) (by rw [HR.out]), (by repeat (first | with_reducible exact Gr.refl _ | with_reducible refine Gr.alloc ?_ _ | with_reducible refine Gr.gr ?_ _ _ | with_reducible refine Gr.drew ?_ | with_reducible refine Gr.drewN ?_ _))⟩
  · have HR := Lib.hid (lfR_no s a b c u (by omega))
    rw [e] at HR
    rw [h1] at HA
    rw [h2] at HS
    clear h1 h2 e
    go_enter Tryd.func25, Tryd.ntmps25
    go_wp2_with (first | (go_at_call 57; refine (HA.out _).mono ?_; rintro e w' ⟨rfl, kk, os, rfl⟩) | (go_at_call 58; refine (HS.out _).mono ?_; rintro e w' ⟨rfl, rfl⟩))
    go_ret2
    exact ⟨ret_two (by rw [HR.out]) (by rw [HR.out]), (by repeat (first | with_reducible exact Gr.refl _ | with_reducible refine Gr.alloc ?_ _ | with_reducible refine Gr.gr ?_ _ _ | with_reducible refine Gr.drew ?_ | with_reducible refine Gr.drewN ?_ _))⟩
  · have HR := Lib.hid (lfR_no s a b c u (by omega))
    rw [e] at HR
    rw [h1] at HA
    rw [h2] at HS
    rw [h3] at HI
    clear h1 h2 h3 e
    go_enter Tryd.func25, Tryd.ntmps25
    go_wp2_with (first | (go_at_call 57; refine (HA.out _).mono ?_; rintro e w' ⟨rfl, kk, os, rfl⟩) | (go_at_call 58; refine (HS.out _).mono ?_; rintro e w' ⟨rfl, rfl⟩) | (go_at_call 65; refine (HI.out _).mono ?_; rintro e w' ⟨rfl, rfl⟩))
    go_ret2
    exact ⟨ret_two (by rw [HR.out]) (by rw [HR.out]), (by repeat (first | with_reducible exact Gr.refl _ | with_reducible refine Gr.alloc ?_ _ | with_reducible refine Gr.gr ?_ _ _ | with_reducible refine Gr.drew ?_ | with_reducible refine Gr.drewN ?_ _))⟩
  · have h' : er a b c = true ∧ lsc s = true ∧ unt u = true := by
      rcases h with ⟨h1, h2, h3, -⟩ | ⟨h1, h2, h3, -⟩ <;> exact ⟨h1, h2, h3⟩
    obtain ⟨h1, h2, h3⟩ := h'
    have HT := Lib.hid (fun W => total10_spec a b c W h1)
    have HDe := Lib.hid (fun W => decades_spec s W)
    have ht := tot_bd a b c h1
    have hd := dec_bd s
    have hb := uon_bd s a b c h1
    obtain ⟨u1, u2⟩ := (unt_iff u).1 h3
    have HC := Lib.hid (fun W => ceil_any (uon s a b c) u W (by omega) (by omega) (by omega) (by omega) (by omega))
    have HM := Lib.hid (lfV_max s a b c u).1
    have hv := lfV_one s a b c u
    have hun := uon_bd s a b c h1
    have HUN := Lib.hid (show uon s a b c = tot a b c * 1048576 * dec s from rfl)
    rw [h1] at HA
    rw [h2] at HS
    rw [h3] at HI
    rcases h with ⟨-, -, -, h4, e⟩ | ⟨-, -, -, h4, e⟩
    · have HR := Lib.hid (lfR_no s a b c u (by omega))
      rw [e] at HR
      rw [← HM.out] at h4
      generalize lfV s a b c u = V at *
      generalize cd (uon s a b c) u = T at *
      rw [HUN.out] at HC hun
      generalize uon s a b c = R at *
      generalize tot a b c = t at *
      generalize dec s = k at *
      clear h1 h2 h3 e HUN hb hv
      go_enter Tryd.func25, Tryd.ntmps25
      go_wp2_with (first
        | (go_at_call 57; refine (HA.out _).mono ?_; rintro e w' ⟨rfl, kk, os, rfl⟩)
        | (go_at_call 58; refine (HS.out _).mono ?_; rintro e w' ⟨rfl, rfl⟩)
        | (go_at_call 65; refine (HI.out _).mono ?_; rintro e w' ⟨rfl, rfl⟩)
        | (go_at_call 62; refine (HT.out _).mono ?_; rintro e w' ⟨rfl, kk, os, rfl⟩)
        | (go_at_call 67; refine (HDe.out _).mono ?_; rintro e w' ⟨rfl, rfl⟩)
        | (go_at_call 66; refine (HC.out _).mono ?_; rintro e w' ⟨rfl, rfl⟩))
      go_ret2
      exact ⟨ret_two (by rw [HR.out]) (by rw [HR.out]), (by repeat (first | with_reducible exact Gr.refl _ | with_reducible refine Gr.alloc ?_ _ | with_reducible refine Gr.gr ?_ _ _ | with_reducible refine Gr.drew ?_ | with_reducible refine Gr.drewN ?_ _))⟩
    · have HR := Lib.hid (lfR_ok s a b c u e)
      rw [← HM.out] at h4 HR
      generalize lfV s a b c u = V at *
      generalize cd (uon s a b c) u = T at *
      rw [HUN.out] at HC hun
      generalize uon s a b c = R at *
      generalize tot a b c = t at *
      generalize dec s = k at *
      clear h1 h2 h3 e HUN hb hv
      go_enter Tryd.func25, Tryd.ntmps25
      go_wp2_with (first
        | (go_at_call 57; refine (HA.out _).mono ?_; rintro e w' ⟨rfl, kk, os, rfl⟩)
        | (go_at_call 58; refine (HS.out _).mono ?_; rintro e w' ⟨rfl, rfl⟩)
        | (go_at_call 65; refine (HI.out _).mono ?_; rintro e w' ⟨rfl, rfl⟩)
        | (go_at_call 62; refine (HT.out _).mono ?_; rintro e w' ⟨rfl, kk, os, rfl⟩)
        | (go_at_call 67; refine (HDe.out _).mono ?_; rintro e w' ⟨rfl, rfl⟩)
        | (go_at_call 66; refine (HC.out _).mono ?_; rintro e w' ⟨rfl, rfl⟩))
      go_ret2
      exact ⟨ret_two (by rw [HR.out]) (by rw [HR.out]), (by repeat (first | with_reducible exact Gr.refl _ | with_reducible refine Gr.alloc ?_ _ | with_reducible refine Gr.gr ?_ _ _ | with_reducible refine Gr.drew ?_ | with_reducible refine Gr.drewN ?_ _))⟩
end Go.Proofs.YtdbeedfapkfibaaDoor
