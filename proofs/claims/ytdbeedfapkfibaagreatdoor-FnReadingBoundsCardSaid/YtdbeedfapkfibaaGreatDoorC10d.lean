/- Contracts of chapter 10: units of errors, the digits that can be read, needed lengths; the program's table of decades is laid. -/
import Derived.Test.YtdbeedfapkfibaaGreatDoorC10b
import Derived.Test.YtdbeedfapkfibaaGreatDoorC05c
import Derived.Test.YtdbeedfapkfibaaGreatDoor1A
namespace Go.Proofs.YtdbeedfapkfibaaGreatDoor
open Go.RowKit Go.Shelf
set_option linter.unusedVariables false
set_option linter.unusedSimpArgs false

theorem logScale_impl (s : Int) (w : World) :
    Calls Tryz.prog 56 #[.int .i64 s] w fun e w' => e = .returned (.bool (lsc s)) ∧ w = w' := by
  have HS := Lib.hid (fun W => isScale_impl s W)
  have HR := Lib.hid (show lsc s = (sc s && decide (s ≠ 5)) from rfl)
  generalize lsc s = R at *
  generalize sc s = x at *
  by_cases h5 : s = 5
  · subst h5
    cases x
    all_goals
      go_enter Tryz.func56, Tryz.ntmps56
      go_wp2_with (go_at_call 85; refine (HS.out _).mono ?_; rintro e w' ⟨rfl, rfl⟩)
      go_ret
      exact ⟨ret_bool (by rw [HR.out]; rfl), rfl⟩
  · cases x
    all_goals
      go_enter Tryz.func56, Tryz.ntmps56
      go_wp2_with (go_at_call 85; refine (HS.out _).mono ?_; rintro e w' ⟨rfl, rfl⟩)
      go_ret
      exact ⟨ret_bool (by rw [HR.out]; simp [h5]), rfl⟩
theorem logScale_spec (s : Int) (w : World) :
    Calls Tryz.prog 62 #[.int .i64 s] w fun e w' => e = .returned (.bool (lsc s)) ∧ w = w' := by
  have HS := Lib.hid (fun W => isScale_spec s W)
  have HR := Lib.hid (show lsc s = (sc s && decide (s ≠ 5)) from rfl)
  generalize lsc s = R at *
  generalize sc s = x at *
  by_cases h5 : s = 5
  · subst h5
    cases x
    all_goals
      go_enter Tryz.func62, Tryz.ntmps62
      go_wp2_with (go_at_call 89; refine (HS.out _).mono ?_; rintro e w' ⟨rfl, rfl⟩)
      go_ret
      exact ⟨ret_bool (by rw [HR.out]; rfl), rfl⟩
  · cases x
    all_goals
      go_enter Tryz.func62, Tryz.ntmps62
      go_wp2_with (go_at_call 89; refine (HS.out _).mono ?_; rintro e w' ⟨rfl, rfl⟩)
      go_ret
      exact ⟨ret_bool (by rw [HR.out]; simp [h5]), rfl⟩

theorem dcs_at10 {w : World} (h : Dcs w) (s : Int) (hs : 0 ≤ s ∧ s ≤ 4) : w.cell? ⟨0, s.toNat, none⟩ = some (.int .i64 (dec s)) ∧ 0 < w.heap.size := by
  have hc := h s.toNat (by omega)
  rw [show ((s.toNat : Nat) : Int) = s by omega] at hc
  exact ⟨hc, World.block_lt_of_cell? w _ hc⟩

set_option maxHeartbeats 2000000 in
theorem unitsOfOne_any (s a b c : Int) (w : World) (hD : Dcs w) (h : er a b c = true) (hs : lsc s = true) :
    Calls Tryz.prog 58 #[.agg #[.int .i64 (a), .int .i64 (b), .int .i64 (c)], .int .i64 s] w fun e w' => e = .returned (.int .i64 (uon s a b c)) ∧ Gr w w' := by
  have HT := Lib.hid (fun W => total10_impl a b c W h)
  have ht := tot_bd a b c h
  have hs4 := (lsc_iff s).1 hs
  have hd := dec_bd s
  have HR := Lib.hid (show uon s a b c = tot a b c * 1048576 * dec s from rfl)
  have hb := uon_bd s a b c h
  obtain ⟨c0, l0⟩ := dcs_at10 hD s hs4
  obtain ⟨s1, s2⟩ := hs4
  have s3 : s < 6 := by omega
  generalize uon s a b c = R at *
  generalize tot a b c = t at *
  generalize dec s = k at *
  have hm : -9223372036854775808 ≤ t * 1048576 * k ∧ t * 1048576 * k ≤ 9223372036854775807 := by have := HR.out; omega
  clear h hs hD
  go_enter Tryz.func58, Tryz.ntmps58
  go_wp2_with fail
  ((first | refine region_gr_on (by kernel_rfl) (by kernel_rfl) ?_ | refine region_gr (by kernel_rfl) (by kernel_rfl) ?_); (repeat (quiet_step (exact Calls.gr_of (HT.out _)))); refine wpQuiet_nil ?_; intro _ hw'; obtain ⟨⟨kq, oq⟩, hw''⟩ := hw'; subst hw'')
  go_wp2
  go_ret
  have q1 : IntKind.i64.wrap (t * 1048576) = t * 1048576 := IntWalk.i64_in _ (by omega)
  have q2 : IntKind.i64.wrap (t * 1048576 * k) = t * 1048576 * k := IntWalk.i64_in _ (by omega)
  exact ⟨ret_int (by rw [q1, q2]; exact HR.out.symm), (by repeat (first | with_reducible exact Gr.refl _ | with_reducible refine Gr.alloc ?_ _ | with_reducible refine Gr.gr ?_ _ _ | with_reducible refine Gr.drew ?_ | with_reducible refine Gr.drewN ?_ _))⟩

theorem units10_spec (s l a b c : Int) (w : World) (h : euC s l a b c = 0) :
    Calls Tryz.prog 64 #[.int .i64 s, .int .i64 l, .agg #[.int .i64 (a), .int .i64 (b), .int .i64 (c)]] w fun e w' => e = .returned (.int .i64 (euV s l a b c)) ∧ Gr w w' := by
  rcases euC_cases s l a b c with ⟨-, e⟩ | ⟨-, -, e⟩ | ⟨-, -, -, e⟩ | ⟨h1, h2, h3, -⟩
  · omega
  · omega
  · omega
  have HT := Lib.hid (fun W => total10_spec a b c W h1)
  have HD := Lib.hid (fun W => decades_spec s W)
  have l1 := (ln_iff l).1 h3
  have ht := tot_bd a b c h1
  have hd := dec_bd s
  have hb := uon_bd s a b c h1
  have HC := Lib.hid (fun W => ceil_any (uon s a b c) l W (by omega) (by omega) (by omega) (by omega) (by omega))
  have HV := Lib.hid (show euV s l a b c = cd (uon s a b c) l from rfl)
  have HR := Lib.hid (show uon s a b c = tot a b c * 1048576 * dec s from rfl)
  rw [← HV.out] at HC
  generalize euV s l a b c = V at *
  rw [HR.out] at HC hb
  generalize uon s a b c = R at *
  generalize tot a b c = t at *
  generalize dec s = k at *
  clear h h1 h2 h3 HV HR
  go_enter Tryz.func64, Tryz.ntmps64
  go_wp2_with (first
    | (go_at_call 90; refine (HT.out _).mono ?_; rintro e w' ⟨rfl, kk, os, rfl⟩)
    | (go_at_call 91; refine (HD.out _).mono ?_; rintro e w' ⟨rfl, rfl⟩)
    | (go_at_call 42; refine (HC.out _).mono ?_; rintro e w' ⟨rfl, rfl⟩))
  go_ret
  exact ⟨rfl, (by repeat (first | with_reducible exact Gr.refl _ | with_reducible refine Gr.alloc ?_ _ | with_reducible refine Gr.gr ?_ _ _ | with_reducible refine Gr.drew ?_ | with_reducible refine Gr.drewN ?_ _))⟩

set_option maxHeartbeats 1000000 in
theorem euR_impl (s l a b c : Int) (w : World) (hD : Dcs w) :
    Calls Tryz.prog 30 #[.int .i64 s, .int .i64 l, .agg #[.int .i64 (a), .int .i64 (b), .int .i64 (c)]] w fun e w' => e = .returned (.tuple #[.int .i64 (euR s l a b c).1, .int .i64 (euR s l a b c).2]) ∧ Gr w w' := by
  have HD := Lib.hid hD
  have HA := Lib.hid (fun W => areErrors_impl a b c W)
  have HS := Lib.hid (fun W => logScale_impl s W)
  have HL := Lib.hid (fun W => isLength_impl l W)
  clear hD
  rcases euC_cases s l a b c with ⟨h1, e⟩ | ⟨h1, h2, e⟩ | ⟨h1, h2, h3, e⟩ | ⟨h1, h2, h3, e⟩
  · have HR := Lib.hid (euR_no s l a b c (by omega))
    rw [e] at HR
    rw [h1] at HA
    clear h1 e
    go_enter Tryz.func30, Tryz.ntmps30
    go_wp2_with (go_at_call 39; refine (HA.out _).mono ?_; rintro e w' ⟨rfl, kk, os, rfl⟩)
    go_ret2
    exact ⟨ret_two (by rw [HR.out]) (by rw [HR.out]), (by repeat (first | with_reducible exact Gr.refl _ | with_reducible refine Gr.alloc ?_ _ | with_reducible refine Gr.gr ?_ _ _ | with_reducible refine Gr.drew ?_ | with_reducible refine Gr.drewN ?_ _))⟩
  · have HR := Lib.hid (euR_no s l a b c (by omega))
    rw [e] at HR
    rw [h1] at HA
    rw [h2] at HS
    clear h1 h2 e
    go_enter Tryz.func30, Tryz.ntmps30
    go_wp2_with (first | (go_at_call 39; refine (HA.out _).mono ?_; rintro e w' ⟨rfl, kk, os, rfl⟩) | (go_at_call 56; refine (HS.out _).mono ?_; rintro e w' ⟨rfl, rfl⟩))
    go_ret2
    exact ⟨ret_two (by rw [HR.out]) (by rw [HR.out]), (by repeat (first | with_reducible exact Gr.refl _ | with_reducible refine Gr.alloc ?_ _ | with_reducible refine Gr.gr ?_ _ _ | with_reducible refine Gr.drew ?_ | with_reducible refine Gr.drewN ?_ _))⟩
  · have HR := Lib.hid (euR_no s l a b c (by omega))
    rw [e] at HR
    rw [h1] at HA
    rw [h2] at HS
    rw [h3] at HL
    clear h1 h2 h3 e
    go_enter Tryz.func30, Tryz.ntmps30
    go_wp2_with (first | (go_at_call 39; refine (HA.out _).mono ?_; rintro e w' ⟨rfl, kk, os, rfl⟩) | (go_at_call 56; refine (HS.out _).mono ?_; rintro e w' ⟨rfl, rfl⟩) | (go_at_call 57; refine (HL.out _).mono ?_; rintro e w' ⟨rfl, rfl⟩))
    go_ret2
    exact ⟨ret_two (by rw [HR.out]) (by rw [HR.out]), (by repeat (first | with_reducible exact Gr.refl _ | with_reducible refine Gr.alloc ?_ _ | with_reducible refine Gr.gr ?_ _ _ | with_reducible refine Gr.drew ?_ | with_reducible refine Gr.drewN ?_ _))⟩
  · have HR := Lib.hid (euR_ok s l a b c e)
    have HU := Lib.hid (fun W hD => unitsOfOne_any s a b c W hD h1 h2)
    have hb := uon_bd s a b c h1
    have l1 := (ln_iff l).1 h3
    have HC := Lib.hid (fun W => quotientUp_any (uon s a b c) l W (by omega) (by omega) (by omega) (by omega) (by omega))
    rw [show cd (uon s a b c) l = euV s l a b c from rfl] at HC
    rw [h1] at HA
    rw [h2] at HS
    rw [h3] at HL
    generalize euV s l a b c = V at *
    generalize uon s a b c = R at *
    clear h1 h2 h3 e
    go_enter Tryz.func30, Tryz.ntmps30
    go_wp2_with (first
      | (go_at_call 39; refine (HA.out _).mono ?_; rintro e w' ⟨rfl, kk, os, rfl⟩)
      | (go_at_call 56; refine (HS.out _).mono ?_; rintro e w' ⟨rfl, rfl⟩)
      | (go_at_call 57; refine (HL.out _).mono ?_; rintro e w' ⟨rfl, rfl⟩)
      | (go_at_call 58; refine (HU.out _ (HD.out.gr (by repeat (first | with_reducible exact Gr.refl _ | with_reducible refine Gr.alloc ?_ _ | with_reducible refine Gr.gr ?_ _ _ | with_reducible refine Gr.drew ?_ | with_reducible refine Gr.drewN ?_ _)))).mono ?_; rintro e w' ⟨rfl, kk, os, rfl⟩)
      | (go_at_call 41; refine (HC.out _).mono ?_; rintro e w' ⟨rfl, rfl⟩))
    go_ret2
    exact ⟨ret_two (by rw [HR.out]) (by rw [HR.out]), (by repeat (first | with_reducible exact Gr.refl _ | with_reducible refine Gr.alloc ?_ _ | with_reducible refine Gr.gr ?_ _ _ | with_reducible refine Gr.drew ?_ | with_reducible refine Gr.drewN ?_ _))⟩

set_option maxHeartbeats 1000000 in
theorem euR_spec (s l a b c : Int) (w : World) :
    Calls Tryz.prog 33 #[.int .i64 s, .int .i64 l, .agg #[.int .i64 (a), .int .i64 (b), .int .i64 (c)]] w fun e w' => e = .returned (.tuple #[.int .i64 (euR s l a b c).1, .int .i64 (euR s l a b c).2]) ∧ Gr w w' := by
  have HA := Lib.hid (fun W => areErrors_spec a b c W)
  have HS := Lib.hid (fun W => logScale_spec s W)
  have HL := Lib.hid (fun W => isLength_spec l W)
  rcases euC_cases s l a b c with ⟨h1, e⟩ | ⟨h1, h2, e⟩ | ⟨h1, h2, h3, e⟩ | ⟨h1, h2, h3, e⟩
  · have HR := Lib.hid (euR_no s l a b c (by omega))
    rw [e] at HR
    rw [h1] at HA
    clear h1 e
    go_enter Tryz.func33, Tryz.ntmps33
    go_wp2_with (go_at_call 32; refine (HA.out _).mono ?_; rintro e w' ⟨rfl, kk, os, rfl⟩)
    go_ret2
    exact ⟨ret_two (by rw [HR.out]) (by rw [HR.out]), (by repeat (first | with_reducible exact Gr.refl _ | with_reducible refine Gr.alloc ?_ _ | with_reducible refine Gr.gr ?_ _ _ | with_reducible refine Gr.drew ?_ | with_reducible refine Gr.drewN ?_ _))⟩
  · have HR := Lib.hid (euR_no s l a b c (by omega))
    rw [e] at HR
    rw [h1] at HA
    rw [h2] at HS
    clear h1 h2 e
    go_enter Tryz.func33, Tryz.ntmps33
    go_wp2_with (first | (go_at_call 32; refine (HA.out _).mono ?_; rintro e w' ⟨rfl, kk, os, rfl⟩) | (go_at_call 62; refine (HS.out _).mono ?_; rintro e w' ⟨rfl, rfl⟩))
    go_ret2
    exact ⟨ret_two (by rw [HR.out]) (by rw [HR.out]), (by repeat (first | with_reducible exact Gr.refl _ | with_reducible refine Gr.alloc ?_ _ | with_reducible refine Gr.gr ?_ _ _ | with_reducible refine Gr.drew ?_ | with_reducible refine Gr.drewN ?_ _))⟩
  · have HR := Lib.hid (euR_no s l a b c (by omega))
    rw [e] at HR
    rw [h1] at HA
    rw [h2] at HS
    rw [h3] at HL
    clear h1 h2 h3 e
    go_enter Tryz.func33, Tryz.ntmps33
    go_wp2_with (first | (go_at_call 32; refine (HA.out _).mono ?_; rintro e w' ⟨rfl, kk, os, rfl⟩) | (go_at_call 62; refine (HS.out _).mono ?_; rintro e w' ⟨rfl, rfl⟩) | (go_at_call 63; refine (HL.out _).mono ?_; rintro e w' ⟨rfl, rfl⟩))
    go_ret2
    exact ⟨ret_two (by rw [HR.out]) (by rw [HR.out]), (by repeat (first | with_reducible exact Gr.refl _ | with_reducible refine Gr.alloc ?_ _ | with_reducible refine Gr.gr ?_ _ _ | with_reducible refine Gr.drew ?_ | with_reducible refine Gr.drewN ?_ _))⟩
  · have HR := Lib.hid (euR_ok s l a b c e)
    have HU := Lib.hid (fun W => units10_spec s l a b c W e)
    rw [h1] at HA
    rw [h2] at HS
    rw [h3] at HL
    generalize euV s l a b c = V at *
    clear h1 h2 h3 e
    go_enter Tryz.func33, Tryz.ntmps33
    go_wp2_with (first
      | (go_at_call 32; refine (HA.out _).mono ?_; rintro e w' ⟨rfl, kk, os, rfl⟩)
      | (go_at_call 62; refine (HS.out _).mono ?_; rintro e w' ⟨rfl, rfl⟩)
      | (go_at_call 63; refine (HL.out _).mono ?_; rintro e w' ⟨rfl, rfl⟩)
      | (go_at_call 64; refine (HU.out _).mono ?_; rintro e w' ⟨rfl, kk, os, rfl⟩))
    go_ret2
    exact ⟨ret_two (by rw [HR.out]) (by rw [HR.out]), (by repeat (first | with_reducible exact Gr.refl _ | with_reducible refine Gr.alloc ?_ _ | with_reducible refine Gr.gr ?_ _ _ | with_reducible refine Gr.drew ?_ | with_reducible refine Gr.drewN ?_ _))⟩
end Go.Proofs.YtdbeedfapkfibaaGreatDoor
