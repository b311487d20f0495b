/- Contracts of chapter 3: logarithms of numbers and of figures, in the program and in the model. -/
import Derived.Test.YtggflladheemoaaC03d
import Derived.Test.YtggflladheemoaaC02a
namespace Go.Proofs.Ytggflladheemoaa
open Go.RowKit
set_option linter.unusedVariables false
set_option linter.unusedSimpArgs false

theorem bits_spec (u : Bool) (x : Int) (w : World) (h1 : 100000000 ≤ x) (h2 : x ≤ 999999999) :
    Calls Try.prog 90 #[.int .i64 x, .bool u] w fun e w' => e = .returned (.int .i64 (lgb u x)) ∧ Gr w w' := by
  cases u
  · go_enter Try.func90, Try.ntmps90
    go_wp2
    go_loop [0, 5, 6] (fun r n i => ∃ (k : Nat), k ≤ 20 ∧ i = .int .i64 k ∧ r = .int .i64 (lgs false x k).1 ∧ n = .int .i64 (lgs false x k).2) (fun r n i => 20 - (intOf i).toNat)
    case atStart => exact ⟨0, by omega, rfl, by rw [lgs_zero], by rw [lgs_zero]⟩
    case round =>
      obtain ⟨k, hk, rfl, rfl, rfl⟩ := hrel
      by_cases hlt : k < 20
      · obtain ⟨r1, r2, n1, n2⟩ := lgs_bd false x h1 h2 k hk
        have E := Lib.hid (lgs_succ false x k)
        generalize (lgs false x k).1 = r at *
        generalize (lgs false x k).2 = n at *
        have SQ : sqD r = r * r / 100000000 := by unfold sqD; exact Int.fdiv_eq_ediv_of_nonneg _ (by omega)
        have sb := sqD_bd r r1 r2
        obtain ⟨q1, q2⟩ := sq_bd r r1 r2
        by_cases h : sqD r < 1000000000
        · have L1 := Lib.hid (show (lgs false x (k + 1)).1 = r * r / 100000000 by rw [E.out, nx_f, nxD_lo r h]; exact SQ)
          have L2 := Lib.hid (show (lgs false x (k + 1)).2 = 2 * n by rw [E.out, nx_f, nxD_lo r h]; simp)
          rw [SQ] at h sb
          obtain ⟨sb1, sb2⟩ := sb
          clear SQ E
          go_wp2
          go_round
          case rel => exact ⟨k + 1, by omega, by go_num, by rw [L1.out], by rw [L2.out]⟩
          case measure => simp [intOf]; omega
        · have L1 := Lib.hid (show (lgs false x (k + 1)).1 = r * r / 100000000 / 10 by rw [E.out, nx_f, nxD_hi r (by omega)]; simp only; rw [SQ]; exact Int.fdiv_eq_ediv_of_nonneg _ (by omega))
          have L2 := Lib.hid (show (lgs false x (k + 1)).2 = 2 * n + 1 by rw [E.out, nx_f, nxD_hi r (by omega)])
          rw [SQ] at h sb
          obtain ⟨sb1, sb2⟩ := sb
          have h' : 1000000000 ≤ r * r / 100000000 := by omega
          clear SQ E h
          go_wp2
          go_round
          case rel => exact ⟨k + 1, by omega, by go_num, by rw [L1.out], by rw [L2.out]⟩
          case measure => simp [intOf]; omega
      · obtain rfl : k = 20 := by omega
        go_wp2
        go_ret
        exact ⟨rfl, (by repeat (first | with_reducible exact Gr.refl _ | with_reducible refine Gr.alloc ?_ _ | with_reducible refine Gr.gr ?_ _ _ | with_reducible refine Gr.drew ?_ | with_reducible refine Gr.drewN ?_ _))⟩
  · go_enter Try.func90, Try.ntmps90
    go_wp2
    go_loop [0, 5, 6] (fun r n i => ∃ (k : Nat), k ≤ 20 ∧ i = .int .i64 k ∧ r = .int .i64 (lgs true x k).1 ∧ n = .int .i64 (lgs true x k).2) (fun r n i => 20 - (intOf i).toNat)
    case atStart => exact ⟨0, by omega, rfl, by rw [lgs_zero], by rw [lgs_zero]⟩
    case round =>
      obtain ⟨k, hk, rfl, rfl, rfl⟩ := hrel
      by_cases hlt : k < 20
      · obtain ⟨r1, r2, n1, n2⟩ := lgs_bd true x h1 h2 k hk
        have E := Lib.hid (lgs_succ true x k)
        generalize (lgs true x k).1 = r at *
        generalize (lgs true x k).2 = n at *
        have SQ := Lib.hid (show sqU r = cd (r * r) 100000000 from rfl)
        obtain ⟨sb1, sb2⟩ := sqU_bd r r1 r2
        obtain ⟨q1, q2⟩ := sq_bd r r1 r2
        by_cases h : sqU r < 1000000000
        · have L1 := Lib.hid (show (lgs true x (k + 1)).1 = sqU r by rw [E.out, nx_t, nxU_lo r h])
          have L2 := Lib.hid (show (lgs true x (k + 1)).2 = 2 * n by rw [E.out, nx_t, nxU_lo r h]; simp)
          clear E
          go_wp2_with (go_at_call 85; refine (ceil_any _ _ _ (by omega) (by omega) (by omega) (by omega) (by omega)).mono ?_; rw [← SQ.out]; rintro e w' ⟨rfl, rfl⟩)
          go_round
          case rel => exact ⟨k + 1, by omega, by go_num, by rw [L1.out], by rw [L2.out]⟩
          case measure => simp [intOf]; omega
        · have L1 := Lib.hid (show (lgs true x (k + 1)).1 = cd (sqU r) 10 by rw [E.out, nx_t, nxU_hi r (by omega)])
          have L2 := Lib.hid (show (lgs true x (k + 1)).2 = 2 * n + 1 by rw [E.out, nx_t, nxU_hi r (by omega)])
          have h' : 1000000000 ≤ sqU r := by omega
          clear E h
          go_wp2_with fail
          refine (ceil_any _ _ _ (by omega) (by omega) (by omega) (by omega) (by omega)).mono ?_
          rw [← SQ.out]
          rintro e w' ⟨rfl, rfl⟩
          go_wp2_with fail
          refine (ceil_any _ _ _ (by omega) (by omega) (by omega) (by omega) (by omega)).mono ?_
          rintro e w' ⟨rfl, rfl⟩
          go_wp2_with fail
          go_round
          case rel => exact ⟨k + 1, by omega, by go_num, by rw [L1.out], by rw [L2.out]⟩
          case measure => simp [intOf]; omega
      · obtain rfl : k = 20 := by omega
        go_wp2
        go_ret
        exact ⟨rfl, (by repeat (first | with_reducible exact Gr.refl _ | with_reducible refine Gr.alloc ?_ _ | with_reducible refine Gr.gr ?_ _ _ | with_reducible refine Gr.drew ?_ | with_reducible refine Gr.drewN ?_ _))⟩

theorem log_spec (x : Int) (w : World) (h1 : 100000000 ≤ x) (h2 : x ≤ 999999999) :
    Calls Try.prog 86 #[.int .i64 x] w fun e w' => e = .returned (.agg #[.int .i64 (lgb false x), .int .i64 (lgb true x + 1)]) ∧ Gr w w' := by
  obtain ⟨b1, b2⟩ := lgb_bd false x h1 h2
  obtain ⟨b3, b4⟩ := lgb_bd true x h1 h2
  go_enter Try.func86, Try.ntmps86
  go_wp2_with fail
  refine (bits_spec false x _ h1 h2).mono ?_
  rintro e w' ⟨rfl, k, os, rfl⟩
  go_wp2_with fail
  refine (bits_spec true x _ h1 h2).mono ?_
  rintro e w' ⟨rfl, k, os, rfl⟩
  go_wp2_with fail
  ((try simp only [Exit.inBlock, Exit.then]); refine bodyPost_ret (v := .agg #[.int .i64 (lgb false x), .int .i64 (lgb true x + 1)]) (by simp [results, Try.results86, go_sem]) rfl ?_)
  exact ⟨rfl, (by repeat (first | with_reducible exact Gr.refl _ | with_reducible refine Gr.alloc ?_ _ | with_reducible refine Gr.gr ?_ _ _ | with_reducible refine Gr.drew ?_ | with_reducible refine Gr.drewN ?_ _))⟩

end Go.Proofs.Ytggflladheemoaa
