/- Contracts of chapter 5: positions, in the program and in the model. -/
import Derived.Test.YtefhhigcplemaaaGreatDoorC05a
import Derived.Test.YtefhhigcplemaaaGreatDoor3A
namespace Go.Proofs.YtefhhigcplemaaaGreatDoor
open Go.RowKit
set_option linter.unusedVariables false
set_option linter.unusedSimpArgs false

theorem gr_of_drew (w : World) (k : Nat) (os : Array Obj) : gr w.drew k os = gr w k os := rfl
attribute [local go_sem] gr_of_drew
theorem flg_zero (d : Int) : flg d 0 = (lgb false (d * 100000), lgb true (d * 100000) + 1) := by
  unfold flg
  rw [Int.zero_mul, Int.add_zero, Int.add_zero]
theorem fg_zero {d t : Int} (h : fg d t = true) : fg d 0 = true := (fg_iff d 0).2 ⟨((fg_iff d t).1 h).1, by omega⟩

theorem digitsLog_any (d t : Int) (w : World) (h : fg d t = true) :
    Calls Tryz.prog 254 #[.agg #[.int .i64 d, .int .i64 t]] w fun e w' => e = .returned (.agg #[.int .i64 (lgb false (d * 100000)), .int .i64 (lgb true (d * 100000) + 1)]) ∧ Gr w w' := by
  have F := Lib.hid (fun W => figLog_any d 0 W (fg_zero h))
  rw [flg_zero] at F
  clear h
  go_enter Tryz.func254, Tryz.ntmps254
  go_wp2_with (go_at_call 257; refine (F.out _).mono ?_; rintro e w' ⟨rfl, k, os, rfl⟩)
  ((try simp only [Exit.inBlock, Exit.then]); refine bodyPost_ret (v := .agg #[.int .i64 (lgb false (d * 100000)), .int .i64 (lgb true (d * 100000) + 1)]) (by simp [results, Tryz.results254, go_sem]) rfl ?_)
  exact ⟨rfl, (by repeat (first | with_reducible exact Gr.refl _ | with_reducible refine Gr.alloc ?_ _ | with_reducible refine Gr.gr ?_ _ _ | with_reducible refine Gr.drew ?_ | with_reducible refine Gr.drewN ?_ _))⟩

theorem rep_impl (q d t : Int) (w : World) (h : fg d t = true) (q1 : 1 ≤ q) (q2 : q ≤ 3) :
    Calls Tryz.prog 269 #[.agg #[.int .i64 q], .agg #[.int .i64 d, .int .i64 t]] w fun e w' => e = .returned (.agg #[.int .i64 (rep d t q).1, .int .i64 (rep d t q).2]) ∧ Gr w w' := by
  obtain ⟨⟨d1, d2⟩, t1, t2⟩ := (fg_iff d t).1 h
  obtain ⟨a1, a2⟩ := lgb_bd false (d * 100000) (by omega) (by omega)
  obtain ⟨b1, b2⟩ := lgb_bd true (d * 100000) (by omega) (by omega)
  have m1 := Int.emod_nonneg t (show q ≠ 0 by omega)
  have m2 := Int.emod_lt_of_pos t (show 0 < q by omega)
  have HF := Lib.hid (fun W => digitsLog_any d t W h)
  have HR := Lib.hid (show rep d t q = ((lgb false (d * 100000) + t % q * 1048576).fdiv q, cd (lgb true (d * 100000) + 1 + t % q * 1048576) q) from rfl)
  have HM := Lib.hid (fun W => remainder_any t q W (by omega) (by omega) (by omega) (by omega))
  generalize rep d t q = x at *
  generalize lgb false (d * 100000) = a at *
  generalize lgb true (d * 100000) = b at *
  generalize t % q = m at *
  clear h
  go_enter Tryz.func269, Tryz.ntmps269
  go_wp2_with fail
  have q1 : IntKind.i64.wrap (m * 1048576) = m * 1048576 := IntWalk.i64_in _ (by omega)
  go_region_held3 (fun w' => w'.cell? ⟨w.heap.size, 0, none⟩ = some (.int .i64 q) ∧ w'.cell? ⟨w.heap.size + 1, 0, none⟩ = some (.int .i64 d) ∧ w'.cell? ⟨w.heap.size + 1, 1, none⟩ = some (.int .i64 t)) (first | (go_simp; done) | (simp (disch := first | omega | (simp [gr_size]; done) | (simp [gr_size]; omega)) [gr_cell, World.cell?_drew, World.cell?_alloc_at, World.cell?_alloc_past]; done)) (first
    | (go_at_call 254; refine (HF.out _).mono ?_; rintro e w' ⟨rfl, k, os, rfl⟩)
    | (go_at_call 270; refine (HM.out _).mono ?_; rintro e w' ⟨rfl, rfl⟩)
    | (go_at_call 256; (try rw [q1]); refine (moved_any _ _ _ _ (by omega) (by omega) (by omega) (by omega) (by omega) (by omega)).mono ?_; rintro e w' ⟨rfl, k, os, rfl⟩)
    | (go_at_call 268; refine (over_any _ _ _ _ (by omega) (by omega) (by omega) (by omega) (by omega) (by omega)).mono ?_; rintro e w' ⟨rfl, k, os, rfl⟩))
  all_goals
    go_wp2
    ((try simp only [Exit.inBlock, Exit.then]); refine bodyPost_ret (v := .agg #[.int .i64 ((a + m * 1048576).fdiv q), .int .i64 (cd (b + 1 + m * 1048576) q)]) (by simp [results, Tryz.results269, go_sem]) rfl ?_)
    exact ⟨ret_agg (by rw [HR.out]) (by rw [HR.out]), (by repeat (first | with_reducible exact Gr.refl _ | with_reducible refine Gr.alloc ?_ _ | with_reducible refine Gr.gr ?_ _ _ | with_reducible refine Gr.drew ?_ | with_reducible refine Gr.drewN ?_ _))⟩

theorem inv_impl (d t : Int) (w : World) (h : fg d t = true) :
    Calls Tryz.prog 253 #[.agg #[], .agg #[.int .i64 d, .int .i64 t]] w fun e w' => e = .returned (.agg #[.int .i64 (1048576 - (lgb true (d * 100000) + 1)), .int .i64 (1048576 - lgb false (d * 100000))]) ∧ Gr w w' := by
  obtain ⟨⟨d1, d2⟩, -⟩ := (fg_iff d t).1 h
  obtain ⟨a1, a2⟩ := lgb_bd false (d * 100000) (by omega) (by omega)
  obtain ⟨b1, b2⟩ := lgb_bd true (d * 100000) (by omega) (by omega)
  have HF := Lib.hid (fun W => digitsLog_any d t W h)
  generalize lgb false (d * 100000) = a at *
  generalize lgb true (d * 100000) = b at *
  have HT := Lib.hid (fun W => times_any a (b + 1) (-1) W (by omega) (by omega) (by omega) (by omega) (by omega) (by omega))
  rw [(tms_one _ _).1, (tms_one _ _).2] at HT
  clear h
  go_enter Tryz.func253, Tryz.ntmps253
  go_wp2_with (first
    | (go_at_call 254; refine (HF.out _).mono ?_; rintro e w' ⟨rfl, k, os, rfl⟩)
    | (go_at_call 255; refine (HT.out _).mono ?_; rintro e w' ⟨rfl, k, os, rfl⟩)
    | (go_at_call 256; refine (moved_any _ _ _ _ (by omega) (by omega) (by omega) (by omega) (by omega) (by omega)).mono ?_; rintro e w' ⟨rfl, k, os, rfl⟩))
  ((try simp only [Exit.inBlock, Exit.then]); refine bodyPost_ret (v := .agg #[.int .i64 (-(b + 1) + 1048576), .int .i64 (-a + 1048576)]) (by simp [results, Tryz.results253, go_sem]) rfl ?_)
  exact ⟨ret_agg (by omega) (by omega), (by repeat (first | with_reducible exact Gr.refl _ | with_reducible refine Gr.alloc ?_ _ | with_reducible refine Gr.gr ?_ _ _ | with_reducible refine Gr.drew ?_ | with_reducible refine Gr.drewN ?_ _))⟩

theorem fold_impl (d t : Int) (w : World) (h : fg d t = true) :
    Calls Tryz.prog 264 #[.agg #[], .agg #[.int .i64 d, .int .i64 t]] w fun e w' => e = .returned (.agg #[.int .i64 (fld d).1, .int .i64 (fld d).2]) ∧ Gr w w' := by
  obtain ⟨⟨d1, d2⟩, -⟩ := (fg_iff d t).1 h
  obtain ⟨a1, a2⟩ := lgb_bd false (d * 100000) (by omega) (by omega)
  obtain ⟨b1, b2⟩ := lgb_bd true (d * 100000) (by omega) (by omega)
  obtain ⟨p1, p2⟩ := lgb_bd false 314200000 (by omega) (by omega)
  obtain ⟨q1, q2⟩ := lgb_bd true 314200000 (by omega) (by omega)
  have HF := Lib.hid (fun W => digitsLog_any d t W h)
  have HP := Lib.hid (fun W => figLog_any 3142 0 W (by decide))
  rw [flg_zero, show (3142 : Int) * 100000 = 314200000 from rfl] at HP
  have HR := Lib.hid (And.intro (fld_lo d) (fld_hi d))
  generalize fld d = x at *
  generalize lgb false (d * 100000) = a at *
  generalize lgb true (d * 100000) = b at *
  generalize lgb false 314200000 = p at *
  generalize lgb true 314200000 = q at *
  clear h
  by_cases hl : a - (q + 1) < 0
  · have HX := Lib.hid (HR.out.1 hl)
    clear HR
    go_enter Tryz.func264, Tryz.ntmps264
    go_wp2_with (first
      | (go_at_call 254; refine (HF.out _).mono ?_; rintro e w' ⟨rfl, k, os, rfl⟩)
      | (go_at_call 257; refine (HP.out _).mono ?_; rintro e w' ⟨rfl, k, os, rfl⟩)
      | (go_at_call 265; refine (minus_any _ _ _ _ _ (by omega) (by omega) (by omega) (by omega) (by omega) (by omega) (by omega) (by omega)).mono ?_; rintro e w' ⟨rfl, k, os, rfl⟩)
      | (go_at_call 256; refine (moved_any _ _ _ _ (by omega) (by omega) (by omega) (by omega) (by omega) (by omega)).mono ?_; rintro e w' ⟨rfl, k, os, rfl⟩))
    ((try simp only [Exit.inBlock, Exit.then]); refine bodyPost_ret (v := .agg #[.int .i64 (a - (q + 1) + 1048576), .int .i64 (b + 1 - p + 1048576)]) (by simp [results, Tryz.results264, go_sem]) rfl ?_)
    exact ⟨ret_agg (by rw [HX.out]) (by rw [HX.out]), (by repeat (first | with_reducible exact Gr.refl _ | with_reducible refine Gr.alloc ?_ _ | with_reducible refine Gr.gr ?_ _ _ | with_reducible refine Gr.drew ?_ | with_reducible refine Gr.drewN ?_ _))⟩
  · have HX := Lib.hid (HR.out.2 hl)
    clear HR
    go_enter Tryz.func264, Tryz.ntmps264
    go_wp2_with (first
      | (go_at_call 254; refine (HF.out _).mono ?_; rintro e w' ⟨rfl, k, os, rfl⟩)
      | (go_at_call 257; refine (HP.out _).mono ?_; rintro e w' ⟨rfl, k, os, rfl⟩)
      | (go_at_call 265; refine (minus_any _ _ _ _ _ (by omega) (by omega) (by omega) (by omega) (by omega) (by omega) (by omega) (by omega)).mono ?_; rintro e w' ⟨rfl, k, os, rfl⟩))
    ((try simp only [Exit.inBlock, Exit.then]); refine bodyPost_ret (v := .agg #[.int .i64 (a - (q + 1)), .int .i64 (b + 1 - p)]) (by simp [results, Tryz.results264, go_sem]) rfl ?_)
    exact ⟨ret_agg (by rw [HX.out]) (by rw [HX.out]), (by repeat (first | with_reducible exact Gr.refl _ | with_reducible refine Gr.alloc ?_ _ | with_reducible refine Gr.gr ?_ _ _ | with_reducible refine Gr.drew ?_ | with_reducible refine Gr.drewN ?_ _))⟩

theorem lin_impl (d t : Int) (w : World) (h : fg d t = true) :
    Calls Tryz.prog 267 #[.agg #[], .agg #[.int .i64 d, .int .i64 t]] w fun e w' => e = .returned (.agg #[.int .i64 (((d - 1000) * 1048576).fdiv 9000), .int .i64 (cd ((d - 1000) * 1048576) 9000)]) ∧ Gr w w' := by
  obtain ⟨⟨d1, d2⟩, -⟩ := (fg_iff d t).1 h
  clear h
  go_enter Tryz.func267, Tryz.ntmps267
  go_wp2_with (go_at_call 268; refine (over_any _ _ _ _ (by omega) (by omega) (by omega) (by omega) (by omega) (by omega)).mono ?_; rintro e w' ⟨rfl, k, os, rfl⟩)
  ((try simp only [Exit.inBlock, Exit.then]); refine bodyPost_ret (v := .agg #[.int .i64 (((d - 1000) * 1048576).fdiv 9000), .int .i64 (cd ((d - 1000) * 1048576) 9000)]) (by simp [results, Tryz.results267, go_sem]) rfl ?_)
  exact ⟨rfl, (by repeat (first | with_reducible exact Gr.refl _ | with_reducible refine Gr.alloc ?_ _ | with_reducible refine Gr.gr ?_ _ _ | with_reducible refine Gr.drew ?_ | with_reducible refine Gr.drewN ?_ _))⟩

theorem scl_one (a b k : Int) : scl a b 1 k = (a.fdiv k, cd b k) := by rw [scl_pos a b 1 k (by omega), Int.mul_one, Int.mul_one]

set_option maxHeartbeats 1000000 in
theorem position_spec (s d t : Int) (w : World) (h : fg d t = true) (hs : sc s = true) (hab : lgb false (d * 100000) ≤ lgb true (d * 100000)) :
    Calls Tryz.prog 170 #[.int .i64 s, .agg #[.int .i64 d, .int .i64 t]] w fun e w' => e = .returned (.agg #[.int .i64 (psn s d t).1, .int .i64 (psn s d t).2]) ∧ Gr w w' := by
  obtain ⟨⟨d1, d2⟩, t1, t2⟩ := (fg_iff d t).1 h
  obtain ⟨a1, a2⟩ := lgb_bd false (d * 100000) (by omega) (by omega)
  obtain ⟨b1, b2⟩ := lgb_bd true (d * 100000) (by omega) (by omega)
  have HF := Lib.hid (fun W => log_spec (d * 100000) W (by omega) (by omega))
  rcases scale_cases s hs with rfl | rfl | rfl | rfl | rfl | rfl
  · have HR := Lib.hid (psn_0 d t)
    generalize psn 0 d t = x at *
    generalize lgb false (d * 100000) = a at *
    generalize lgb true (d * 100000) = b at *
    clear h hs
    go_enter Tryz.func170, Tryz.ntmps170
    go_wp2_with (go_at_call 197; refine (HF.out _).mono ?_; rintro e w' ⟨rfl, k, os, rfl⟩)
    ((try simp only [Exit.inBlock, Exit.then]); refine bodyPost_ret (v := .agg #[.int .i64 a, .int .i64 (b + 1)]) (by simp [results, Tryz.results170, go_sem]) rfl ?_)
    exact ⟨ret_agg (by rw [HR.out]) (by rw [HR.out]), (by repeat (first | with_reducible exact Gr.refl _ | with_reducible refine Gr.alloc ?_ _ | with_reducible refine Gr.gr ?_ _ _ | with_reducible refine Gr.drew ?_ | with_reducible refine Gr.drewN ?_ _))⟩
  · have HR := Lib.hid (psn_1 d t)
    unfold rep at HR
    have m1 := Int.emod_nonneg t (show (2 : Int) ≠ 0 by omega)
    have m2 := Int.emod_lt_of_pos t (show (0 : Int) < 2 by omega)
    have HM := Lib.hid (fun W => mod_spec t 2 W (by omega) (by omega) (by omega) (by omega))
    generalize psn 1 d t = x at *
    generalize lgb false (d * 100000) = a at *
    generalize lgb true (d * 100000) = b at *
    generalize t % 2 = m at *
    have HS := Lib.hid (fun W => scale_spec (a + 1048576 * m) (b + 1 + 1048576 * m) 1 2 W (by omega) (by omega) (by omega) (by omega) (by omega) (by omega) (by omega) (by omega) (by omega))
    rw [scl_one] at HS
    clear h hs
    go_enter Tryz.func170, Tryz.ntmps170
    go_wp2_with (first
      | (go_at_call 197; refine (HF.out _).mono ?_; rintro e w' ⟨rfl, k, os, rfl⟩)
      | (go_at_call 198; refine (HM.out _).mono ?_; rintro e w' ⟨rfl, k, os, rfl⟩)
      | (go_at_call 199; refine (HS.out _).mono ?_; rintro e w' ⟨rfl, k, os, rfl⟩))
    ((try simp only [Exit.inBlock, Exit.then]); refine bodyPost_ret (v := .agg #[.int .i64 ((a + 1048576 * m).fdiv 2), .int .i64 (cd (b + 1 + 1048576 * m) 2)]) (by simp [results, Tryz.results170, go_sem]) rfl ?_)
    exact ⟨ret_agg (by rw [HR.out, Int.mul_comm 1048576]) (by rw [HR.out, Int.mul_comm 1048576]), (by repeat (first | with_reducible exact Gr.refl _ | with_reducible refine Gr.alloc ?_ _ | with_reducible refine Gr.gr ?_ _ _ | with_reducible refine Gr.drew ?_ | with_reducible refine Gr.drewN ?_ _))⟩
  · have HR := Lib.hid (psn_2 d t)
    unfold rep at HR
    have m1 := Int.emod_nonneg t (show (3 : Int) ≠ 0 by omega)
    have m2 := Int.emod_lt_of_pos t (show (0 : Int) < 3 by omega)
    have HM := Lib.hid (fun W => mod_spec t 3 W (by omega) (by omega) (by omega) (by omega))
    generalize psn 2 d t = x at *
    generalize lgb false (d * 100000) = a at *
    generalize lgb true (d * 100000) = b at *
    generalize t % 3 = m at *
    have HS := Lib.hid (fun W => scale_spec (a + 1048576 * m) (b + 1 + 1048576 * m) 1 3 W (by omega) (by omega) (by omega) (by omega) (by omega) (by omega) (by omega) (by omega) (by omega))
    rw [scl_one] at HS
    clear h hs
    go_enter Tryz.func170, Tryz.ntmps170
    go_wp2_with (first
      | (go_at_call 197; refine (HF.out _).mono ?_; rintro e w' ⟨rfl, k, os, rfl⟩)
      | (go_at_call 198; refine (HM.out _).mono ?_; rintro e w' ⟨rfl, k, os, rfl⟩)
      | (go_at_call 199; refine (HS.out _).mono ?_; rintro e w' ⟨rfl, k, os, rfl⟩))
    ((try simp only [Exit.inBlock, Exit.then]); refine bodyPost_ret (v := .agg #[.int .i64 ((a + 1048576 * m).fdiv 3), .int .i64 (cd (b + 1 + 1048576 * m) 3)]) (by simp [results, Tryz.results170, go_sem]) rfl ?_)
    exact ⟨ret_agg (by rw [HR.out, Int.mul_comm 1048576]) (by rw [HR.out, Int.mul_comm 1048576]), (by repeat (first | with_reducible exact Gr.refl _ | with_reducible refine Gr.alloc ?_ _ | with_reducible refine Gr.gr ?_ _ _ | with_reducible refine Gr.drew ?_ | with_reducible refine Gr.drewN ?_ _))⟩
  · have HR := Lib.hid (psn_3 d t)
    generalize psn 3 d t = x at *
    generalize lgb false (d * 100000) = a at *
    generalize lgb true (d * 100000) = b at *
    clear h hs
    go_enter Tryz.func170, Tryz.ntmps170
    go_wp2_with (go_at_call 197; refine (HF.out _).mono ?_; rintro e w' ⟨rfl, k, os, rfl⟩)
    ((try simp only [Exit.inBlock, Exit.then]); refine bodyPost_ret (v := .agg #[.int .i64 (1048576 - (b + 1)), .int .i64 (1048576 - a)]) (by simp [results, Tryz.results170, go_sem]) rfl ?_)
    exact ⟨ret_agg (by rw [HR.out]) (by rw [HR.out]), (by repeat (first | with_reducible exact Gr.refl _ | with_reducible refine Gr.alloc ?_ _ | with_reducible refine Gr.gr ?_ _ _ | with_reducible refine Gr.drew ?_ | with_reducible refine Gr.drewN ?_ _))⟩
  · obtain ⟨p1, p2⟩ := lgb_bd false 314200000 (by omega) (by omega)
    obtain ⟨q1, q2⟩ := lgb_bd true 314200000 (by omega) (by omega)
    have HP := Lib.hid (fun W => log_spec 314200000 W (by omega) (by omega))
    have HR := Lib.hid (And.intro (fun g => (psn_4 d t).trans (fld_lo d g)) (fun g => (psn_4 d t).trans (fld_hi d g)))
    generalize psn 4 d t = x at *
    generalize lgb false (d * 100000) = a at *
    generalize lgb true (d * 100000) = b at *
    generalize lgb false 314200000 = p at *
    generalize lgb true 314200000 = q at *
    clear h hs
    by_cases hl : a - (q + 1) < 0
    · have HX := Lib.hid (HR.out.1 hl)
      clear HR
      go_enter Tryz.func170, Tryz.ntmps170
      go_wp2_with (go_at_call 197; refine (HF.out _).mono ?_; rintro e w' ⟨rfl, k0, os0, rfl⟩)
      go_region_held3 (fun w' => w'.cell? ⟨(gr ((w.alloc (.cells #[.int .i64 d, .int .i64 t] 37)).alloc (.cells #[.int .i64 0, .int .i64 0] 143)) k0 os0).heap.size, 0, none⟩ = some (.int .i64 a) ∧ w'.cell? ⟨(gr ((w.alloc (.cells #[.int .i64 d, .int .i64 t] 37)).alloc (.cells #[.int .i64 0, .int .i64 0] 143)) k0 os0).heap.size, 1, none⟩ = some (.int .i64 (b + 1))) (first | (go_simp; done) | (simp (disch := first | omega | (simp [gr_size]; done) | (simp [gr_size]; omega)) [gr_cell, World.cell?_drew, World.cell?_alloc_at, World.cell?_alloc_past]; done)) (first
        | (go_at_call 197; refine (HP.out _).mono ?_; rintro e w' ⟨rfl, k, os, rfl⟩)
        | (go_at_call 200; refine (sub_spec _ _ _ _ _ (by omega) (by omega) (by omega) (by omega) (by omega) (by omega) (by omega) (by omega)).mono ?_; rintro e w' ⟨rfl, k, os, rfl⟩))
      all_goals
        go_wp2
        ((try simp only [Exit.inBlock, Exit.then]); refine bodyPost_ret (v := .agg #[.int .i64 (a - (q + 1) + 1048576), .int .i64 (b + 1 - p + 1048576)]) (by simp [results, Tryz.results170, go_sem]) rfl ?_)
        exact ⟨ret_agg (by rw [HX.out]) (by rw [HX.out]), (by repeat (first | with_reducible exact Gr.refl _ | with_reducible refine Gr.alloc ?_ _ | with_reducible refine Gr.gr ?_ _ _ | with_reducible refine Gr.drew ?_ | with_reducible refine Gr.drewN ?_ _))⟩
    · have HX := Lib.hid (HR.out.2 hl)
      clear HR
      go_enter Tryz.func170, Tryz.ntmps170
      go_wp2_with (go_at_call 197; refine (HF.out _).mono ?_; rintro e w' ⟨rfl, k0, os0, rfl⟩)
      go_region_held3 (fun w' => w'.cell? ⟨(gr ((w.alloc (.cells #[.int .i64 d, .int .i64 t] 37)).alloc (.cells #[.int .i64 0, .int .i64 0] 143)) k0 os0).heap.size, 0, none⟩ = some (.int .i64 a) ∧ w'.cell? ⟨(gr ((w.alloc (.cells #[.int .i64 d, .int .i64 t] 37)).alloc (.cells #[.int .i64 0, .int .i64 0] 143)) k0 os0).heap.size, 1, none⟩ = some (.int .i64 (b + 1))) (first | (go_simp; done) | (simp (disch := first | omega | (simp [gr_size]; done) | (simp [gr_size]; omega)) [gr_cell, World.cell?_drew, World.cell?_alloc_at, World.cell?_alloc_past]; done)) (first
        | (go_at_call 197; refine (HP.out _).mono ?_; rintro e w' ⟨rfl, k, os, rfl⟩)
        | (go_at_call 200; refine (sub_spec _ _ _ _ _ (by omega) (by omega) (by omega) (by omega) (by omega) (by omega) (by omega) (by omega)).mono ?_; rintro e w' ⟨rfl, k, os, rfl⟩))
      all_goals
        go_wp2
        ((try simp only [Exit.inBlock, Exit.then]); refine bodyPost_ret (v := .agg #[.int .i64 (a - (q + 1)), .int .i64 (b + 1 - p)]) (by simp [results, Tryz.results170, go_sem]) rfl ?_)
        exact ⟨ret_agg (by rw [HX.out]) (by rw [HX.out]), (by repeat (first | with_reducible exact Gr.refl _ | with_reducible refine Gr.alloc ?_ _ | with_reducible refine Gr.gr ?_ _ _ | with_reducible refine Gr.drew ?_ | with_reducible refine Gr.drewN ?_ _))⟩
  · have HR := Lib.hid (psn_5 d t)
    generalize psn 5 d t = x at *
    generalize lgb false (d * 100000) = a at *
    generalize lgb true (d * 100000) = b at *
    clear h hs
    go_enter Tryz.func170, Tryz.ntmps170
    go_wp2_with (first
      | (go_at_call 197; refine (HF.out _).mono ?_; rintro e w' ⟨rfl, k, os, rfl⟩)
      | (go_at_call 171; refine (floor_any _ _ _ (by omega) (by omega) (by omega) (by omega) (by omega)).mono ?_; rintro e w' ⟨rfl, rfl⟩)
      | (go_at_call 201; refine (ceil_any _ _ _ (by omega) (by omega) (by omega) (by omega) (by omega)).mono ?_; rintro e w' ⟨rfl, rfl⟩))
    ((try simp only [Exit.inBlock, Exit.then]); refine bodyPost_ret (v := .agg #[.int .i64 (((d - 1000) * 1048576).fdiv 9000), .int .i64 (cd ((d - 1000) * 1048576) 9000)]) (by simp [results, Tryz.results170, go_sem]) rfl ?_)
    exact ⟨ret_agg (by rw [HR.out]) (by rw [HR.out]), (by repeat (first | with_reducible exact Gr.refl _ | with_reducible refine Gr.alloc ?_ _ | with_reducible refine Gr.gr ?_ _ _ | with_reducible refine Gr.drew ?_ | with_reducible refine Gr.drewN ?_ _))⟩
end Go.Proofs.YtefhhigcplemaaaGreatDoor
