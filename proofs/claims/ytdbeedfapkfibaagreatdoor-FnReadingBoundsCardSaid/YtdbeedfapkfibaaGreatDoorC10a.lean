/- Contracts of chapter 10: errors, their total, spreads, errors multiplied, in the program and in the model. -/
import Derived.Test.YtdbeedfapkfibaaGreatDoorMB
import Derived.Test.YtdbeedfapkfibaaGreatDoorC04d
import Derived.Test.YtdbeedfapkfibaaGreatDoor1A
namespace Go.Proofs.YtdbeedfapkfibaaGreatDoor
open Go.RowKit Go.Shelf
set_option linter.unusedVariables false
set_option linter.unusedSimpArgs false

theorem eye10_impl (x : Int) (w : World) :
    Calls Tryz.prog 70 #[.int .i64 x] w fun e w' => e = .returned (.bool (eyB x)) ∧ w = w' := by
  have HR := Lib.hid (show eyB x = decide (0 ≤ x ∧ x ≤ 200) from rfl)
  generalize eyB x = R at *
  by_cases h1 : 0 ≤ x <;> by_cases h2 : x ≤ 200
  all_goals
    go_enter Tryz.func70, Tryz.ntmps70
    go_wp2
    go_ret
    exact ⟨ret_bool (by rw [HR.out]; simp [h1, h2]), rfl⟩
theorem eye10_spec (x : Int) (w : World) :
    Calls Tryz.prog 61 #[.int .i64 x] w fun e w' => e = .returned (.bool (eyB x)) ∧ w = w' := by
  have HR := Lib.hid (show eyB x = decide (0 ≤ x ∧ x ≤ 200) from rfl)
  generalize eyB x = R at *
  go_enter Tryz.func61, Tryz.ntmps61
  go_wp2_with (go_at_call 27; refine (in_any _ _ _ _).mono ?_; rintro e w' ⟨rfl, rfl⟩)
  go_ret
  exact ⟨ret_bool (by rw [HR.out]; simp), rfl⟩
theorem numbers10_any (a b c : Int) (w : World) :
    Calls Tryz.prog 40 #[.agg #[.int .i64 (a), .int .i64 (b), .int .i64 (c)]] w fun e w' => e = .returned (.agg #[.int .i64 (a), .int .i64 (b), .int .i64 (c)]) ∧ Gr w w' := by
  go_enter Tryz.func40, Tryz.ntmps40
  go_wp2
  ((try simp only [Exit.inBlock, Exit.then]); refine bodyPost_ret (v := .agg #[.int .i64 (a), .int .i64 (b), .int .i64 (c)]) (by simp [results, Tryz.results40, go_sem]) rfl ?_)
  exact ⟨rfl, (by repeat (first | with_reducible exact Gr.refl _ | with_reducible refine Gr.alloc ?_ _ | with_reducible refine Gr.gr ?_ _ _ | with_reducible refine Gr.drew ?_ | with_reducible refine Gr.drewN ?_ _))⟩

theorem e3_i0 (a b c : Int) (W : World) : (Instr.index 61 (.agg #[.int .i64 (a), .int .i64 (b), .int .i64 (c)]) (.int .i64 0)).run Tryz.prog W = .ok (.int .i64 a) W := by kernel_rfl
theorem e3_i1 (a b c : Int) (W : World) : (Instr.index 61 (.agg #[.int .i64 (a), .int .i64 (b), .int .i64 (c)]) (.int .i64 1)).run Tryz.prog W = .ok (.int .i64 b) W := by kernel_rfl
theorem e3_i2 (a b c : Int) (W : World) : (Instr.index 61 (.agg #[.int .i64 (a), .int .i64 (b), .int .i64 (c)]) (.int .i64 2)).run Tryz.prog W = .ok (.int .i64 c) W := by kernel_rfl
attribute [local go_sem] e3_i0 e3_i1 e3_i2

set_option maxHeartbeats 2000000 in
theorem areErrors_impl (a b c : Int) (w : World) :
    Calls Tryz.prog 39 #[.agg #[.int .i64 (a), .int .i64 (b), .int .i64 (c)]] w fun e w' => e = .returned (.bool (er a b c)) ∧ Gr w w' := by
  have HK := Lib.hid (fun x W => eye10_impl x W)
  have HN := Lib.hid (fun W => numbers10_any a b c W)
  have HR := Lib.hid (show er a b c = (eyB a && eyB b && eyB c) from rfl)
  generalize er a b c = R at *
  go_enter Tryz.func39, Tryz.ntmps39
  go_wp2_with (go_at_call 40; refine (HN.out _).mono ?_; rintro e w' ⟨rfl, kk, os, rfl⟩)
  go_loopw [7] (fun i wr => ((i = .int .i64 0) ∨ (i = .int .i64 1 ∧ Hid (eyB a = true)) ∨ (i = .int .i64 2 ∧ Hid (eyB a = true ∧ eyB b = true)) ∨ (i = .int .i64 3 ∧ Hid (eyB a = true ∧ eyB b = true ∧ eyB c = true))) ∧ Gr w wr) (fun i _ => 3 - (intOf i).toNat)
  case atStart => exact ⟨.inl rfl, (by repeat (first | with_reducible exact Gr.refl _ | with_reducible refine Gr.alloc ?_ _ | with_reducible refine Gr.gr ?_ _ _ | with_reducible refine Gr.drew ?_ | with_reducible refine Gr.drewN ?_ _))⟩
  case round =>
    obtain ⟨hi, hg⟩ := hrel
    rcases hi with rfl | ⟨rfl, h1⟩ | ⟨rfl, h1⟩ | ⟨rfl, h1⟩
    · rcases (Bool.eq_false_or_eq_true (eyB a)).symm with ha | ha
      · have E := Lib.hid ha
        clear ha
        go_wp2_with (go_at_call 70; refine (HK.out _ _).mono ?_; rw [E.out]; rintro e w' ⟨rfl, rfl⟩)
        go_ret
        exact ⟨ret_bool (by rw [HR.out, E.out]; rfl), hg⟩
      · have E := Lib.hid ha
        clear ha
        go_wp2_with (go_at_call 70; refine (HK.out _ _).mono ?_; rw [E.out]; rintro e w' ⟨rfl, rfl⟩)
        go_roundw
        case rel => exact ⟨.inr (.inl ⟨by go_num, E⟩), hg⟩
        case measure => simp [intOf]
    · rcases (Bool.eq_false_or_eq_true (eyB b)).symm with hb | hb
      · have E := Lib.hid hb
        clear hb
        go_wp2_with (go_at_call 70; refine (HK.out _ _).mono ?_; rw [E.out]; rintro e w' ⟨rfl, rfl⟩)
        go_ret
        exact ⟨ret_bool (by rw [HR.out, E.out]; simp), hg⟩
      · have E := Lib.hid hb
        clear hb
        go_wp2_with (go_at_call 70; refine (HK.out _ _).mono ?_; rw [E.out]; rintro e w' ⟨rfl, rfl⟩)
        go_roundw
        case rel => exact ⟨.inr (.inr (.inl ⟨by go_num, Lib.hid ⟨h1.out, E.out⟩⟩)), hg⟩
        case measure => simp [intOf]
    · rcases (Bool.eq_false_or_eq_true (eyB c)).symm with hc | hc
      · have E := Lib.hid hc
        clear hc
        go_wp2_with (go_at_call 70; refine (HK.out _ _).mono ?_; rw [E.out]; rintro e w' ⟨rfl, rfl⟩)
        go_ret
        exact ⟨ret_bool (by rw [HR.out, E.out]; simp), hg⟩
      · have E := Lib.hid hc
        clear hc
        go_wp2_with (go_at_call 70; refine (HK.out _ _).mono ?_; rw [E.out]; rintro e w' ⟨rfl, rfl⟩)
        go_roundw
        case rel => exact ⟨.inr (.inr (.inr ⟨by go_num, Lib.hid ⟨h1.out.1, h1.out.2, E.out⟩⟩)), hg⟩
        case measure => simp [intOf]
    · go_wp2
      go_ret
      exact ⟨ret_bool (by rw [HR.out, h1.out.1, h1.out.2.1, h1.out.2.2]; rfl), hg⟩

theorem areErrors_spec (a b c : Int) (w : World) :
    Calls Tryz.prog 32 #[.agg #[.int .i64 (a), .int .i64 (b), .int .i64 (c)]] w fun e w' => e = .returned (.bool (er a b c)) ∧ Gr w w' := by
  have HA := Lib.hid (fun W => eye10_spec a W)
  have HB := Lib.hid (fun W => eye10_spec b W)
  have HC := Lib.hid (fun W => eye10_spec c W)
  have HR := Lib.hid (show er a b c = (eyB a && eyB b && eyB c) from rfl)
  generalize er a b c = R at *
  generalize eyB a = x at *
  generalize eyB b = y at *
  generalize eyB c = z at *
  cases x <;> cases y <;> cases z
  all_goals
    go_enter Tryz.func32, Tryz.ntmps32
    go_wp2_with (first | (go_at_call 61; (with_reducible refine (HA.out _).mono ?_); rintro e w' ⟨rfl, rfl⟩) | (go_at_call 61; (with_reducible refine (HB.out _).mono ?_); rintro e w' ⟨rfl, rfl⟩) | (go_at_call 61; (with_reducible refine (HC.out _).mono ?_); rintro e w' ⟨rfl, rfl⟩))
    go_ret
    exact ⟨ret_bool HR.out.symm, (by repeat (first | with_reducible exact Gr.refl _ | with_reducible refine Gr.alloc ?_ _ | with_reducible refine Gr.gr ?_ _ _ | with_reducible refine Gr.drew ?_ | with_reducible refine Gr.drewN ?_ _))⟩

theorem total10_spec (a b c : Int) (w : World) (h : er a b c = true) :
    Calls Tryz.prog 90 #[.agg #[.int .i64 (a), .int .i64 (b), .int .i64 (c)]] w fun e w' => e = .returned (.int .i64 (tot a b c)) ∧ Gr w w' := by
  obtain ⟨h1, h2, h3⟩ := (er_iff a b c).1 h
  have HR := Lib.hid (show tot a b c = 2 * a + b + c from rfl)
  generalize tot a b c = R at *
  clear h
  go_enter Tryz.func90, Tryz.ntmps90
  go_wp2
  go_ret
  exact ⟨ret_int HR.out.symm, (by repeat (first | with_reducible exact Gr.refl _ | with_reducible refine Gr.alloc ?_ _ | with_reducible refine Gr.gr ?_ _ _ | with_reducible refine Gr.drew ?_ | with_reducible refine Gr.drewN ?_ _))⟩

set_option maxHeartbeats 1000000 in
theorem sum3_any (g : Nat) (a b c : Int) (w : World) (c0 : w.cell? ⟨g, 0, none⟩ = some (.int .i64 a)) (c1 : w.cell? ⟨g, 1, none⟩ = some (.int .i64 b)) (c2 : w.cell? ⟨g, 2, none⟩ = some (.int .i64 c)) (ha : 0 ≤ a ∧ a ≤ 200) (hb : 0 ≤ b ∧ b ≤ 200) (hc : 0 ≤ c ∧ c ≤ 200) :
    Calls Tryz.prog 100 #[.slice (some ⟨g, 0, none⟩) 3 3] w fun e w' => e = .returned (.int .i64 (a + b + c)) ∧ w = w' := by
  go_enter Tryz.func100, Tryz.ntmps100
  go_wp2
  go_loopw [3, 8] (fun s i wr => ((s = .int .i64 0 ∧ i = .int .i64 0) ∨ (s = .int .i64 a ∧ i = .int .i64 1) ∨ (s = .int .i64 (a + b) ∧ i = .int .i64 2) ∨ (s = .int .i64 (a + b + c) ∧ i = .int .i64 3)) ∧ w = wr) (fun _ i _ => 3 - (intOf i).toNat)
  case atStart => exact ⟨.inl ⟨rfl, rfl⟩, rfl⟩
  case round =>
    obtain ⟨hi, rfl⟩ := hrel
    rcases hi with ⟨rfl, rfl⟩ | ⟨rfl, rfl⟩ | ⟨rfl, rfl⟩ | ⟨rfl, rfl⟩
    · go_wp2
      go_roundw
      case rel => exact ⟨.inr (.inl ⟨by go_num, by go_num⟩), trivial⟩
      case measure => simp [intOf]
    · go_wp2
      go_roundw
      case rel => exact ⟨.inr (.inr (.inl ⟨by go_num, by go_num⟩)), trivial⟩
      case measure => simp [intOf]
    · go_wp2
      go_roundw
      case rel => exact ⟨.inr (.inr (.inr ⟨by go_num, by go_num⟩)), trivial⟩
      case measure => simp [intOf]
    · go_wp2
      go_ret
      exact ⟨rfl, rfl⟩

set_option maxHeartbeats 2000000 in
theorem total10_impl (a b c : Int) (w : World) (h : er a b c = true) :
    Calls Tryz.prog 86 #[.agg #[.int .i64 (a), .int .i64 (b), .int .i64 (c)]] w fun e w' => e = .returned (.int .i64 (tot a b c)) ∧ Gr w w' := by
  obtain ⟨h1, h2, h3⟩ := (er_iff a b c).1 h
  have HR := Lib.hid (show tot a b c = 2 * a + b + c from rfl)
  generalize tot a b c = R at *
  have HN := Lib.hid (fun W => numbers10_any a b c W)
  clear h
  have q1 : IntKind.i64.wrap (a + (a + b + c)) = a + (a + b + c) := IntWalk.i64_in _ (by omega)
  go_enter Tryz.func86, Tryz.ntmps86
  go_wp2_with (go_at_call 40; refine (HN.out _).mono ?_; rintro e w' ⟨rfl, kk, os, rfl⟩)
  ((first | refine region_gr_on (by kernel_rfl) (by kernel_rfl) ?_ | refine region_gr (by kernel_rfl) (by kernel_rfl) ?_); (repeat (quiet_step (exact Calls.gr_same (sum3_any _ a b c _ (by go_simp) (by go_simp) (by go_simp) h1 h2 h3)))); refine wpQuiet_nil ?_; intro _ hw'; obtain ⟨⟨kq, oq⟩, hw''⟩ := hw'; subst hw'')
  go_wp2
  go_ret
  exact ⟨ret_int (by rw [HR.out]; (try rw [q1]); omega), (by repeat (first | with_reducible exact Gr.refl _ | with_reducible refine Gr.alloc ?_ _ | with_reducible refine Gr.gr ?_ _ _ | with_reducible refine Gr.drew ?_ | with_reducible refine Gr.drewN ?_ _))⟩
end Go.Proofs.YtdbeedfapkfibaaGreatDoor
