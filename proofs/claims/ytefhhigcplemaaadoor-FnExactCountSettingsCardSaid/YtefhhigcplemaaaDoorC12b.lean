/- Contracts of chapter 12: the program's valid moves, codes and counts of moves. -/
import Derived.Test.YtefhhigcplemaaaDoorC12a
namespace Go.Proofs.YtefhhigcplemaaaDoor
open Go.RowKit
set_option linter.unusedVariables false
set_option linter.unusedSimpArgs false

theorem Blk.four {w : World} {g : Nat} {t : TypeId} {a b c d : Value} (h : Blk w g t #[a, b, c, d]) : w.cell? ⟨g, 0, none⟩ = some a ∧ w.cell? ⟨g, 1, none⟩ = some b ∧ w.cell? ⟨g, 2, none⟩ = some c ∧ w.cell? ⟨g, 3, none⟩ = some d ∧ (∀ i, w.frozen? ⟨g, i, none⟩ = false) := by
  have c0 := cell_of_row w g 0 _ _ _ h
  have c1 := cell_of_row w g 1 _ _ _ h
  have c2 := cell_of_row w g 2 _ _ _ h
  have c3 := cell_of_row w g 3 _ _ _ h
  simp at c0 c1 c2 c3
  exact ⟨c0, c1, c2, c3, fun i => free_row h i⟩
section
attribute [local go_sem high] guard_mv eql_mv
set_option maxHeartbeats 4000000 in
set_option maxRecDepth 100000 in
theorem isMove_impl (k s d t : Int) (w : World) :
    Calls Tryd.prog 65 #[.agg #[.int .i64 (k), .int .i64 (s), .int .i64 (d), .int .i64 (t)]] w fun e w' => e = .returned (.bool (mvB (k, s, d, t))) ∧ Gr w w' := by
  have HS := Lib.hid (fun W => logScale_impl s W)
  have HF := Lib.hid (fun W => isFigure_impl d t W)
  have HMK := Lib.hid (fun W => moveKinds_impl W)
  have P := Blk.new w 47 #[.int .i64 k, .int .i64 s, .int .i64 d, .int .i64 t]
  have hG : Gr w (w.alloc (.cells #[.int .i64 k, .int .i64 s, .int .i64 d, .int .i64 t] 47)) := (by repeat (first | with_reducible exact Gr.refl _ | with_reducible refine Gr.alloc ?_ _ | with_reducible refine Gr.gr ?_ _ _ | with_reducible refine Gr.drew ?_ | with_reducible refine Gr.drewN ?_ _))
  rcases mv_kinds k with ⟨h1, h2⟩ | ⟨h1, h2⟩ | ⟨h1, h2, h3⟩
  · rw [mvB_fig h1]
    have hk := (mvF_iff k).1 h1
    clear h1 h2
    generalize lsc s = x at *
    generalize fg d t = y at *
    rcases (show k = 0 ∨ k = 1 ∨ k = 2 by omega) with rfl | rfl | rfl
    all_goals clear hk
    all_goals
      go_enter Tryd.func65, Tryd.ntmps65
      go_wp2_with fail
      generalize w.alloc (.cells #[.int .i64 _, .int .i64 s, .int .i64 d, .int .i64 t] 47) = v at *
      have HP := Lib.hid P
      obtain ⟨p0, p1, p2, p3, -⟩ := P.four
      clear P
      go_wp2_with fail
      clear p0 p1 p2 p3
      refine region_grows [(0, .is mkV)] (by kernel_rfl) (by kernel_rfl) ?_
      (refine lz_many _ rfl (fun K hK => ?_); refine ⟨rfl, fun wz hz ha => ?_, fun vz wz hz hf => ?_⟩; (focus (go_simp; exact lg_call hz (HMK.out _))); (obtain rfl := hf; clear hz wz; go_simp; refine hK _ _ ?_; clear hK K))
      (refine lz_one rfl (fun K hK => ?_); refine ⟨rfl, ?_⟩; apply Exists.intro; refine ⟨fun wz hz => ?_, ?_⟩; (focus (skip; go_simp; (first | done | exact ⟨rfl, rfl⟩ | trivial))); (go_simp; refine hK _ _ ?_; clear hK K))
      (refine lz_one rfl (fun K hK => ?_); refine ⟨rfl, ?_⟩; apply Exists.intro; refine ⟨fun wz hz => ?_, ?_⟩; (focus (obtain ⟨p0, p1, p2, p3, -⟩ := (HP.out.gr hz).four; go_simp; (first | done | exact ⟨rfl, rfl⟩ | trivial))); (go_simp; refine hK _ _ ?_; clear hK K))
      (refine lz_one rfl (fun K hK => ?_); refine ⟨rfl, ?_⟩; apply Exists.intro; refine ⟨fun wz hz => ?_, ?_⟩; (focus (unfold mkV; go_simp; (first | done | exact ⟨rfl, rfl⟩ | trivial))); (go_simp; refine hK _ _ ?_; clear hK K))
      (refine lz_one rfl (fun K hK => ?_); refine ⟨rfl, ?_⟩; apply Exists.intro; refine ⟨fun wz hz => ?_, ?_⟩; (focus (skip; go_simp; (first | done | exact ⟨rfl, rfl⟩ | trivial))); (go_simp; refine hK _ _ ?_; clear hK K))
      (refine lz_one rfl (fun K hK => ?_); refine ⟨rfl, ?_⟩; apply Exists.intro; refine ⟨fun wz hz => ?_, ?_⟩; (focus (skip; go_simp; (first | done | exact ⟨rfl, rfl⟩ | trivial))); (go_simp; refine hK _ _ ?_; clear hK K))
      refine lz_nil ?_
      intro w3 hz hgg
      clear hgg
      obtain ⟨p0, p1, p2, p3, -⟩ := (HP.out.gr hz).four
      cases x
      all_goals
        go_wp2_with (first | (go_at_call 105; (with_reducible refine (HS.out _).mono ?_); rintro e w' ⟨rfl, rfl⟩) | (go_at_call 106; (with_reducible refine (HF.out _).mono ?_); rintro e w' ⟨rfl, kk, os, rfl⟩))
        go_ret
        exact ⟨rfl, (hG.trans hz).trans (by repeat (first | with_reducible exact Gr.refl _ | with_reducible refine Gr.alloc ?_ _ | with_reducible refine Gr.gr ?_ _ _ | with_reducible refine Gr.drew ?_ | with_reducible refine Gr.drewN ?_ _))⟩
  · rw [mvB_pl h1 h2]
    have hk := (mvP_iff k).1 h2
    clear h1 h2
    generalize hx : (s == 0) = x at *
    generalize hy : (d == 0) = y at *
    generalize hz0 : (t == 0) = z at *
    rcases (show k = 3 ∨ k = 4 ∨ k = 5 ∨ k = 6 by omega) with rfl | rfl | rfl | rfl
    all_goals clear hk
    all_goals
      go_enter Tryd.func65, Tryd.ntmps65
      go_wp2_with fail
      generalize w.alloc (.cells #[.int .i64 _, .int .i64 s, .int .i64 d, .int .i64 t] 47) = v at *
      have HP := Lib.hid P
      obtain ⟨p0, p1, p2, p3, -⟩ := P.four
      clear P
      go_wp2_with fail
      clear p0 p1 p2 p3
      refine region_grows [(0, .is mkV)] (by kernel_rfl) (by kernel_rfl) ?_
      (refine lz_many _ rfl (fun K hK => ?_); refine ⟨rfl, fun wz hz ha => ?_, fun vz wz hz hf => ?_⟩; (focus (go_simp; exact lg_call hz (HMK.out _))); (obtain rfl := hf; clear hz wz; go_simp; refine hK _ _ ?_; clear hK K))
      (refine lz_one rfl (fun K hK => ?_); refine ⟨rfl, ?_⟩; apply Exists.intro; refine ⟨fun wz hz => ?_, ?_⟩; (focus (skip; go_simp; (first | done | exact ⟨rfl, rfl⟩ | trivial))); (go_simp; refine hK _ _ ?_; clear hK K))
      (refine lz_one rfl (fun K hK => ?_); refine ⟨rfl, ?_⟩; apply Exists.intro; refine ⟨fun wz hz => ?_, ?_⟩; (focus (obtain ⟨p0, p1, p2, p3, -⟩ := (HP.out.gr hz).four; go_simp; (first | done | exact ⟨rfl, rfl⟩ | trivial))); (go_simp; refine hK _ _ ?_; clear hK K))
      (refine lz_one rfl (fun K hK => ?_); refine ⟨rfl, ?_⟩; apply Exists.intro; refine ⟨fun wz hz => ?_, ?_⟩; (focus (unfold mkV; go_simp; (first | done | exact ⟨rfl, rfl⟩ | trivial))); (go_simp; refine hK _ _ ?_; clear hK K))
      (refine lz_one rfl (fun K hK => ?_); refine ⟨rfl, ?_⟩; apply Exists.intro; refine ⟨fun wz hz => ?_, ?_⟩; (focus (skip; go_simp; (first | done | exact ⟨rfl, rfl⟩ | trivial))); (go_simp; refine hK _ _ ?_; clear hK K))
      (refine lz_one rfl (fun K hK => ?_); refine ⟨rfl, ?_⟩; apply Exists.intro; refine ⟨fun wz hz => ?_, ?_⟩; (focus (skip; go_simp; (first | done | exact ⟨rfl, rfl⟩ | trivial))); (go_simp; refine hK _ _ ?_; clear hK K))
      refine lz_nil ?_
      intro w3 hz hgg
      clear hgg
      obtain ⟨p0, p1, p2, p3, -⟩ := (HP.out.gr hz).four
      go_wp2
      go_ret
      exact ⟨by simp [hx, hy, hz0], hG.trans hz⟩
  · rw [mvB_no h1 h2]
    clear h1 h2 P hG
    rcases h3 with h3 | h3
    · go_enter Tryd.func65, Tryd.ntmps65
      go_wp2
      go_ret
      exact ⟨rfl, (by repeat (first | with_reducible exact Gr.refl _ | with_reducible refine Gr.alloc ?_ _ | with_reducible refine Gr.gr ?_ _ _ | with_reducible refine Gr.drew ?_ | with_reducible refine Gr.drewN ?_ _))⟩
    · have h0 : ¬ (k < 0) := by omega
      go_enter Tryd.func65, Tryd.ntmps65
      go_wp2
      go_ret
      exact ⟨rfl, (by repeat (first | with_reducible exact Gr.refl _ | with_reducible refine Gr.alloc ?_ _ | with_reducible refine Gr.gr ?_ _ _ | with_reducible refine Gr.drew ?_ | with_reducible refine Gr.drewN ?_ _))⟩
end

theorem mcode_impl (M : Option Addr) (p cp : Nat) (ms : List Mv) (w : World) (hml : ms.length = p) (hp : p ≤ 16777216) (hM : Reads w w.heap.size M (mcells ms)) :
    Calls Tryd.prog 39 #[.slice M p cp] w fun e w' => e = .returned (.int .i64 (mvC ms)) ∧ Gr w w' := by
  have HL := Lib.hid hml
  have HM := Lib.hid hM
  have HI := Lib.hid (fun k s d t W => isMove_impl k s d t W)
  clear hml hM
  go_enter Tryd.func39, Tryd.ntmps39
  go_wp2
  go_loopw [7] (fun i wr => ∃ k : Nat, k ≤ p ∧ i = .int .i64 k ∧ Hid ((ms.take k).all mvB = true) ∧ Gr w wr) (fun i _ => p - (intOf i).toNat)
  case atStart => exact ⟨0, by omega, rfl, Lib.hid (by simp), Gr.refl _⟩
  case round =>
    obtain ⟨k, hk, rfl, HO, hG⟩ := hrel
    by_cases hlt : k < p
    · obtain ⟨m, hm⟩ := some_at (l := ms) (k := k) (by rw [HL.out]; exact hlt)
      obtain ⟨g, o, rfl, hg, x0, x1, x2, x3⟩ := (HM.out.gr hG).at4 hm
      have H := Lib.hid hm
      obtain ⟨mk, s, d, t⟩ := m
      simp only at x0 x1 x2 x3
      clear hm
      have HIk := Lib.hid (fun W => HI.out mk s d t W)
      rcases mvB_tf (mk, s, d, t) with hb | hb
      · have HR := Lib.hid (all_snoc H.out HO.out hb)
        rw [hb] at HIk
        clear hb
        go_wp2_with (go_at_call 65; (with_reducible refine (HIk.out _).mono ?_); rintro e w2 ⟨rfl, kk, os, rfl⟩)
        go_roundw
        case rel => exact ⟨k + 1, by omega, by go_num, HR, hG.trans (by repeat (first | with_reducible exact Gr.refl _ | with_reducible refine Gr.alloc ?_ _ | with_reducible refine Gr.gr ?_ _ _ | with_reducible refine Gr.drew ?_ | with_reducible refine Gr.drewN ?_ _))⟩
        case measure => simp [intOf]; omega
      · have HR := Lib.hid (mvC_bad H.out hb)
        rw [hb] at HIk
        clear hb
        go_wp2_with (go_at_call 65; (with_reducible refine (HIk.out _).mono ?_); rintro e w2 ⟨rfl, kk, os, rfl⟩)
        go_ret
        exact ⟨ret_int HR.out.symm, hG.trans (by repeat (first | with_reducible exact Gr.refl _ | with_reducible refine Gr.alloc ?_ _ | with_reducible refine Gr.gr ?_ _ _ | with_reducible refine Gr.drew ?_ | with_reducible refine Gr.drewN ?_ _))⟩
    · obtain rfl : k = p := by omega
      have HA := Lib.hid (show ms.all mvB = true by have := HO.out; rwa [List.take_of_length_le (by rw [HL.out]; omega)] at this)
      by_cases hl : 30 < k
      · have HR := Lib.hid (mvC_long HA.out (by rw [HL.out]; exact hl))
        go_wp2
        go_ret
        exact ⟨ret_int HR.out.symm, hG⟩
      · have HR := Lib.hid (mvC_ok HA.out (by rw [HL.out]; omega))
        go_wp2
        go_ret
        exact ⟨ret_int HR.out.symm, hG⟩
theorem areMoves_impl (M : Option Addr) (p cp : Nat) (ms : List Mv) (w : World) (hml : ms.length = p) (hp : p ≤ 16777216) (hM : Reads w w.heap.size M (mcells ms)) :
    Calls Tryd.prog 14 #[.slice M p cp] w fun e w' => e = .returned (.bool (decide (mvC ms = 0))) ∧ Gr w w' := by
  have HC := Lib.hid (mcode_impl M p cp ms w hml hp hM)
  have hd : (mvC ms == 0) = decide (mvC ms = 0) := rfl
  generalize mvC ms = z at *
  clear hml hM
  go_enter Tryd.func14, Tryd.ntmps14
  go_wp2_with (go_at_call 39; (with_reducible refine (HC.out).mono ?_); rintro e w' ⟨rfl, hg⟩)
  go_ret
  exact ⟨by first | rfl | rw [hd], hg⟩
end Go.Proofs.YtefhhigcplemaaaDoor
