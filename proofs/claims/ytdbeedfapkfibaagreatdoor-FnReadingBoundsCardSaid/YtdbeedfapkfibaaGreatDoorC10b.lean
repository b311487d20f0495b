/- Contracts of chapter 10: spreads of figures, errors multiplied, the laws' copies, in the program and in the model. -/
import Derived.Test.YtdbeedfapkfibaaGreatDoorC10a
import Derived.Test.YtdbeedfapkfibaaGreatDoorBk
import Derived.Test.YtdbeedfapkfibaaGreatDoorC04e
namespace Go.Proofs.YtdbeedfapkfibaaGreatDoor
open Go.RowKit Go.Shelf
set_option linter.unusedVariables false
set_option linter.unusedSimpArgs false

theorem spread10_any (l h u : Int) (w : World) (l1 : -1000000000000 ≤ l) (l2 : l ≤ 1000000000000) (h1 : -1000000000000 ≤ h) (h2 : h ≤ 1000000000000) (u1 : 0 ≤ u) (u2 : u ≤ 1000000000000) :
    Calls Tryz.prog 25 #[.agg #[.int .i64 l, .int .i64 h], .int .i64 u] w fun e w' => e = .returned (.agg #[.int .i64 (l - u), .int .i64 (h + u)]) ∧ Gr w w' := by
  go_enter Tryz.func25, Tryz.ntmps25
  go_wp2
  ((try simp only [Exit.inBlock, Exit.then]); refine bodyPost_ret (v := .agg #[.int .i64 (l - u), .int .i64 (h + u)]) (by simp [results, Tryz.results25, go_sem]) rfl ?_)
  exact ⟨rfl, (by repeat (first | with_reducible exact Gr.refl _ | with_reducible refine Gr.alloc ?_ _ | with_reducible refine Gr.gr ?_ _ _ | with_reducible refine Gr.drew ?_ | with_reducible refine Gr.drewN ?_ _))⟩

set_option maxHeartbeats 1000000 in
theorem sfR_impl (d t u : Int) (w : World) :
    Calls Tryz.prog 6 #[.agg #[.int .i64 d, .int .i64 t], .int .i64 u] w fun e w' => e = .returned (.tuple #[.agg #[.int .i64 (sfR d t u).a, .int .i64 (sfR d t u).s], .agg #[.int .i64 (sfR d t u).b, .int .i64 (sfR d t u).t], .int .i64 (sfR d t u).c]) ∧ Gr w w' := by
  have HF := Lib.hid (fun W => isFigure_impl d t W)
  rcases (show fg d t = true ∨ fg d t = false by cases fg d t <;> simp) with hf | hf
  · rw [hf] at HF
    by_cases hu : 0 ≤ u ∧ u ≤ 1048576
    · have H := Lib.hid (sfR_ok d t u hf hu)
      have b1 := flg_bd d t hf
      have hS := Lib.hid (fun W => spR_impl ((flg d t).1 - u) ((flg d t).2 + u) W)
      rw [spR_ok _ _ (sf_iv d t u hf hu)] at hS
      rw [show spU ((flg d t).1 - u) ((flg d t).2 + u) = sfU d t u from rfl] at hS
      have F1 := Lib.hid hf
      have HL := Lib.hid (fun W => figLog_any d t W F1.out)
      generalize (flg d t).1 = x1 at *
      generalize (flg d t).2 = x2 at *
      generalize sfU d t u = x at *
      obtain ⟨u1, u2⟩ := hu
      clear hf
      go_enter Tryz.func6, Tryz.ntmps6
      go_wp2_with (first
        | (go_at_call 22; refine (HF.out _).mono ?_; rintro e w' ⟨rfl, k, os, rfl⟩)
        | (go_at_call 24; refine (HL.out _).mono ?_; rintro e w' ⟨rfl, k, os, rfl⟩)
        | (go_at_call 25; refine (spread10_any _ _ _ _ (by omega) (by omega) (by omega) (by omega) (by omega) (by omega)).mono ?_; rintro e w' ⟨rfl, k, os, rfl⟩)
        | (go_at_call 23; refine (hS.out _).mono ?_; rintro e w' ⟨rfl, k, os, rfl⟩))
      ((try simp only [Exit.inBlock, Exit.then]); refine bodyPost_ret (v := .tuple #[.agg #[.int .i64 (x).a, .int .i64 (x).s], .agg #[.int .i64 (x).b, .int .i64 (x).t], .int .i64 (x).c]) (by simp [results, Tryz.results6, go_sem]) rfl ?_)
      exact ⟨ret_sp' H.out, (by repeat (first | with_reducible exact Gr.refl _ | with_reducible refine Gr.alloc ?_ _ | with_reducible refine Gr.gr ?_ _ _ | with_reducible refine Gr.drew ?_ | with_reducible refine Gr.drewN ?_ _))⟩
    · have H := Lib.hid (sfR_rg d t u hf hu)
      have hu2 : u < 0 ∨ (0 ≤ u ∧ 1048576 < u) := by omega
      clear hf hu
      rcases hu2 with h1 | ⟨h1, h2⟩
      all_goals
        go_enter Tryz.func6, Tryz.ntmps6
        go_wp2_with (go_at_call 22; refine (HF.out _).mono ?_; rintro e w' ⟨rfl, k, os, rfl⟩)
        ((try simp only [Exit.inBlock, Exit.then]); refine bodyPost_ret (v := .tuple #[.agg #[.int .i64 0, .int .i64 0], .agg #[.int .i64 0, .int .i64 0], .int .i64 2]) (by simp [results, Tryz.results6, go_sem]) rfl ?_)
        exact ⟨ret_sp H.out, (by repeat (first | with_reducible exact Gr.refl _ | with_reducible refine Gr.alloc ?_ _ | with_reducible refine Gr.gr ?_ _ _ | with_reducible refine Gr.drew ?_ | with_reducible refine Gr.drewN ?_ _))⟩
  · have H := Lib.hid (sfR_no d t u hf)
    rw [hf] at HF
    clear hf
    go_enter Tryz.func6, Tryz.ntmps6
    go_wp2_with (go_at_call 22; refine (HF.out _).mono ?_; rintro e w' ⟨rfl, k, os, rfl⟩)
    ((try simp only [Exit.inBlock, Exit.then]); refine bodyPost_ret (v := .tuple #[.agg #[.int .i64 0, .int .i64 0], .agg #[.int .i64 0, .int .i64 0], .int .i64 1]) (by simp [results, Tryz.results6, go_sem]) rfl ?_)
    exact ⟨ret_sp H.out, (by repeat (first | with_reducible exact Gr.refl _ | with_reducible refine Gr.alloc ?_ _ | with_reducible refine Gr.gr ?_ _ _ | with_reducible refine Gr.drew ?_ | with_reducible refine Gr.drewN ?_ _))⟩

set_option maxHeartbeats 1000000 in
theorem l10Spread_any (d t u : Int) (w : World) (hf : fg d t = true) (hu : 0 ≤ u ∧ u ≤ 1048576) :
    Calls Tryz.prog 28 #[.agg #[.int .i64 d, .int .i64 t], .int .i64 u] w fun e w' => e = .returned (.tuple #[.agg #[.int .i64 (sfU d t u).a, .int .i64 (sfU d t u).s], .agg #[.int .i64 (sfU d t u).b, .int .i64 (sfU d t u).t], .int .i64 (sfU d t u).c]) ∧ Gr w w' := by
  have b1 := flg_bd d t hf
  have hS := Lib.hid (fun W => spU_spec ((flg d t).1 - u) ((flg d t).2 + u) W)
  rw [show spU ((flg d t).1 - u) ((flg d t).2 + u) = sfU d t u from rfl] at hS
  have HL := Lib.hid (fun W => figure_spec3 d t W hf)
  generalize (flg d t).1 = x1 at *
  generalize (flg d t).2 = x2 at *
  generalize sfU d t u = x at *
  obtain ⟨u1, u2⟩ := hu
  clear hf
  go_enter Tryz.func28, Tryz.ntmps28
  go_wp2_with (first
    | (go_at_call 52; refine (HL.out _).mono ?_; rintro e w' ⟨rfl, k, os, rfl⟩)
    | (go_at_call 53; refine (hS.out _).mono ?_; rintro e w' ⟨rfl, k, os, rfl⟩))
  ((try simp only [Exit.inBlock, Exit.then]); refine bodyPost_ret (v := .tuple #[.agg #[.int .i64 (x).a, .int .i64 (x).s], .agg #[.int .i64 (x).b, .int .i64 (x).t], .int .i64 (x).c]) (by simp [results, Tryz.results28, go_sem]) rfl ?_)
  exact ⟨rfl, (by repeat (first | with_reducible exact Gr.refl _ | with_reducible refine Gr.alloc ?_ _ | with_reducible refine Gr.gr ?_ _ _ | with_reducible refine Gr.drew ?_ | with_reducible refine Gr.drewN ?_ _))⟩
set_option maxHeartbeats 1000000 in
theorem sfR_spec (d t u : Int) (w : World) :
    Calls Tryz.prog 7 #[.agg #[.int .i64 d, .int .i64 t], .int .i64 u] w fun e w' => e = .returned (.tuple #[.agg #[.int .i64 (sfR d t u).a, .int .i64 (sfR d t u).s], .agg #[.int .i64 (sfR d t u).b, .int .i64 (sfR d t u).t], .int .i64 (sfR d t u).c]) ∧ Gr w w' := by
  have HF := Lib.hid (fun W => isFigure_spec d t W)
  have HI := Lib.hid (fun W => in_any u 0 1048576 W)
  rcases (show fg d t = true ∨ fg d t = false by cases fg d t <;> simp) with hf | hf
  · rw [hf] at HF
    by_cases hu : 0 ≤ u ∧ u ≤ 1048576
    · have H := Lib.hid (sfR_ok d t u hf hu)
      have hS := Lib.hid (fun W => l10Spread_any d t u W hf hu)
      rw [decide_eq_true hu] at HI
      generalize sfU d t u = x at *
      clear hf hu
      go_enter Tryz.func7, Tryz.ntmps7
      go_wp2_with (first
        | (go_at_call 26; refine (HF.out _).mono ?_; rintro e w' ⟨rfl, k, os, rfl⟩)
        | (go_at_call 27; refine (HI.out _).mono ?_; rintro e w' ⟨rfl, rfl⟩)
        | (go_at_call 28; refine (hS.out _).mono ?_; rintro e w' ⟨rfl, k, os, rfl⟩))
      ((try simp only [Exit.inBlock, Exit.then]); refine bodyPost_ret (v := .tuple #[.agg #[.int .i64 (x).a, .int .i64 (x).s], .agg #[.int .i64 (x).b, .int .i64 (x).t], .int .i64 (x).c]) (by simp [results, Tryz.results7, go_sem]) rfl ?_)
      exact ⟨ret_sp' H.out, (by repeat (first | with_reducible exact Gr.refl _ | with_reducible refine Gr.alloc ?_ _ | with_reducible refine Gr.gr ?_ _ _ | with_reducible refine Gr.drew ?_ | with_reducible refine Gr.drewN ?_ _))⟩
    · have H := Lib.hid (sfR_rg d t u hf hu)
      rw [decide_eq_false hu] at HI
      clear hf hu
      go_enter Tryz.func7, Tryz.ntmps7
      go_wp2_with (first
        | (go_at_call 26; refine (HF.out _).mono ?_; rintro e w' ⟨rfl, k, os, rfl⟩)
        | (go_at_call 27; refine (HI.out _).mono ?_; rintro e w' ⟨rfl, rfl⟩))
      ((try simp only [Exit.inBlock, Exit.then]); refine bodyPost_ret (v := .tuple #[.agg #[.int .i64 0, .int .i64 0], .agg #[.int .i64 0, .int .i64 0], .int .i64 2]) (by simp [results, Tryz.results7, go_sem]) rfl ?_)
      exact ⟨ret_sp H.out, (by repeat (first | with_reducible exact Gr.refl _ | with_reducible refine Gr.alloc ?_ _ | with_reducible refine Gr.gr ?_ _ _ | with_reducible refine Gr.drew ?_ | with_reducible refine Gr.drewN ?_ _))⟩
  · have H := Lib.hid (sfR_no d t u hf)
    rw [hf] at HF
    clear hf
    go_enter Tryz.func7, Tryz.ntmps7
    go_wp2_with (go_at_call 26; refine (HF.out _).mono ?_; rintro e w' ⟨rfl, k, os, rfl⟩)
    ((try simp only [Exit.inBlock, Exit.then]); refine bodyPost_ret (v := .tuple #[.agg #[.int .i64 0, .int .i64 0], .agg #[.int .i64 0, .int .i64 0], .int .i64 1]) (by simp [results, Tryz.results7, go_sem]) rfl ?_)
    exact ⟨ret_sp H.out, (by repeat (first | with_reducible exact Gr.refl _ | with_reducible refine Gr.alloc ?_ _ | with_reducible refine Gr.gr ?_ _ _ | with_reducible refine Gr.drew ?_ | with_reducible refine Gr.drewN ?_ _))⟩

theorem Blk.tri {w : World} {g : Nat} {t : TypeId} {x y z : Value} (h : Blk w g t #[x, y, z]) : w.cell? ⟨g, 0, none⟩ = some x ∧ w.cell? ⟨g, 1, none⟩ = some y ∧ w.cell? ⟨g, 2, none⟩ = some z ∧ (∀ i, w.frozen? ⟨g, i, none⟩ = false) := by
  have c0 := cell_of_row w g 0 _ _ _ h
  have c1 := cell_of_row w g 1 _ _ _ h
  have c2 := cell_of_row w g 2 _ _ _ h
  simp at c0 c1 c2
  exact ⟨c0, c1, c2, fun i => free_row h i⟩
theorem twoE_new (w : World) (T : TypeId) (a b c d e f : Value) :
    Blk ((w.alloc (.cells #[a, b, c] T)).alloc (.cells #[d, e, f] T)) w.heap.size T #[a, b, c] ∧ Blk ((w.alloc (.cells #[a, b, c] T)).alloc (.cells #[d, e, f] T)) (w.heap.size + 1) T #[d, e, f] ∧ Gr w ((w.alloc (.cells #[a, b, c] T)).alloc (.cells #[d, e, f] T)) := by
  refine ⟨(Blk.new w T _).alloc _, ?_, ((Gr.refl w).alloc _).alloc _⟩
  have := Blk.new (w.alloc (.cells #[a, b, c] T)) T #[d, e, f]
  simpa using this
end Go.Proofs.YtdbeedfapkfibaaGreatDoor
