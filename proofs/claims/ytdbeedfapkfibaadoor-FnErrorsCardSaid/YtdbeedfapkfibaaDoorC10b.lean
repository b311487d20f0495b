/- Contracts of chapter 10: spreads of figures, errors multiplied, the laws' copies, in the program and in the model. -/
import Derived.Test.YtdbeedfapkfibaaDoorC10a
import Derived.Test.YtdbeedfapkfibaaDoorBk
import Derived.Test.YtdbeedfapkfibaaDoorC04e
namespace Go.Proofs.YtdbeedfapkfibaaDoor
open Go.RowKit Go.Shelf
set_option linter.unusedVariables false
set_option linter.unusedSimpArgs false

theorem toErrors_any (a b c : Int) (w : World) :
    Calls Tryd.prog 30 #[.agg #[.int .i64 (a), .int .i64 (b), .int .i64 (c)]] w fun e w' => e = .returned (.agg #[.int .i64 (a), .int .i64 (b), .int .i64 (c)]) ∧ Gr w w' := by
  go_enter Tryd.func30, Tryd.ntmps30
  go_wp2
  ((try simp only [Exit.inBlock, Exit.then]); refine bodyPost_ret (v := .agg #[.int .i64 (a), .int .i64 (b), .int .i64 (c)]) (by simp [results, Tryd.results30, go_sem]) rfl ?_)
  exact ⟨rfl, (by repeat (first | with_reducible exact Gr.refl _ | with_reducible refine Gr.alloc ?_ _ | with_reducible refine Gr.gr ?_ _ _ | with_reducible refine Gr.drew ?_ | with_reducible refine Gr.drewN ?_ _))⟩
theorem teR_impl (a b c : Int) (w : World) :
    Calls Tryd.prog 21 #[.agg #[.int .i64 (a), .int .i64 (b), .int .i64 (c)]] w fun e w' => e = .returned (.tuple #[.int .i64 (teR a b c).1, .int .i64 (teR a b c).2]) ∧ Gr w w' := by
  have HA := Lib.hid (fun W => areErrors_impl a b c W)
  have HT := Lib.hid (fun W h => total10_impl a b c W h)
  rcases er_tf a b c with h | h
  all_goals
    have HR := Lib.hid (by first | exact teR_ok a b c h | exact teR_no a b c h)
    have H := Lib.hid h
    rw [h] at HA
    clear h
    go_enter Tryd.func21, Tryd.ntmps21
    go_wp2_with (first | (go_at_call 26; refine (HA.out _).mono ?_; rintro e w' ⟨rfl, k, os, rfl⟩) | (go_at_call 61; refine (HT.out _ H.out).mono ?_; rintro e w' ⟨rfl, k, os, rfl⟩))
    go_ret2
    exact ⟨ret_two (by rw [HR.out]) (by rw [HR.out]), (by repeat (first | with_reducible exact Gr.refl _ | with_reducible refine Gr.alloc ?_ _ | with_reducible refine Gr.gr ?_ _ _ | with_reducible refine Gr.drew ?_ | with_reducible refine Gr.drewN ?_ _))⟩
theorem teR_spec (a b c : Int) (w : World) :
    Calls Tryd.prog 22 #[.agg #[.int .i64 (a), .int .i64 (b), .int .i64 (c)]] w fun e w' => e = .returned (.tuple #[.int .i64 (teR a b c).1, .int .i64 (teR a b c).2]) ∧ Gr w w' := by
  have HA := Lib.hid (fun W => areErrors_spec a b c W)
  have HT := Lib.hid (fun W h => total10_spec a b c W h)
  rcases er_tf a b c with h | h
  all_goals
    have HR := Lib.hid (by first | exact teR_ok a b c h | exact teR_no a b c h)
    have H := Lib.hid h
    rw [h] at HA
    clear h
    go_enter Tryd.func22, Tryd.ntmps22
    go_wp2_with (first | (go_at_call 57; refine (HA.out _).mono ?_; rintro e w' ⟨rfl, k, os, rfl⟩) | (go_at_call 62; refine (HT.out _ H.out).mono ?_; rintro e w' ⟨rfl, k, os, rfl⟩))
    go_ret2
    exact ⟨ret_two (by rw [HR.out]) (by rw [HR.out]), (by repeat (first | with_reducible exact Gr.refl _ | with_reducible refine Gr.alloc ?_ _ | with_reducible refine Gr.gr ?_ _ _ | with_reducible refine Gr.drew ?_ | with_reducible refine Gr.drewN ?_ _))⟩

theorem spread10_any (l h u : Int) (w : World) (l1 : -1000000000000 ≤ l) (l2 : l ≤ 1000000000000) (h1 : -1000000000000 ≤ h) (h2 : h ≤ 1000000000000) (u1 : 0 ≤ u) (u2 : u ≤ 1000000000000) :
    Calls Tryd.prog 102 #[.agg #[.int .i64 l, .int .i64 h], .int .i64 u] w fun e w' => e = .returned (.agg #[.int .i64 (l - u), .int .i64 (h + u)]) ∧ Gr w w' := by
  go_enter Tryd.func102, Tryd.ntmps102
  go_wp2
  ((try simp only [Exit.inBlock, Exit.then]); refine bodyPost_ret (v := .agg #[.int .i64 (l - u), .int .i64 (h + u)]) (by simp [results, Tryd.results102, go_sem]) rfl ?_)
  exact ⟨rfl, (by repeat (first | with_reducible exact Gr.refl _ | with_reducible refine Gr.alloc ?_ _ | with_reducible refine Gr.gr ?_ _ _ | with_reducible refine Gr.drew ?_ | with_reducible refine Gr.drewN ?_ _))⟩

set_option maxHeartbeats 1000000 in
theorem sfR_impl (d t u : Int) (w : World) :
    Calls Tryd.prog 75 #[.agg #[.int .i64 d, .int .i64 t], .int .i64 u] w fun e w' => e = .returned (.tuple #[.agg #[.int .i64 (sfR d t u).a, .int .i64 (sfR d t u).s], .agg #[.int .i64 (sfR d t u).b, .int .i64 (sfR d t u).t], .int .i64 (sfR d t u).c]) ∧ Gr w w' := by
  have HF := Lib.hid (fun W => isFigure_impl d t W)
  rcases (show fg d t = true ∨ fg d t = false by cases fg d t <;> simp) with hf | hf
  · rw [hf] at HF
    by_cases hu : 0 ≤ u ∧ u ≤ 1048576
    · have H := Lib.hid (sfR_ok d t u hf hu)
      have b1 := flg_bd d t hf
      have hS := Lib.hid (fun W => spR_impl ((flg d t).1 - u) ((flg d t).2 + u) W)
      rw [spR_ok _ _ (sf_iv d t u hf hu)] at hS
      rw [show spU ((flg d t).1 - u) ((flg d t).2 + u) = sfU d t u from rfl] at hS
      have F1 := Lib.hid hf
      have HL := Lib.hid (fun W => figLog_any d t W F1.out)
      generalize (flg d t).1 = x1 at *
      generalize (flg d t).2 = x2 at *
      generalize sfU d t u = x at *
      obtain ⟨u1, u2⟩ := hu
      clear hf
      go_enter Tryd.func75, Tryd.ntmps75
      go_wp2_with (first
        | (go_at_call 74; refine (HF.out _).mono ?_; rintro e w' ⟨rfl, k, os, rfl⟩)
        | (go_at_call 101; refine (HL.out _).mono ?_; rintro e w' ⟨rfl, k, os, rfl⟩)
        | (go_at_call 102; refine (spread10_any _ _ _ _ (by omega) (by omega) (by omega) (by omega) (by omega) (by omega)).mono ?_; rintro e w' ⟨rfl, k, os, rfl⟩)
        | (go_at_call 100; refine (hS.out _).mono ?_; rintro e w' ⟨rfl, k, os, rfl⟩))
      ((try simp only [Exit.inBlock, Exit.then]); refine bodyPost_ret (v := .tuple #[.agg #[.int .i64 (x).a, .int .i64 (x).s], .agg #[.int .i64 (x).b, .int .i64 (x).t], .int .i64 (x).c]) (by simp [results, Tryd.results75, go_sem]) rfl ?_)
      exact ⟨ret_sp' H.out, (by repeat (first | with_reducible exact Gr.refl _ | with_reducible refine Gr.alloc ?_ _ | with_reducible refine Gr.gr ?_ _ _ | with_reducible refine Gr.drew ?_ | with_reducible refine Gr.drewN ?_ _))⟩
    · have H := Lib.hid (sfR_rg d t u hf hu)
      have hu2 : u < 0 ∨ (0 ≤ u ∧ 1048576 < u) := by omega
      clear hf hu
      rcases hu2 with h1 | ⟨h1, h2⟩
      all_goals
        go_enter Tryd.func75, Tryd.ntmps75
        go_wp2_with (go_at_call 74; refine (HF.out _).mono ?_; rintro e w' ⟨rfl, k, os, rfl⟩)
        ((try simp only [Exit.inBlock, Exit.then]); refine bodyPost_ret (v := .tuple #[.agg #[.int .i64 0, .int .i64 0], .agg #[.int .i64 0, .int .i64 0], .int .i64 2]) (by simp [results, Tryd.results75, go_sem]) rfl ?_)
        exact ⟨ret_sp H.out, (by repeat (first | with_reducible exact Gr.refl _ | with_reducible refine Gr.alloc ?_ _ | with_reducible refine Gr.gr ?_ _ _ | with_reducible refine Gr.drew ?_ | with_reducible refine Gr.drewN ?_ _))⟩
  · have H := Lib.hid (sfR_no d t u hf)
    rw [hf] at HF
    clear hf
    go_enter Tryd.func75, Tryd.ntmps75
    go_wp2_with (go_at_call 74; refine (HF.out _).mono ?_; rintro e w' ⟨rfl, k, os, rfl⟩)
    ((try simp only [Exit.inBlock, Exit.then]); refine bodyPost_ret (v := .tuple #[.agg #[.int .i64 0, .int .i64 0], .agg #[.int .i64 0, .int .i64 0], .int .i64 1]) (by simp [results, Tryd.results75, go_sem]) rfl ?_)
    exact ⟨ret_sp H.out, (by repeat (first | with_reducible exact Gr.refl _ | with_reducible refine Gr.alloc ?_ _ | with_reducible refine Gr.gr ?_ _ _ | with_reducible refine Gr.drew ?_ | with_reducible refine Gr.drewN ?_ _))⟩

set_option maxHeartbeats 1000000 in
theorem l10Spread_any (d t u : Int) (w : World) (hf : fg d t = true) (hu : 0 ≤ u ∧ u ≤ 1048576) :
    Calls Tryd.prog 95 #[.agg #[.int .i64 d, .int .i64 t], .int .i64 u] w fun e w' => e = .returned (.tuple #[.agg #[.int .i64 (sfU d t u).a, .int .i64 (sfU d t u).s], .agg #[.int .i64 (sfU d t u).b, .int .i64 (sfU d t u).t], .int .i64 (sfU d t u).c]) ∧ Gr w w' := by
  have b1 := flg_bd d t hf
  have hS := Lib.hid (fun W => spU_spec ((flg d t).1 - u) ((flg d t).2 + u) W)
  rw [show spU ((flg d t).1 - u) ((flg d t).2 + u) = sfU d t u from rfl] at hS
  have HL := Lib.hid (fun W => figure_spec3 d t W hf)
  generalize (flg d t).1 = x1 at *
  generalize (flg d t).2 = x2 at *
  generalize sfU d t u = x at *
  obtain ⟨u1, u2⟩ := hu
  clear hf
  go_enter Tryd.func95, Tryd.ntmps95
  go_wp2_with (first
    | (go_at_call 117; refine (HL.out _).mono ?_; rintro e w' ⟨rfl, k, os, rfl⟩)
    | (go_at_call 118; refine (hS.out _).mono ?_; rintro e w' ⟨rfl, k, os, rfl⟩))
  ((try simp only [Exit.inBlock, Exit.then]); refine bodyPost_ret (v := .tuple #[.agg #[.int .i64 (x).a, .int .i64 (x).s], .agg #[.int .i64 (x).b, .int .i64 (x).t], .int .i64 (x).c]) (by simp [results, Tryd.results95, go_sem]) rfl ?_)
  exact ⟨rfl, (by repeat (first | with_reducible exact Gr.refl _ | with_reducible refine Gr.alloc ?_ _ | with_reducible refine Gr.gr ?_ _ _ | with_reducible refine Gr.drew ?_ | with_reducible refine Gr.drewN ?_ _))⟩
set_option maxHeartbeats 1000000 in
theorem sfR_spec (d t u : Int) (w : World) :
    Calls Tryd.prog 72 #[.agg #[.int .i64 d, .int .i64 t], .int .i64 u] w fun e w' => e = .returned (.tuple #[.agg #[.int .i64 (sfR d t u).a, .int .i64 (sfR d t u).s], .agg #[.int .i64 (sfR d t u).b, .int .i64 (sfR d t u).t], .int .i64 (sfR d t u).c]) ∧ Gr w w' := by
  have HF := Lib.hid (fun W => isFigure_spec d t W)
  have HI := Lib.hid (fun W => in_any u 0 1048576 W)
  rcases (show fg d t = true ∨ fg d t = false by cases fg d t <;> simp) with hf | hf
  · rw [hf] at HF
    by_cases hu : 0 ≤ u ∧ u ≤ 1048576
    · have H := Lib.hid (sfR_ok d t u hf hu)
      have hS := Lib.hid (fun W => l10Spread_any d t u W hf hu)
      rw [decide_eq_true hu] at HI
      generalize sfU d t u = x at *
      clear hf hu
      go_enter Tryd.func72, Tryd.ntmps72
      go_wp2_with (first
        | (go_at_call 71; refine (HF.out _).mono ?_; rintro e w' ⟨rfl, k, os, rfl⟩)
        | (go_at_call 65; refine (HI.out _).mono ?_; rintro e w' ⟨rfl, rfl⟩)
        | (go_at_call 95; refine (hS.out _).mono ?_; rintro e w' ⟨rfl, k, os, rfl⟩))
      ((try simp only [Exit.inBlock, Exit.then]); refine bodyPost_ret (v := .tuple #[.agg #[.int .i64 (x).a, .int .i64 (x).s], .agg #[.int .i64 (x).b, .int .i64 (x).t], .int .i64 (x).c]) (by simp [results, Tryd.results72, go_sem]) rfl ?_)
      exact ⟨ret_sp' H.out, (by repeat (first | with_reducible exact Gr.refl _ | with_reducible refine Gr.alloc ?_ _ | with_reducible refine Gr.gr ?_ _ _ | with_reducible refine Gr.drew ?_ | with_reducible refine Gr.drewN ?_ _))⟩
    · have H := Lib.hid (sfR_rg d t u hf hu)
      rw [decide_eq_false hu] at HI
      clear hf hu
      go_enter Tryd.func72, Tryd.ntmps72
      go_wp2_with (first
        | (go_at_call 71; refine (HF.out _).mono ?_; rintro e w' ⟨rfl, k, os, rfl⟩)
        | (go_at_call 65; refine (HI.out _).mono ?_; rintro e w' ⟨rfl, rfl⟩))
      ((try simp only [Exit.inBlock, Exit.then]); refine bodyPost_ret (v := .tuple #[.agg #[.int .i64 0, .int .i64 0], .agg #[.int .i64 0, .int .i64 0], .int .i64 2]) (by simp [results, Tryd.results72, go_sem]) rfl ?_)
      exact ⟨ret_sp H.out, (by repeat (first | with_reducible exact Gr.refl _ | with_reducible refine Gr.alloc ?_ _ | with_reducible refine Gr.gr ?_ _ _ | with_reducible refine Gr.drew ?_ | with_reducible refine Gr.drewN ?_ _))⟩
  · have H := Lib.hid (sfR_no d t u hf)
    rw [hf] at HF
    clear hf
    go_enter Tryd.func72, Tryd.ntmps72
    go_wp2_with (go_at_call 71; refine (HF.out _).mono ?_; rintro e w' ⟨rfl, k, os, rfl⟩)
    ((try simp only [Exit.inBlock, Exit.then]); refine bodyPost_ret (v := .tuple #[.agg #[.int .i64 0, .int .i64 0], .agg #[.int .i64 0, .int .i64 0], .int .i64 1]) (by simp [results, Tryd.results72, go_sem]) rfl ?_)
    exact ⟨ret_sp H.out, (by repeat (first | with_reducible exact Gr.refl _ | with_reducible refine Gr.alloc ?_ _ | with_reducible refine Gr.gr ?_ _ _ | with_reducible refine Gr.drew ?_ | with_reducible refine Gr.drewN ?_ _))⟩

theorem Blk.tri {w : World} {g : Nat} {t : TypeId} {x y z : Value} (h : Blk w g t #[x, y, z]) : w.cell? ⟨g, 0, none⟩ = some x ∧ w.cell? ⟨g, 1, none⟩ = some y ∧ w.cell? ⟨g, 2, none⟩ = some z ∧ (∀ i, w.frozen? ⟨g, i, none⟩ = false) := by
  have c0 := cell_of_row w g 0 _ _ _ h
  have c1 := cell_of_row w g 1 _ _ _ h
  have c2 := cell_of_row w g 2 _ _ _ h
  simp at c0 c1 c2
  exact ⟨c0, c1, c2, fun i => free_row h i⟩
theorem twoE_new (w : World) (T : TypeId) (a b c d e f : Value) :
    Blk ((w.alloc (.cells #[a, b, c] T)).alloc (.cells #[d, e, f] T)) w.heap.size T #[a, b, c] ∧ Blk ((w.alloc (.cells #[a, b, c] T)).alloc (.cells #[d, e, f] T)) (w.heap.size + 1) T #[d, e, f] ∧ Gr w ((w.alloc (.cells #[a, b, c] T)).alloc (.cells #[d, e, f] T)) := by
  refine ⟨(Blk.new w T _).alloc _, ?_, ((Gr.refl w).alloc _).alloc _⟩
  have := Blk.new (w.alloc (.cells #[a, b, c] T)) T #[d, e, f]
  simpa using this
end Go.Proofs.YtdbeedfapkfibaaDoor
