/- Contracts of chapter 6: the model's needed length: where there is none. -/
import Derived.Test.YtgadkpkpdpphbaaDoorC06d
namespace Go.Proofs.YtgadkpkpdpphbaaDoor
open Go.RowKit
set_option linter.unusedVariables false
set_option linter.unusedSimpArgs false

set_option maxHeartbeats 4000000 in
theorem nl_no (s d t e g : Int) (w : World) (h1 : fg d t = true) (h2 : ok7 s t e g = true) (h3 : fg (nlB d t g) (nlA d t g).2 = false ∨ (fg (nlB d t g) (nlA d t g).2 = true ∧ (nlA d t g).2 ≠ t)) (H : nlR s d t e g = (0, 2)) :
    Calls Tryd.prog 28 #[.int .i64 s, .agg #[.int .i64 d, .int .i64 t], .int .i64 e, .int .i64 g] w fun e' w' => e' = .returned (.tuple #[.int .i64 (nlR s d t e g).1, .int .i64 (nlR s d t e g).2]) ∧ Gr w w' := by
  have HF := Lib.hid (fun W => isFigure_spec d t W)
  have HD := Lib.hid (fun W => decades_spec s W)
  obtain ⟨d1, d2⟩ := dec_bd s
  have qd : IntKind.i64.wrap (dec s - 1) = dec s - 1 := IntWalk.i64_in _ (by omega)
  rcases ok7_cases s t e g with ⟨-, e1, e2, e3, e4⟩ | ⟨h, -⟩
  rotate_left
  · rw [h2] at h; cases h
  have H := Lib.hid H
  rw [h1] at HF
  obtain ⟨g1, g2⟩ := of_decide_eq_true e3
  have HC := Lib.hid (fun W => cut_spec d t g W h1 g1 g2)
  have HT := Lib.hid (fun W => ten_any (4 - g) W (by omega) (by omega))
  have hu := p10_bd (4 - g).toNat (by omega)
  have hb : 1000 ≤ (nlA d t g).1 ∧ (nlA d t g).1 ≤ 10000 := by
    have c := (fg_iff _ _).1 h1
    have := nd_lit d c.1.1 c.1.2 (4 - g).toNat (by omega)
    unfold nlA ctR
    split
    · simp
    · simp only; omega
  have qu : IntKind.i64.wrap ((nlA d t g).1 + p10 (4 - g).toNat) = nlB d t g := IntWalk.i64_in _ (by omega)
  have qg : IntKind.i64.wrap (4 - g) = 4 - g := IntWalk.i64_in _ (by omega)
  rw [show ctR d t (p10 (4 - g).toNat) = nlA d t g from rfl] at HC
  have HB := Lib.hid (fun W => isFigure_spec (nlB d t g) (nlA d t g).2 W)
  have hx : fg (nlB d t g) (nlA d t g).2 = false ∨ (fg (nlB d t g) (nlA d t g).2 = true ∧ ((nlA d t g).2 != t) = true) := by
    rcases h3 with h | ⟨h, h'⟩
    · exact .inl h
    · exact .inr ⟨h, by simp [h']⟩
  generalize nlB d t g = B at *
  generalize nlA d t g = A at *
  obtain ⟨A1, A2⟩ := A
  generalize p10 (4 - g).toNat = u at *
  have K1 := Lib.hid (show ∀ W, Calls Tryd.prog 66 #[.int .i64 s] W (fun e' w' => e' = .returned (.bool true) ∧ W = w') from fun W => e1 ▸ isScale_spec s W)
  have K2 := Lib.hid (show ∀ W, Calls Tryd.prog 67 #[.int .i64 e, .int .i64 0, .int .i64 200] W (fun e' w' => e' = .returned (.bool true) ∧ W = w') from fun W => e2 ▸ in_any e 0 200 W)
  have K3 := Lib.hid (show ∀ W, Calls Tryd.prog 67 #[.int .i64 g, .int .i64 1, .int .i64 4] W (fun e' w' => e' = .returned (.bool true) ∧ W = w') from fun W => e3 ▸ in_any g 1 4 W)
  have K4 := Lib.hid (show ∀ W, Calls Tryd.prog 67 #[.int .i64 t, .int .i64 0, .int .i64 (dec s - 1)] W (fun e' w' => e' = .returned (.bool true) ∧ W = w') from fun W => e4 ▸ in_any t 0 (dec s - 1) W)
  have K5 := Lib.hid (show ∀ W, Calls Tryd.prog 67 #[.int .i64 t, .int .i64 0, .int .i64 (IntKind.i64.wrap (dec s - 1))] W (fun e' w' => e' = .returned (.bool true) ∧ W = w') from fun W => qd.symm ▸ K4.out W)
  clear e1 e2 e3 e4
  generalize dec s = dc at *
  simp only at HC HB hx hb qu
  clear h1 h2 h3
  rcases hx with hx | ⟨hx, hx2⟩
  all_goals
    rw [hx] at HB
    clear hx
    go_enter Tryd.func28, Tryd.ntmps28
    go_wp2_with (go_at_call 65; refine (HF.out _).mono ?_; rintro e' w1 ⟨rfl, k, os, rfl⟩)
    ((first | refine region_gr_on (by kernel_rfl) (by kernel_rfl) ?_ | refine region_gr (by kernel_rfl) (by kernel_rfl) ?_); (repeat (quiet_step (first | with_reducible exact Calls.gr_same (K1.out _) | with_reducible exact Calls.gr_same (K2.out _) | with_reducible exact Calls.gr_same (K3.out _) | with_reducible exact Calls.gr_same (K4.out _) | with_reducible exact Calls.gr_same (K5.out _) | with_reducible exact Calls.gr_same (HD.out _)))); refine wpQuiet_nil ?_; intro _ hw'; obtain ⟨⟨kq, oq⟩, hw''⟩ := hw'; subst hw'')
    · go_wp2_with fail
      refine (HC.out _).mono ?_
      rintro e' w1 ⟨rfl, hg1⟩
      have G1 : Gr w w1 := Gr.trans (by repeat (first | with_reducible exact Gr.refl _ | with_reducible refine Gr.alloc ?_ _ | with_reducible refine Gr.gr ?_ _ _ | with_reducible refine Gr.drew ?_ | with_reducible refine Gr.drewN ?_ _)) hg1
      have c0 : w1.cell? ⟨w.heap.size, 0, none⟩ = some (.int .i64 d) := (hg1.below.cell (p := ⟨w.heap.size, 0, none⟩) (by simp only [gr_size, World.size_alloc]; omega)).trans (by (first | (go_simp; done) | (simp (disch := first | omega | (simp [gr_size]; done) | (simp [gr_size]; omega)) [gr_cell, World.cell?_drew, World.cell?_alloc_at, World.cell?_alloc_past]; done)))
      have c1 : w1.cell? ⟨w.heap.size, 1, none⟩ = some (.int .i64 t) := (hg1.below.cell (p := ⟨w.heap.size, 1, none⟩) (by simp only [gr_size, World.size_alloc]; omega)).trans (by (first | (go_simp; done) | (simp (disch := first | omega | (simp [gr_size]; done) | (simp [gr_size]; omega)) [gr_cell, World.cell?_drew, World.cell?_alloc_at, World.cell?_alloc_past]; done)))
      have l1 : w.heap.size < w1.heap.size := World.block_lt_of_cell? w1 _ c0
      have n1 : w.heap.size ≠ w1.heap.size := Nat.ne_of_lt l1
      have l2 : w.heap.size < w1.heap.size + 1 + 1 := by omega
      clear hg1
      go_wp2_with fail
      go_region_held3 (fun w' => w'.cell? ⟨w1.heap.size, 0, none⟩ = some (.int .i64 A1) ∧ w'.cell? ⟨w1.heap.size, 1, none⟩ = some (.int .i64 A2)) (first | (go_simp; done) | (simp (disch := first | omega | (simp [gr_size]; done) | (simp [gr_size]; omega)) [gr_cell, World.cell?_drew, World.cell?_alloc_at, World.cell?_alloc_past]; done)) (first
        | (go_at_call 69; (try rw [qg]); refine (HT.out _).mono ?_; rintro e' w' ⟨rfl, rfl⟩))
      all_goals
        (try rw [qu])
        go_wp2_with (go_at_call 65; refine (HB.out _).mono ?_; rintro e' w' ⟨rfl, k, os, rfl⟩)
        go_ret2
        exact ⟨ret_two (by rw [H.out]) (by rw [H.out]), G1.trans (by repeat (first | with_reducible exact Gr.refl _ | with_reducible refine Gr.alloc ?_ _ | with_reducible refine Gr.gr ?_ _ _ | with_reducible refine Gr.drew ?_ | with_reducible refine Gr.drewN ?_ _))⟩

set_option maxHeartbeats 4000000 in
theorem nl_bad (s d t e g : Int) (w : World) (hh : (fg d t = false ∧ nlR s d t e g = (0, 1)) ∨ (fg d t = true ∧ ok7 s t e g = false ∧ nlR s d t e g = (0, 2))) :
    Calls Tryd.prog 28 #[.int .i64 s, .agg #[.int .i64 d, .int .i64 t], .int .i64 e, .int .i64 g] w fun e' w' => e' = .returned (.tuple #[.int .i64 (nlR s d t e g).1, .int .i64 (nlR s d t e g).2]) ∧ Gr w w' := by
  have HF := Lib.hid (fun W => isFigure_spec d t W)
  have HD := Lib.hid (fun W => decades_spec s W)
  obtain ⟨d1, d2⟩ := dec_bd s
  have qd : IntKind.i64.wrap (dec s - 1) = dec s - 1 := IntWalk.i64_in _ (by omega)
  rcases hh with ⟨h1, H⟩ | ⟨h1, h2, H⟩
  · have H := Lib.hid H
    rw [h1] at HF
    clear h1 HD qd
    go_enter Tryd.func28, Tryd.ntmps28
    go_wp2_with (go_at_call 65; refine (HF.out _).mono ?_; rintro e' w' ⟨rfl, k, os, rfl⟩)
    go_ret2
    exact ⟨ret_two (by rw [H.out]) (by rw [H.out]), (by repeat (first | with_reducible exact Gr.refl _ | with_reducible refine Gr.alloc ?_ _ | with_reducible refine Gr.gr ?_ _ _ | with_reducible refine Gr.drew ?_ | with_reducible refine Gr.drewN ?_ _))⟩
  · have H := Lib.hid H
    rw [h1] at HF
    clear h1
    rcases ok7_cases s t e g with ⟨h, -⟩ | ⟨-, hc⟩
    · rw [h2] at h; cases h
    clear h2
    rcases hc with e1 | ⟨e1, e2⟩ | ⟨e1, e2, e3⟩ | ⟨e1, e2, e3, e4⟩
    · have K1 := Lib.hid (show ∀ W, Calls Tryd.prog 66 #[.int .i64 s] W (fun e' w' => e' = .returned (.bool false) ∧ W = w') from fun W => e1 ▸ isScale_spec s W)
      clear e1
      generalize dec s = dc at *
      go_enter Tryd.func28, Tryd.ntmps28
      go_wp2_with (go_at_call 65; refine (HF.out _).mono ?_; rintro e' w1 ⟨rfl, k, os, rfl⟩)
      ((first | refine region_gr_on (by kernel_rfl) (by kernel_rfl) ?_ | refine region_gr (by kernel_rfl) (by kernel_rfl) ?_); (repeat (quiet_step (first | with_reducible exact Calls.gr_same (K1.out _)))); refine wpQuiet_nil ?_; intro _ hw'; obtain ⟨⟨kq, oq⟩, hw''⟩ := hw'; subst hw'')
      go_wp2
      go_ret2
      exact ⟨ret_two (by rw [H.out]) (by rw [H.out]), (by repeat (first | with_reducible exact Gr.refl _ | with_reducible refine Gr.alloc ?_ _ | with_reducible refine Gr.gr ?_ _ _ | with_reducible refine Gr.drew ?_ | with_reducible refine Gr.drewN ?_ _))⟩
    · have K1 := Lib.hid (show ∀ W, Calls Tryd.prog 66 #[.int .i64 s] W (fun e' w' => e' = .returned (.bool true) ∧ W = w') from fun W => e1 ▸ isScale_spec s W)
      have K2 := Lib.hid (show ∀ W, Calls Tryd.prog 67 #[.int .i64 e, .int .i64 0, .int .i64 200] W (fun e' w' => e' = .returned (.bool false) ∧ W = w') from fun W => e2 ▸ in_any e 0 200 W)
      clear e1 e2
      generalize dec s = dc at *
      go_enter Tryd.func28, Tryd.ntmps28
      go_wp2_with (go_at_call 65; refine (HF.out _).mono ?_; rintro e' w1 ⟨rfl, k, os, rfl⟩)
      ((first | refine region_gr_on (by kernel_rfl) (by kernel_rfl) ?_ | refine region_gr (by kernel_rfl) (by kernel_rfl) ?_); (repeat (quiet_step (first | with_reducible exact Calls.gr_same (K1.out _) | with_reducible exact Calls.gr_same (K2.out _)))); refine wpQuiet_nil ?_; intro _ hw'; obtain ⟨⟨kq, oq⟩, hw''⟩ := hw'; subst hw'')
      go_wp2
      go_ret2
      exact ⟨ret_two (by rw [H.out]) (by rw [H.out]), (by repeat (first | with_reducible exact Gr.refl _ | with_reducible refine Gr.alloc ?_ _ | with_reducible refine Gr.gr ?_ _ _ | with_reducible refine Gr.drew ?_ | with_reducible refine Gr.drewN ?_ _))⟩
    · have K1 := Lib.hid (show ∀ W, Calls Tryd.prog 66 #[.int .i64 s] W (fun e' w' => e' = .returned (.bool true) ∧ W = w') from fun W => e1 ▸ isScale_spec s W)
      have K2 := Lib.hid (show ∀ W, Calls Tryd.prog 67 #[.int .i64 e, .int .i64 0, .int .i64 200] W (fun e' w' => e' = .returned (.bool true) ∧ W = w') from fun W => e2 ▸ in_any e 0 200 W)
      have K3 := Lib.hid (show ∀ W, Calls Tryd.prog 67 #[.int .i64 g, .int .i64 1, .int .i64 4] W (fun e' w' => e' = .returned (.bool false) ∧ W = w') from fun W => e3 ▸ in_any g 1 4 W)
      clear e1 e2 e3
      generalize dec s = dc at *
      go_enter Tryd.func28, Tryd.ntmps28
      go_wp2_with (go_at_call 65; refine (HF.out _).mono ?_; rintro e' w1 ⟨rfl, k, os, rfl⟩)
      ((first | refine region_gr_on (by kernel_rfl) (by kernel_rfl) ?_ | refine region_gr (by kernel_rfl) (by kernel_rfl) ?_); (repeat (quiet_step (first | with_reducible exact Calls.gr_same (K1.out _) | with_reducible exact Calls.gr_same (K2.out _) | with_reducible exact Calls.gr_same (K3.out _)))); refine wpQuiet_nil ?_; intro _ hw'; obtain ⟨⟨kq, oq⟩, hw''⟩ := hw'; subst hw'')
      go_wp2
      go_ret2
      exact ⟨ret_two (by rw [H.out]) (by rw [H.out]), (by repeat (first | with_reducible exact Gr.refl _ | with_reducible refine Gr.alloc ?_ _ | with_reducible refine Gr.gr ?_ _ _ | with_reducible refine Gr.drew ?_ | with_reducible refine Gr.drewN ?_ _))⟩
    · have K1 := Lib.hid (show ∀ W, Calls Tryd.prog 66 #[.int .i64 s] W (fun e' w' => e' = .returned (.bool true) ∧ W = w') from fun W => e1 ▸ isScale_spec s W)
      have K2 := Lib.hid (show ∀ W, Calls Tryd.prog 67 #[.int .i64 e, .int .i64 0, .int .i64 200] W (fun e' w' => e' = .returned (.bool true) ∧ W = w') from fun W => e2 ▸ in_any e 0 200 W)
      have K3 := Lib.hid (show ∀ W, Calls Tryd.prog 67 #[.int .i64 g, .int .i64 1, .int .i64 4] W (fun e' w' => e' = .returned (.bool true) ∧ W = w') from fun W => e3 ▸ in_any g 1 4 W)
      have K4 := Lib.hid (show ∀ W, Calls Tryd.prog 67 #[.int .i64 t, .int .i64 0, .int .i64 (dec s - 1)] W (fun e' w' => e' = .returned (.bool false) ∧ W = w') from fun W => e4 ▸ in_any t 0 (dec s - 1) W)
      have K5 := Lib.hid (show ∀ W, Calls Tryd.prog 67 #[.int .i64 t, .int .i64 0, .int .i64 (IntKind.i64.wrap (dec s - 1))] W (fun e' w' => e' = .returned (.bool false) ∧ W = w') from fun W => qd.symm ▸ K4.out W)
      clear e1 e2 e3 e4
      generalize dec s = dc at *
      go_enter Tryd.func28, Tryd.ntmps28
      go_wp2_with (go_at_call 65; refine (HF.out _).mono ?_; rintro e' w1 ⟨rfl, k, os, rfl⟩)
      ((first | refine region_gr_on (by kernel_rfl) (by kernel_rfl) ?_ | refine region_gr (by kernel_rfl) (by kernel_rfl) ?_); (repeat (quiet_step (first | with_reducible exact Calls.gr_same (K1.out _) | with_reducible exact Calls.gr_same (K2.out _) | with_reducible exact Calls.gr_same (K3.out _) | with_reducible exact Calls.gr_same (K4.out _) | with_reducible exact Calls.gr_same (K5.out _) | with_reducible exact Calls.gr_same (HD.out _)))); refine wpQuiet_nil ?_; intro _ hw'; obtain ⟨⟨kq, oq⟩, hw''⟩ := hw'; subst hw'')
      go_wp2
      go_ret2
      exact ⟨ret_two (by rw [H.out]) (by rw [H.out]), (by repeat (first | with_reducible exact Gr.refl _ | with_reducible refine Gr.alloc ?_ _ | with_reducible refine Gr.gr ?_ _ _ | with_reducible refine Gr.drew ?_ | with_reducible refine Gr.drewN ?_ _))⟩
end Go.Proofs.YtgadkpkpdpphbaaDoor
