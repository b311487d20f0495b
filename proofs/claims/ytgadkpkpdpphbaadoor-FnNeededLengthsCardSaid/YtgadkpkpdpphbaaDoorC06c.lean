/- Contracts of chapter 6: what the model answers of needed lengths. -/
import Derived.Test.YtgadkpkpdpphbaaDoorC06b
import Derived.Test.YtgadkpkpdpphbaaDoorC02d
import Derived.Test.YtgadkpkpdpphbaaDoorGn
namespace Go.Proofs.YtgadkpkpdpphbaaDoor
open Go.RowKit
set_option linter.unusedVariables false
set_option linter.unusedSimpArgs false

set_option maxHeartbeats 16000000 in
set_option maxRecDepth 10000 in
theorem apart_spec (s a t b u l e : Int) (w : World) (h1 : fg a t = true) (h2 : fg b u = true) (hs : sc s = true) (hl : ln l = true) (he : 0 ≤ e ∧ e ≤ 200) :
    Calls Tryd.prog 70 #[.int .i64 s, .agg #[.int .i64 a, .int .i64 t], .agg #[.int .i64 b, .int .i64 u], .int .i64 l, .int .i64 e] w fun e' w' => e' = .returned (.bool (apt s a t b u l e)) ∧ Gr w w' := by
  have HP1 := Lib.hid (fun W => position_spec s a t W h1 hs (lgb_ok h1))
  have HL1 := Lib.hid (fun W => pl_spec s a t l W h1 hl)
  have HP2 := Lib.hid (fun W => position_spec s b u W h2 hs (lgb_ok h2))
  have HL2 := Lib.hid (fun W => pl_spec s b u l W h2 hl)
  obtain ⟨p1, p2, p3, p4, -⟩ := pl_bd s a t l h1 hl
  obtain ⟨q1, q2, q3, q4, -⟩ := pl_bd s b u l h2 hl
  have HM := Lib.hid (show apt s a t b u l e = decide ((pl s b u l).2 + e ≤ (pl s a t l).1 ∨ (pl s a t l).2 + e ≤ (pl s b u l).1) from rfl)
  generalize apt s a t b u l e = m at *
  generalize pl s a t l = y at *
  generalize pl s b u l = z at *
  obtain ⟨y1, y2⟩ := y
  obtain ⟨z1, z2⟩ := z
  simp only at p1 p2 p3 p4 q1 q2 q3 q4 HL1 HL2 HM
  generalize psn s a t = x1 at *
  generalize psn s b u = x2 at *
  clear h1 h2 hs hl
  · go_enter Tryd.func70, Tryd.ntmps70
    go_wp2_with fail
    go_region_held3 (fun w' => w'.cell? ⟨w.heap.size, 0, none⟩ = some (.int .i64 a) ∧ w'.cell? ⟨w.heap.size, 1, none⟩ = some (.int .i64 t) ∧ w'.cell? ⟨w.heap.size + 1, 0, none⟩ = some (.int .i64 b) ∧ w'.cell? ⟨w.heap.size + 1, 1, none⟩ = some (.int .i64 u)) (first | (go_simp; done) | (simp (disch := first | omega | (simp [gr_size]; done) | (simp [gr_size]; omega)) [gr_cell, World.cell?_drew, World.cell?_alloc_at, World.cell?_alloc_past]; done)) (first
      | (go_at_call 88; (first | with_reducible refine (HP1.out _).mono ?_ | with_reducible refine (HP2.out _).mono ?_); rintro e' w' ⟨rfl, k, os, rfl⟩)
      | (go_at_call 87; (first | with_reducible refine (HL1.out _).mono ?_ | with_reducible refine (HL2.out _).mono ?_); rintro e' w' ⟨rfl, k, os, rfl⟩))
    all_goals
      by_cases c1 : z2 + e ≤ y1 <;> by_cases c2 : y2 + e ≤ z1
      all_goals
        go_wp2
        go_ret
        exact ⟨ret_bool (by rw [HM.out]; simp [c1, c2]), (by repeat (first | with_reducible exact Gr.refl _ | with_reducible refine Gr.alloc ?_ _ | with_reducible refine Gr.gr ?_ _ _ | with_reducible refine Gr.drew ?_ | with_reducible refine Gr.drewN ?_ _))⟩
end Go.Proofs.YtgadkpkpdpphbaaDoor
