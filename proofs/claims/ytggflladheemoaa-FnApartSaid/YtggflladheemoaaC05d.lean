/- Contracts of chapter 5: places and distances, in the program and in the model. -/
import Derived.Test.YtggflladheemoaaC05c
import Derived.Test.Ytggflladheemoaa3A
import Derived.Test.Ytggflladheemoaa2A
namespace Go.Proofs.Ytggflladheemoaa
open Go.RowKit
set_option linter.unusedVariables false
set_option linter.unusedSimpArgs false

/-- A position times a length, over a decade. -/
theorem tms_len (a b l : Int) (h : 1 ≤ l) : (tms a b l).1 = a * l ∧ (tms a b l).2 = b * l := by
  rw [tms_pos a b l (by omega)]
  exact ⟨rfl, rfl⟩

theorem place_spec (a b l : Int) (w : World) (p1 : -2000000 ≤ a) (p2 : a ≤ 3200000) (p3 : -2000000 ≤ b) (p4 : b ≤ 3200000) (l1 : 1 ≤ l) (l2 : l ≤ 100000) :
    Calls Try.prog 82 #[.agg #[.int .i64 a, .int .i64 b], .int .i64 l] w fun e w' => e = .returned (.agg #[.int .i64 (plc a b l).1, .int .i64 (plc a b l).2]) ∧ Gr w w' := by
  obtain ⟨m1, m2⟩ := mul_len a l p1 p2 l1 l2
  obtain ⟨m3, m4⟩ := mul_len b l p3 p4 l1 l2
  have HF := Lib.hid (fun W => floor_any (a * l) 1048576 W (by omega) (by omega) (by omega) (by omega) (by omega))
  have HC := Lib.hid (fun W => ceil_any (b * l) 1048576 W (by omega) (by omega) (by omega) (by omega) (by omega))
  go_enter Try.func82, Try.ntmps82
  go_wp2_with fail
  have q1 : IntKind.i64.wrap (a * l) = a * l := IntWalk.i64_in _ (by omega)
  have q2 : IntKind.i64.wrap (b * l) = b * l := IntWalk.i64_in _ (by omega)
  go_region_held3 (fun w' => w'.cell? ⟨w.heap.size, 0, none⟩ = some (.int .i64 a) ∧ w'.cell? ⟨w.heap.size, 1, none⟩ = some (.int .i64 b)) (go_simp) (first
    | (go_at_call 84; (try rw [q1]); refine (HF.out _).mono ?_; rintro e w' ⟨rfl, rfl⟩)
    | (go_at_call 85; (try rw [q2]); refine (HC.out _).mono ?_; rintro e w' ⟨rfl, rfl⟩))
  all_goals
    go_wp2
    ((try simp only [Exit.inBlock, Exit.then]); refine bodyPost_ret (v := .agg #[.int .i64 ((a * l).fdiv 1048576), .int .i64 (cd (b * l) 1048576)]) (by simp [results, Try.results82, go_sem]) rfl ?_)
    exact ⟨rfl, (by repeat (first | with_reducible exact Gr.refl _ | with_reducible refine Gr.alloc ?_ _ | with_reducible refine Gr.gr ?_ _ _ | with_reducible refine Gr.drew ?_ | with_reducible refine Gr.drewN ?_ _))⟩

theorem pcd_sc {s d t : Int} (h : pcd s d t = 0) : sc s = true := by
  rcases pcd_cases s d t with ⟨-, e⟩ | ⟨-, -, e⟩ | ⟨-, -, -, e⟩ | ⟨-, h2, -, -⟩
  · omega
  · omega
  · omega
  · exact h2

end Go.Proofs.Ytggflladheemoaa
