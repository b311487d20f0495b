/- Contracts of chapter 11: the model's codes, readings and settings. -/
import Derived.Test.YtefhhigcplemaaaDoorC11k
namespace Go.Proofs.YtefhhigcplemaaaDoor
open Go.RowKit
set_option linter.unusedVariables false
set_option linter.unusedSimpArgs false

theorem ret_sg11 (a b c : Int) (x : (Int × Int) × Int) (h : x = ((a, b), c)) : Ending.returned (.tuple #[.agg #[.int .i64 a, .int .i64 b], .int .i64 c]) = .returned (.tuple #[.agg #[.int .i64 x.1.1, .int .i64 x.1.2], .int .i64 x.2]) := by rw [h]
theorem rcd_stock {L : Int} {xs ys : List Int} {a q : Int} {b : Bool} {s : Int} (h : rcd L xs ys a q b s = 0) : sgB a q = true ∧ lsc s = true := by
  rcases rcd_cases L xs ys a q b s with ⟨-, e⟩ | ⟨-, -, e⟩ | ⟨-, -, -, e⟩ | ⟨h1, h2, h3, -⟩
  · omega
  · omega
  · omega
  · exact ⟨h2, onP_mem h1 h3⟩
theorem cursor11_spec (a q : Int) (b : Bool) (s u t : Int) (w : World) (hf : fg u t = true) (hs : sc s = true) (ha : -1048576 ≤ a ∧ a ≤ 1048576) :
    Calls Tryd.prog 72 #[.agg #[.int .i64 (a), .int .i64 (q)], .bool b, .int .i64 s, .agg #[.int .i64 u, .int .i64 t]] w fun e w' => e = .returned (.agg #[.int .i64 (a), .int .i64 (stP b a + pnt s u t)]) ∧ Gr w w' := by
  have HP := Lib.hid (fun W => point_spec s u t W hf hs)
  have bp := pnt_bd s u t hf
  generalize pnt s u t = x at *
  obtain ⟨a1, a2⟩ := ha
  obtain ⟨x1, x2⟩ := bp
  cases b
  · rw [stP_f, Int.zero_add]
    go_enter Tryd.func72, Tryd.ntmps72
    go_wp2_with (go_at_call 73; (with_reducible refine (HP.out _).mono ?_); rintro e w' ⟨rfl, k, os, rfl⟩)
    ((try simp only [Exit.inBlock, Exit.then]); refine bodyPost_ret (v := .agg #[.int .i64 (a), .int .i64 (x)]) (by simp [results, Tryd.results72, go_sem]) rfl ?_)
    exact ⟨rfl, (by repeat (first | with_reducible exact Gr.refl _ | with_reducible refine Gr.alloc ?_ _ | with_reducible refine Gr.gr ?_ _ _ | with_reducible refine Gr.drew ?_ | with_reducible refine Gr.drewN ?_ _))⟩
  · rw [stP_t]
    go_enter Tryd.func72, Tryd.ntmps72
    go_wp2_with (go_at_call 73; (with_reducible refine (HP.out _).mono ?_); rintro e w' ⟨rfl, k, os, rfl⟩)
    ((try simp only [Exit.inBlock, Exit.then]); refine bodyPost_ret (v := .agg #[.int .i64 (a), .int .i64 (x + a)]) (by simp [results, Tryd.results72, go_sem]) rfl ?_)
    exact ⟨ret_agg rfl (Int.add_comm _ _), (by repeat (first | with_reducible exact Gr.refl _ | with_reducible refine Gr.alloc ?_ _ | with_reducible refine Gr.gr ?_ _ _ | with_reducible refine Gr.drew ?_ | with_reducible refine Gr.drewN ?_ _))⟩

end Go.Proofs.YtefhhigcplemaaaDoor
