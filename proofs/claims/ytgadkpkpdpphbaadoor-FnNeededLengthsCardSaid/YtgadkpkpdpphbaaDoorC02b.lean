/- Contracts of chapter 2: fractions rounded to a figure. -/
import Derived.Test.YtgadkpkpdpphbaaDoorC02a
namespace Go.Proofs.YtgadkpkpdpphbaaDoor
open Go.RowKit
set_option linter.unusedVariables false
set_option linter.unusedSimpArgs false

theorem round_impl (n d : Int) (w : World) (n1 : 1 ≤ n) (n2 : n ≤ 1000000000) (d1 : 1 ≤ d) (d2 : d ≤ 1000000000) :
    Calls Tryd.prog 72 #[.int .i64 n, .int .i64 d] w fun e w' => e = .returned (.agg #[.int .i64 (rdd n d 3).1, .int .i64 (rdd n d 3).2]) ∧ Gr w w' := by
  go_enter Tryd.func72, Tryd.ntmps72
  go_wp2
  go_loop [0, 5] (fun x y => ∃ (m : Int) (i : Nat), x = .int .i64 m ∧ y = .int .i64 (3 - i) ∧ 0 < m ∧ m ≤ 10000000000000 ∧ p10 i ≤ m ∧ (m < 10000 * d ∨ i = 0) ∧ Hid (rdd m d (3 - i) = rdd n d 3)) (fun x _ => (1000 * d - intOf x).toNat)
  case atStart => exact ⟨n, 0, rfl, rfl, by omega, by omega, by simp [p10]; omega, .inr rfl, Lib.hid (by simp)⟩
  case round =>
    obtain ⟨m, i, rfl, rfl, hm, hm2, hi, ho, HR⟩ := hrel
    have hi2 := p10_le i (by omega)
    by_cases hlt : m < 1000 * d
    · have HD := Lib.hid (rdd_down m d (3 - i) (by omega) hm hlt)
      have HS := Lib.hid (p10_succ i)
      go_wp2
      go_round
      case rel => exact ⟨10 * m, i + 1, by congr 1; omega, by congr 1; omega, by omega, by omega, by rw [HS.out]; omega, .inl (by omega), Lib.hid (by rw [← HR.out, ← HD.out]; congr 1; omega)⟩
      case measure => simp [intOf]; omega
    · have hlo : 1000 * d ≤ m := by omega
      clear hlt
      go_wp2
      go_loop [1, 5] (fun x y => ∃ (e : Int) (j : Nat), x = .int .i64 e ∧ y = .int .i64 (3 - i + j) ∧ 0 < e ∧ p10 j ≤ e ∧ 1000 * e ≤ m ∧ Hid (rdd m e (3 - i + j) = rdd n d 3)) (fun x _ => (m - intOf x).toNat)
      case atStart => exact ⟨d, 0, rfl, by simp, by omega, by simp [p10]; omega, by omega, Lib.hid (by rw [← HR.out]; simp)⟩
      case round =>
        obtain ⟨e, j, rfl, rfl, he, hj, hle, HQ⟩ := hrel
        have hj2 := p10_le j (by omega)
        by_cases hge : 10000 * e ≤ m
        · have HD := Lib.hid (rdd_up m e (3 - i + j) he hm hge)
          have HS := Lib.hid (p10_succ j)
          go_wp2
          go_round
          case rel => exact ⟨10 * e, j + 1, by congr 1; omega, by congr 1; omega, by omega, by rw [HS.out]; omega, by omega, Lib.hid (by rw [← HQ.out, ← HD.out]; congr 1; omega)⟩
          case measure => simp [intOf]; omega
        · have hnd := nd_bd m e he (by omega) hle
          have HE := Lib.hid (rdd_end m e (3 - i + j) he (by omega) hle)
          have hge' : m < 10000 * e := by omega
          clear hge
          by_cases h9 : 9999 < nd m e
          · have HN := Lib.hid (HE.out.2 h9)
            go_wp2_with (go_at_call 73; refine (quotientNear_any _ _ _ (by omega) (by omega) (by omega) (by omega) (by omega)).mono ?_; rintro e w' ⟨rfl, rfl⟩)
            ((try simp only [Exit.inBlock, Exit.then]); refine bodyPost_ret (v := .agg #[.int .i64 1000, .int .i64 (3 - i + j + 1)]) (by simp [results, Tryd.results72, go_sem]) rfl ?_)
            exact ⟨ret_agg (by rw [← HQ.out, HN.out]) (by rw [← HQ.out, HN.out]), (by repeat (first | with_reducible exact Gr.refl _ | with_reducible refine Gr.alloc ?_ _ | with_reducible refine Gr.gr ?_ _ _ | with_reducible refine Gr.drew ?_ | with_reducible refine Gr.drewN ?_ _))⟩
          · have HN := Lib.hid (HE.out.1 (by omega))
            go_wp2_with (go_at_call 73; refine (quotientNear_any _ _ _ (by omega) (by omega) (by omega) (by omega) (by omega)).mono ?_; rintro e w' ⟨rfl, rfl⟩)
            ((try simp only [Exit.inBlock, Exit.then]); refine bodyPost_ret (v := .agg #[.int .i64 (nd m e), .int .i64 (3 - i + j)]) (by simp [results, Tryd.results72, go_sem]) rfl ?_)
            exact ⟨ret_agg (by rw [← HQ.out, HN.out]) (by rw [← HQ.out, HN.out]), (by repeat (first | with_reducible exact Gr.refl _ | with_reducible refine Gr.alloc ?_ _ | with_reducible refine Gr.gr ?_ _ _ | with_reducible refine Gr.drew ?_ | with_reducible refine Gr.drewN ?_ _))⟩

end Go.Proofs.YtgadkpkpdpphbaaDoor
