/- Contracts of chapter 2: comparing, rounding to fewer digits, relative errors. -/
import Derived.Test.YtgadkpkpdpphbaaDoorC02c
namespace Go.Proofs.YtgadkpkpdpphbaaDoor
open Go.RowKit
set_option linter.unusedVariables false
set_option linter.unusedSimpArgs false

theorem cmR_impl (a s b t : Int) (w : World) :
    Calls Tryd.prog 55 #[.agg #[.int .i64 a, .int .i64 s], .agg #[.int .i64 b, .int .i64 t]] w fun e w' => e = .returned (.tuple #[.int .i64 (cmR a s b t).1, .int .i64 (cmR a s b t).2]) ∧ Gr w w' := by
  rcases two_cases a s b t with ⟨h0, h1, h2⟩ | ⟨hn, hc⟩
  · have H := Lib.hid (cmR_ok a s b t h1 h2)
    obtain ⟨⟨a1, a2⟩, s1, s2⟩ := (fg_iff a s).1 h1
    obtain ⟨⟨b1, b2⟩, t1, t2⟩ := (fg_iff b t).1 h2
    have E1 := Lib.hid h1
    have E2 := Lib.hid h2
    clear h0 h1 h2
    go_enter Tryd.func55, Tryd.ntmps55
    go_wp2_with (go_at_call 60; refine (isFigure_impl _ _ _).mono ?_; (first | rw [E1.out] | rw [E2.out]); rintro e w' ⟨rfl, k, os, rfl⟩)
    ((first | refine region_gr_on (by kernel_rfl) (by kernel_rfl) ?_ | refine region_gr (by kernel_rfl) (by kernel_rfl) ?_); (repeat (quiet_step (first | (refine Calls.gr_of (rank_any _ _ _ ?_ ?_ ?_ ?_) <;> omega) | exact Calls.gr_same (cmp_any _ _ _)))); refine wpQuiet_nil ?_; intro _ hw'; obtain ⟨⟨kq, oq⟩, hw''⟩ := hw'; subst hw'')
    go_wp2
    go_ret2
    exact ⟨ret_two (by rw [H.out]) (by rw [H.out]), (by repeat (first | with_reducible exact Gr.refl _ | with_reducible refine Gr.alloc ?_ _ | with_reducible refine Gr.gr ?_ _ _ | with_reducible refine Gr.drew ?_ | with_reducible refine Gr.drewN ?_ _))⟩
  · have H := Lib.hid (cmR_no a s b t hn)
    clear hn
    rcases hc with h | ⟨h, h'⟩
    · have E1 := Lib.hid h
      clear h
      go_enter Tryd.func55, Tryd.ntmps55
      go_wp2_with (go_at_call 60; refine (isFigure_impl _ _ _).mono ?_; rw [E1.out]; rintro e w' ⟨rfl, k, os, rfl⟩)
      go_ret2
      exact ⟨ret_two (by rw [H.out]) (by rw [H.out]), (by repeat (first | with_reducible exact Gr.refl _ | with_reducible refine Gr.alloc ?_ _ | with_reducible refine Gr.gr ?_ _ _ | with_reducible refine Gr.drew ?_ | with_reducible refine Gr.drewN ?_ _))⟩
    · have E1 := Lib.hid h
      have E2 := Lib.hid h'
      clear h h'
      go_enter Tryd.func55, Tryd.ntmps55
      go_wp2_with (go_at_call 60; refine (isFigure_impl _ _ _).mono ?_; (first | rw [E1.out] | rw [E2.out]); rintro e w' ⟨rfl, k, os, rfl⟩)
      go_ret2
      exact ⟨ret_two (by rw [H.out]) (by rw [H.out]), (by repeat (first | with_reducible exact Gr.refl _ | with_reducible refine Gr.alloc ?_ _ | with_reducible refine Gr.gr ?_ _ _ | with_reducible refine Gr.drew ?_ | with_reducible refine Gr.drewN ?_ _))⟩

theorem cut_spec (a s g : Int) (w : World) (h : fg a s = true) (g1 : 1 ≤ g) (g2 : g ≤ 4) :
    Calls Tryd.prog 68 #[.agg #[.int .i64 a, .int .i64 s], .int .i64 g] w fun e w' => e = .returned (.agg #[.int .i64 (ctR a s (p10 (4 - g).toNat)).1, .int .i64 (ctR a s (p10 (4 - g).toNat)).2]) ∧ Gr w w' := by
  obtain ⟨⟨a1, a2⟩, s1, s2⟩ := (fg_iff a s).1 h
  have hu := nd_lit a a1 a2 (4 - g).toNat (by omega)
  obtain ⟨m1, m2, n1, n2, hp⟩ := hu
  have hb := p10_bd (4 - g).toNat (by omega)
  have hp1 : p10 (4 - g).toNat ≤ 1000 := by omega
  have hi := ctR_hi a s (p10 (4 - g).toNat)
  have lo := ctR_lo a s (p10 (4 - g).toNat)
  clear hp
  by_cases he : p10 (4 - g).toNat * nd a (p10 (4 - g).toNat) = 10000
  · have H := Lib.hid (hi he)
    have hq : (p10 (4 - g).toNat * nd a (p10 (4 - g).toNat) == 10000) = true := by simp [he]
    clear he hi lo
    go_enter Tryd.func68, Tryd.ntmps68
    go_wp2_with (first
      | (go_at_call 69; refine (ten_any _ _ (by omega) (by omega)).mono ?_; rintro e w' ⟨rfl, rfl⟩)
      | (go_at_call 99; refine (nearest_any _ _ _ (by omega) (by omega) (by omega) (by omega) (by omega)).mono ?_; rintro e w' ⟨rfl, rfl⟩))
    ((try simp only [Exit.inBlock, Exit.then]); refine bodyPost_ret (v := .agg #[.int .i64 1000, .int .i64 (s + 1)]) (by simp [results, Tryd.results68, go_sem]) rfl ?_)
    exact ⟨ret_agg (by rw [H.out]) (by rw [H.out]), (by repeat (first | with_reducible exact Gr.refl _ | with_reducible refine Gr.alloc ?_ _ | with_reducible refine Gr.gr ?_ _ _ | with_reducible refine Gr.drew ?_ | with_reducible refine Gr.drewN ?_ _))⟩
  · have H := Lib.hid (lo he)
    have hq : (p10 (4 - g).toNat * nd a (p10 (4 - g).toNat) == 10000) = false := by simp [he]
    clear he hi lo
    go_enter Tryd.func68, Tryd.ntmps68
    go_wp2_with (first
      | (go_at_call 69; refine (ten_any _ _ (by omega) (by omega)).mono ?_; rintro e w' ⟨rfl, rfl⟩)
      | (go_at_call 99; refine (nearest_any _ _ _ (by omega) (by omega) (by omega) (by omega) (by omega)).mono ?_; rintro e w' ⟨rfl, rfl⟩))
    ((try simp only [Exit.inBlock, Exit.then]); refine bodyPost_ret (v := .agg #[.int .i64 (p10 (4 - g).toNat * nd a (p10 (4 - g).toNat)), .int .i64 s]) (by simp [results, Tryd.results68, go_sem]) rfl ?_)
    exact ⟨ret_agg (by rw [H.out]) (by rw [H.out]), (by repeat (first | with_reducible exact Gr.refl _ | with_reducible refine Gr.alloc ?_ _ | with_reducible refine Gr.gr ?_ _ _ | with_reducible refine Gr.drew ?_ | with_reducible refine Gr.drewN ?_ _))⟩

/-- Three ways of rounding to fewer digits: no figure, no such number of digits, a cut. -/
theorem round_cases (a s g : Int) : fg a s = false ∨ (fg a s = true ∧ g < 1) ∨ (fg a s = true ∧ 1 ≤ g ∧ 4 < g) ∨ (fg a s = true ∧ 1 ≤ g ∧ g ≤ 4) := by
  cases fg a s <;> simp <;> omega

theorem roR_impl (a s g : Int) (w : World) :
    Calls Tryd.prog 29 #[.agg #[.int .i64 a, .int .i64 s], .int .i64 g] w fun e w' => e = .returned (.tuple #[.agg #[.int .i64 (roR a s g).1.1, .int .i64 (roR a s g).1.2], .int .i64 (roR a s g).2]) ∧ Gr w w' := by
  rcases round_cases a s g with h | ⟨h, hg⟩ | ⟨h, hg, hg'⟩ | ⟨h, g1, g2⟩
  · have H := Lib.hid (roR_no a s g h)
    have E := Lib.hid h
    clear h
    go_enter Tryd.func29, Tryd.ntmps29
    go_wp2_with (go_at_call 60; refine (isFigure_impl _ _ _).mono ?_; rw [E.out]; rintro e w' ⟨rfl, k, os, rfl⟩)
    ((try simp only [Exit.inBlock, Exit.then]); refine bodyPost_ret (v := .tuple #[.agg #[.int .i64 0, .int .i64 0], .int .i64 1]) (by simp [results, Tryd.results29, go_sem]) rfl ?_)
    exact ⟨ret_fig (by rw [H.out]) (by rw [H.out]) (by rw [H.out]), (by repeat (first | with_reducible exact Gr.refl _ | with_reducible refine Gr.alloc ?_ _ | with_reducible refine Gr.gr ?_ _ _ | with_reducible refine Gr.drew ?_ | with_reducible refine Gr.drewN ?_ _))⟩
  · have H := Lib.hid (roR_far a s g h (by omega))
    have E := Lib.hid h
    clear h
    go_enter Tryd.func29, Tryd.ntmps29
    go_wp2_with (go_at_call 60; refine (isFigure_impl _ _ _).mono ?_; rw [E.out]; rintro e w' ⟨rfl, k, os, rfl⟩)
    ((try simp only [Exit.inBlock, Exit.then]); refine bodyPost_ret (v := .tuple #[.agg #[.int .i64 0, .int .i64 0], .int .i64 2]) (by simp [results, Tryd.results29, go_sem]) rfl ?_)
    exact ⟨ret_fig (by rw [H.out]) (by rw [H.out]) (by rw [H.out]), (by repeat (first | with_reducible exact Gr.refl _ | with_reducible refine Gr.alloc ?_ _ | with_reducible refine Gr.gr ?_ _ _ | with_reducible refine Gr.drew ?_ | with_reducible refine Gr.drewN ?_ _))⟩
  · have H := Lib.hid (roR_far a s g h (by omega))
    have E := Lib.hid h
    clear h
    go_enter Tryd.func29, Tryd.ntmps29
    go_wp2_with (go_at_call 60; refine (isFigure_impl _ _ _).mono ?_; rw [E.out]; rintro e w' ⟨rfl, k, os, rfl⟩)
    ((try simp only [Exit.inBlock, Exit.then]); refine bodyPost_ret (v := .tuple #[.agg #[.int .i64 0, .int .i64 0], .int .i64 2]) (by simp [results, Tryd.results29, go_sem]) rfl ?_)
    exact ⟨ret_fig (by rw [H.out]) (by rw [H.out]) (by rw [H.out]), (by repeat (first | with_reducible exact Gr.refl _ | with_reducible refine Gr.alloc ?_ _ | with_reducible refine Gr.gr ?_ _ _ | with_reducible refine Gr.drew ?_ | with_reducible refine Gr.drewN ?_ _))⟩
  · have H := Lib.hid (roR_ok a s g h g1 g2)
    obtain ⟨⟨a1, a2⟩, s1, s2⟩ := (fg_iff a s).1 h
    have E := Lib.hid h
    obtain ⟨m1, m2, n1, n2, hp⟩ := nd_lit a a1 a2 (4 - g).toNat (by omega)
    have HC := Lib.hid (ct_rdd a s (4 - g).toNat a1 a2 (by omega))
    rw [Int.mul_comm] at m1 m2
    have R := rdd_tens (nd a (p10 (4 - g).toNat) * p10 (4 - g).toNat) 1 3 (by omega) (by omega)
    clear h
    have hp1 : 1 ≤ p10 (4 - g).toNat ∧ p10 (4 - g).toNat ≤ 1000 := by omega
    clear hp
    have q1 : IntKind.i64.wrap (nd a (p10 (4 - g).toNat) * p10 (4 - g).toNat) = nd a (p10 (4 - g).toNat) * p10 (4 - g).toNat := IntWalk.i64_in _ (by omega)
    have q2 : IntKind.i64.wrap (s - 3) = s - 3 := IntWalk.i64_in _ (by omega)
    go_enter Tryd.func29, Tryd.ntmps29
    go_wp2_with (first
      | (go_at_call 60; refine (isFigure_impl _ _ _).mono ?_; rw [E.out]; rintro e w' ⟨rfl, k, os, rfl⟩)
      | (go_at_call 71; refine (tenTo_any _ _ (by omega) (by omega)).mono ?_; rintro e w' ⟨rfl, rfl⟩))
    go_region_held3 (fun w' => w'.cell? ⟨w.heap.size, 0, none⟩ = some (.int .i64 a) ∧ w'.cell? ⟨w.heap.size, 1, none⟩ = some (.int .i64 s)) (go_simp) (first
      | (go_at_call 73; refine (quotientNear_any _ _ _ (by omega) (by omega) (by omega) (by omega) (by omega)).mono ?_; rintro e w' ⟨rfl, rfl⟩)
      | (go_at_call 72; refine (round_impl _ _ _ (by omega) (by omega) (by omega) (by omega)).mono ?_; rintro e w' ⟨rfl, k, os, rfl⟩)
      | (go_at_call 74; refine (shift_any _ _ _ _ (by omega) (by omega) (by omega) (by omega)).mono ?_; rw [HC.out]; rintro e w' ⟨rfl, k, os, rfl⟩))
    all_goals
      go_wp2
      ((try simp only [Exit.inBlock, Exit.then]); refine bodyPost_ret (v := .tuple #[.agg #[.int .i64 (rsl (ctR a s (p10 (4 - g).toNat))).1.1, .int .i64 (rsl (ctR a s (p10 (4 - g).toNat))).1.2], .int .i64 (rsl (ctR a s (p10 (4 - g).toNat))).2]) (by simp [results, Tryd.results29, go_sem]) rfl ?_)
      exact ⟨ret_fig (by rw [H.out]) (by rw [H.out]) (by rw [H.out]), (by repeat (first | with_reducible exact Gr.refl _ | with_reducible refine Gr.alloc ?_ _ | with_reducible refine Gr.gr ?_ _ _ | with_reducible refine Gr.drew ?_ | with_reducible refine Gr.drewN ?_ _))⟩
end Go.Proofs.YtgadkpkpdpphbaaDoor
