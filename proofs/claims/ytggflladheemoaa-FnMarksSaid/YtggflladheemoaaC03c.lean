/- Contracts of chapter 3: an interval times a fraction. -/
import Derived.Test.YtggflladheemoaaC03b
namespace Go.Proofs.Ytggflladheemoaa
open Go.RowKit
set_option linter.unusedVariables false
set_option linter.unusedSimpArgs false

theorem scl_bd (a b n d : Int) (a1 : -1000000000000 ≤ a) (a2 : a ≤ 1000000000000) (b1 : -1000000000000 ≤ b) (b2 : b ≤ 1000000000000) (n1 : -12 ≤ n) (n2 : n ≤ 12) :
    -12000000000000 ≤ (tms a b n).1 ∧ (tms a b n).1 ≤ 12000000000000 ∧ -12000000000000 ≤ (tms a b n).2 ∧ (tms a b n).2 ≤ 12000000000000 := by
  have p := mul_lim a n a1 a2 n1 n2
  have q := mul_lim b n b1 b2 n1 n2
  by_cases h : n < 0
  · rw [tms_neg a b n h]; simp only; omega
  · rw [tms_pos a b n (by omega)]; simp only; omega
theorem scl_tms (a b n d : Int) : scl a b n d = ((tms a b n).1.fdiv d, cd (tms a b n).2 d) := by
  by_cases h : n < 0
  · rw [tms_neg a b n h, scl_neg a b n d h]
  · rw [tms_pos a b n (by omega), scl_pos a b n d (by omega)]

theorem sc_cases (a b n d : Int) : (iv a b = false) ∨ (iv a b = true ∧ (n < -12 ∨ (-12 ≤ n ∧ 12 < n) ∨ (-12 ≤ n ∧ n ≤ 12 ∧ d < 1) ∨ (-12 ≤ n ∧ n ≤ 12 ∧ 1 ≤ d ∧ 12 < d)) ∧ ¬ ((-12 ≤ n ∧ n ≤ 12) ∧ (1 ≤ d ∧ d ≤ 12))) ∨ (iv a b = true ∧ (-12 ≤ n ∧ n ≤ 12) ∧ (1 ≤ d ∧ d ≤ 12)) := by
  cases h : iv a b
  · exact .inl rfl
  · right
    by_cases hc : (-12 ≤ n ∧ n ≤ 12) ∧ (1 ≤ d ∧ d ≤ 12)
    · exact .inr ⟨rfl, hc⟩
    · exact .inl ⟨rfl, by omega, hc⟩

/-- A world that has grown from one with two new blocks: what the walk asks of it. -/
theorem at2 {w w1 : World} {x y p q : Value} {t u : TypeId} {k : Nat} {os : Array Obj} (hg : Gr (gr ((w.alloc (.cells #[x, y] t)).alloc (.cells #[p, q] u)) k os) w1) :
    Gr w w1 ∧ w.heap.size < w1.heap.size ∧ w.heap.size + 1 < w1.heap.size ∧ w1.cell? ⟨w.heap.size + 1, 0, none⟩ = some p ∧ w1.cell? ⟨w.heap.size + 1, 1, none⟩ = some q ∧ (∀ i, w1.frozen? ⟨w.heap.size + 1, i, none⟩ = false) := by
  obtain ⟨k', os', rfl⟩ := hg
  refine ⟨(by repeat (first | with_reducible exact Gr.refl _ | with_reducible refine Gr.alloc ?_ _ | with_reducible refine Gr.gr ?_ _ _ | with_reducible refine Gr.drew ?_ | with_reducible refine Gr.drewN ?_ _)), ?_, ?_, ?_, ?_, ?_⟩
  · simp [gr_size]; omega
  · simp [gr_size]; omega
  · simp [gr_size, go_sem]
  · simp [gr_size, go_sem]
  · intro i; simp [gr_size, go_sem]

theorem scl_x (a b n d x y : Int) (ab : a ≤ b) (hx : a * n = x) (hy : b * n = y) : (x < y → scl a b n d = (x.fdiv d, cd y d)) ∧ (x = y → scl a b n d = (x.fdiv d, cd x d)) ∧ (y < x → scl a b n d = (y.fdiv d, cd x d)) := by
  by_cases h : n < 0
  · have := Int.mul_le_mul_of_nonpos_right ab (show n ≤ 0 by omega)
    rw [scl_neg a b n d h, hx, hy]
    exact ⟨fun _ => by omega, fun e => by rw [e], fun _ => rfl⟩
  · have := Int.mul_le_mul_of_nonneg_right ab (show 0 ≤ n by omega)
    rw [scl_pos a b n d (by omega), hx, hy]
    exact ⟨fun _ => rfl, fun e => by rw [e], fun _ => by omega⟩

theorem scale_spec (a b n d : Int) (w : World) (a1 : -1000000000000 ≤ a) (a2 : a ≤ 1000000000000) (b1 : -1000000000000 ≤ b) (b2 : b ≤ 1000000000000) (ab : a ≤ b) (n1 : -12 ≤ n) (n2 : n ≤ 12) (d1 : 1 ≤ d) (d2 : d ≤ 12) :
    Calls Try.prog 88 #[.agg #[.int .i64 a, .int .i64 b], .int .i64 n, .int .i64 d] w fun e w' => e = .returned (.agg #[.int .i64 (scl a b n d).1, .int .i64 (scl a b n d).2]) ∧ Gr w w' := by
  obtain ⟨p1, p2⟩ := mul_lim a n a1 a2 n1 n2
  obtain ⟨r1, r2⟩ := mul_lim b n b1 b2 n1 n2
  obtain ⟨x, hx⟩ : ∃ x, a * n = x := ⟨_, rfl⟩
  obtain ⟨y, hy⟩ : ∃ y, b * n = y := ⟨_, rfl⟩
  obtain ⟨k1, k2, k3⟩ := scl_x a b n d x y ab hx hy
  rw [hx] at p1 p2
  rw [hy] at r1 r2
  have HX := Lib.hid hx
  have HY := Lib.hid hy
  clear hx hy
  rcases Int.lt_trichotomy x y with h | h | h
  · have H := Lib.hid (k1 h)
    clear k1 k2 k3
    go_enter Try.func88, Try.ntmps88
    go_wp2_with fail
    have q1 : IntKind.i64.wrap (a * n) = x := by rw [HX.out]; exact IntWalk.i64_in _ (by omega)
    have q2 : IntKind.i64.wrap (b * n) = y := by rw [HY.out]; exact IntWalk.i64_in _ (by omega)
    ((first | refine region_gr_on (by kernel_rfl) (by kernel_rfl) ?_ | refine region_gr (by kernel_rfl) (by kernel_rfl) ?_); (repeat (quiet_step (fail))); refine wpQuiet_nil ?_; intro _ hw'; obtain ⟨⟨kq, oq⟩, hw''⟩ := hw'; subst hw'')
    clear q1 q2
    go_wp2_with (first
      | (go_at_call 84; refine (floor_any _ _ _ (by omega) (by omega) (by omega) (by omega) (by omega)).mono ?_; rintro e w' ⟨rfl, rfl⟩)
      | (go_at_call 85; refine (ceil_any _ _ _ (by omega) (by omega) (by omega) (by omega) (by omega)).mono ?_; rintro e w' ⟨rfl, rfl⟩))
    ((try simp only [Exit.inBlock, Exit.then]); refine bodyPost_ret (v := .agg #[.int .i64 (x.fdiv d), .int .i64 (cd y d)]) (by simp [results, Try.results88, go_sem]) rfl ?_)
    exact ⟨ret_agg (by rw [H.out]) (by rw [H.out]), (by repeat (first | with_reducible exact Gr.refl _ | with_reducible refine Gr.alloc ?_ _ | with_reducible refine Gr.gr ?_ _ _ | with_reducible refine Gr.drew ?_ | with_reducible refine Gr.drewN ?_ _))⟩
  · have H := Lib.hid (k2 h)
    clear k1 k2 k3
    subst h
    go_enter Try.func88, Try.ntmps88
    go_wp2_with fail
    have q1 : IntKind.i64.wrap (a * n) = x := by rw [HX.out]; exact IntWalk.i64_in _ (by omega)
    have q2 : IntKind.i64.wrap (b * n) = x := by rw [HY.out]; exact IntWalk.i64_in _ (by omega)
    ((first | refine region_gr_on (by kernel_rfl) (by kernel_rfl) ?_ | refine region_gr (by kernel_rfl) (by kernel_rfl) ?_); (repeat (quiet_step (fail))); refine wpQuiet_nil ?_; intro _ hw'; obtain ⟨⟨kq, oq⟩, hw''⟩ := hw'; subst hw'')
    clear q1 q2
    go_wp2_with (first
      | (go_at_call 84; refine (floor_any _ _ _ (by omega) (by omega) (by omega) (by omega) (by omega)).mono ?_; rintro e w' ⟨rfl, rfl⟩)
      | (go_at_call 85; refine (ceil_any _ _ _ (by omega) (by omega) (by omega) (by omega) (by omega)).mono ?_; rintro e w' ⟨rfl, rfl⟩))
    ((try simp only [Exit.inBlock, Exit.then]); refine bodyPost_ret (v := .agg #[.int .i64 (x.fdiv d), .int .i64 (cd x d)]) (by simp [results, Try.results88, go_sem]) rfl ?_)
    exact ⟨ret_agg (by rw [H.out]) (by rw [H.out]), (by repeat (first | with_reducible exact Gr.refl _ | with_reducible refine Gr.alloc ?_ _ | with_reducible refine Gr.gr ?_ _ _ | with_reducible refine Gr.drew ?_ | with_reducible refine Gr.drewN ?_ _))⟩
  · have H := Lib.hid (k3 h)
    clear k1 k2 k3
    go_enter Try.func88, Try.ntmps88
    go_wp2_with fail
    have q1 : IntKind.i64.wrap (a * n) = x := by rw [HX.out]; exact IntWalk.i64_in _ (by omega)
    have q2 : IntKind.i64.wrap (b * n) = y := by rw [HY.out]; exact IntWalk.i64_in _ (by omega)
    ((first | refine region_gr_on (by kernel_rfl) (by kernel_rfl) ?_ | refine region_gr (by kernel_rfl) (by kernel_rfl) ?_); (repeat (quiet_step (fail))); refine wpQuiet_nil ?_; intro _ hw'; obtain ⟨⟨kq, oq⟩, hw''⟩ := hw'; subst hw'')
    clear q1 q2
    go_wp2_with (first
      | (go_at_call 84; refine (floor_any _ _ _ (by omega) (by omega) (by omega) (by omega) (by omega)).mono ?_; rintro e w' ⟨rfl, rfl⟩)
      | (go_at_call 85; refine (ceil_any _ _ _ (by omega) (by omega) (by omega) (by omega) (by omega)).mono ?_; rintro e w' ⟨rfl, rfl⟩))
    ((try simp only [Exit.inBlock, Exit.then]); refine bodyPost_ret (v := .agg #[.int .i64 (y.fdiv d), .int .i64 (cd x d)]) (by simp [results, Try.results88, go_sem]) rfl ?_)
    exact ⟨ret_agg (by rw [H.out]) (by rw [H.out]), (by repeat (first | with_reducible exact Gr.refl _ | with_reducible refine Gr.alloc ?_ _ | with_reducible refine Gr.gr ?_ _ _ | with_reducible refine Gr.drew ?_ | with_reducible refine Gr.drewN ?_ _))⟩

end Go.Proofs.Ytggflladheemoaa
