/- Plain mathematics, merged. -/
import Derived.Test.Ytggflladheemoaa2A
import Derived.Test.YtggflladheemoaaMA
import Derived.IntWalk
import Derived.Deep.RegionHeld3
import Derived.RangeFuncNested
import Derived.RangeFuncFrom
import Derived.RangeFuncBound
import Derived.RangeFuncCalls
import Derived.RangeFuncLeaves
import Derived.Shelf.Abstract
import Derived.Shelf.RegionOpen
import Derived.WalkKit
import Derived.OwnWalkIn
import Derived.TacticsInMore
import Derived.LoopNIn
import Derived.LoopIn
/- Contracts of chapter 3: intervals, in the program, in the model and in the law. -/
namespace Go.Proofs.Ytggflladheemoaa
open Go.RowKit
set_option linter.unusedVariables false
set_option linter.unusedSimpArgs false

theorem sub_spec (a b c d : Int) (w : World) (a1 : -2000000000000000000 ≤ a) (a2 : a ≤ 2000000000000000000) (b1 : -2000000000000000000 ≤ b) (b2 : b ≤ 2000000000000000000) (c1 : -2000000000000000000 ≤ c) (c2 : c ≤ 2000000000000000000) (d1 : -2000000000000000000 ≤ d) (d2 : d ≤ 2000000000000000000) :
    Calls Try.prog 89 #[.agg #[.int .i64 a, .int .i64 b], .agg #[.int .i64 c, .int .i64 d]] w fun e w' => e = .returned (.agg #[.int .i64 (a - d), .int .i64 (b - c)]) ∧ Gr w w' := by
  go_enter Try.func89, Try.ntmps89
  go_wp2
  ((try simp only [Exit.inBlock, Exit.then]); refine bodyPost_ret (v := .agg #[.int .i64 (a - d), .int .i64 (b - c)]) (by simp [results, Try.results89, go_sem]) rfl ?_)
  exact ⟨rfl, (by repeat (first | with_reducible exact Gr.refl _ | with_reducible refine Gr.alloc ?_ _ | with_reducible refine Gr.gr ?_ _ _ | with_reducible refine Gr.drew ?_ | with_reducible refine Gr.drewN ?_ _))⟩

theorem mul_lim (a n : Int) (a1 : -1000000000000 ≤ a) (a2 : a ≤ 1000000000000) (n1 : -12 ≤ n) (n2 : n ≤ 12) : -12000000000000 ≤ a * n ∧ a * n ≤ 12000000000000 := by
  have hn : n = -12 ∨ n = -11 ∨ n = -10 ∨ n = -9 ∨ n = -8 ∨ n = -7 ∨ n = -6 ∨ n = -5 ∨ n = -4 ∨ n = -3 ∨ n = -2 ∨ n = -1 ∨ n = 0 ∨ n = 1 ∨ n = 2 ∨ n = 3 ∨ n = 4 ∨ n = 5 ∨ n = 6 ∨ n = 7 ∨ n = 8 ∨ n = 9 ∨ n = 10 ∨ n = 11 ∨ n = 12 := by omega
  rcases hn with h | h | h | h | h | h | h | h | h | h | h | h | h | h | h | h | h | h | h | h | h | h | h | h | h <;> subst h <;> omega

/-- The bounds of an interval times n, in the order of numbers. -/
def tms (a b n : Int) : Int × Int := if n < 0 then (b * n, a * n) else (a * n, b * n)
theorem tms_neg (a b n : Int) (h : n < 0) : tms a b n = (b * n, a * n) := if_pos h
theorem tms_pos (a b n : Int) (h : 0 ≤ n) : tms a b n = (a * n, b * n) := if_neg (by omega)

theorem tms_one (a b : Int) : (tms a b (-1)).1 = -b ∧ (tms a b (-1)).2 = -a := by
  rw [tms_neg a b (-1) (by omega)]
  exact ⟨by simp, by simp⟩

end Go.Proofs.Ytggflladheemoaa

/- Contracts of chapter 3: what the public functions of intervals return, in the program and in the model. -/
namespace Go.Proofs.Ytggflladheemoaa
open Go.RowKit
set_option linter.unusedVariables false
set_option linter.unusedSimpArgs false

theorem iv_two (a b c d : Int) : ((iv a b && iv c d) = true ∧ iv a b = true ∧ iv c d = true) ∨ ((iv a b && iv c d) = false ∧ (iv a b = false ∨ (iv a b = true ∧ iv c d = false))) := by
  cases iv a b <;> cases iv c d <;> simp

theorem ret_three {a b c d e f : Int} (h : a = d) (h' : b = e) (h'' : c = f) : Ending.returned (.tuple #[.int .i64 a, .int .i64 b, .int .i64 c]) = .returned (.tuple #[.int .i64 d, .int .i64 e, .int .i64 f]) := by rw [h, h', h'']

theorem mod_spec (a m : Int) (w : World) (a1 : -1000000000000000 ≤ a) (a2 : a ≤ 1000000000000000) (m1 : 1 ≤ m) (m2 : m ≤ 1000000000000000) :
    Calls Try.prog 87 #[.int .i64 a, .int .i64 m] w fun e w' => e = .returned (.int .i64 (a % m)) ∧ Gr w w' := by
  obtain ⟨t1, t2, t3, t4⟩ := mod_bds a m m1
  by_cases h : 0 ≤ a
  all_goals
    go_enter Try.func87, Try.ntmps87
    go_wp2
    go_ret
    exact ⟨ret_int (by first | exact mod_1 a m | exact mod_2 a m | exact tmod_emod' a m | exact Int.emod_emod _ _), (by repeat (first | with_reducible exact Gr.refl _ | with_reducible refine Gr.alloc ?_ _ | with_reducible refine Gr.gr ?_ _ _ | with_reducible refine Gr.drew ?_ | with_reducible refine Gr.drewN ?_ _))⟩

end Go.Proofs.Ytggflladheemoaa

/- Contracts of chapter 3: an interval times a fraction. -/
namespace Go.Proofs.Ytggflladheemoaa
open Go.RowKit
set_option linter.unusedVariables false
set_option linter.unusedSimpArgs false

theorem scl_bd (a b n d : Int) (a1 : -1000000000000 ≤ a) (a2 : a ≤ 1000000000000) (b1 : -1000000000000 ≤ b) (b2 : b ≤ 1000000000000) (n1 : -12 ≤ n) (n2 : n ≤ 12) :
    -12000000000000 ≤ (tms a b n).1 ∧ (tms a b n).1 ≤ 12000000000000 ∧ -12000000000000 ≤ (tms a b n).2 ∧ (tms a b n).2 ≤ 12000000000000 := by
  have p := mul_lim a n a1 a2 n1 n2
  have q := mul_lim b n b1 b2 n1 n2
  by_cases h : n < 0
  · rw [tms_neg a b n h]; simp only; omega
  · rw [tms_pos a b n (by omega)]; simp only; omega
theorem scl_tms (a b n d : Int) : scl a b n d = ((tms a b n).1.fdiv d, cd (tms a b n).2 d) := by
  by_cases h : n < 0
  · rw [tms_neg a b n h, scl_neg a b n d h]
  · rw [tms_pos a b n (by omega), scl_pos a b n d (by omega)]

theorem sc_cases (a b n d : Int) : (iv a b = false) ∨ (iv a b = true ∧ (n < -12 ∨ (-12 ≤ n ∧ 12 < n) ∨ (-12 ≤ n ∧ n ≤ 12 ∧ d < 1) ∨ (-12 ≤ n ∧ n ≤ 12 ∧ 1 ≤ d ∧ 12 < d)) ∧ ¬ ((-12 ≤ n ∧ n ≤ 12) ∧ (1 ≤ d ∧ d ≤ 12))) ∨ (iv a b = true ∧ (-12 ≤ n ∧ n ≤ 12) ∧ (1 ≤ d ∧ d ≤ 12)) := by
  cases h : iv a b
  · exact .inl rfl
  · right
    by_cases hc : (-12 ≤ n ∧ n ≤ 12) ∧ (1 ≤ d ∧ d ≤ 12)
    · exact .inr ⟨rfl, hc⟩
    · exact .inl ⟨rfl, by omega, hc⟩

/-- A world that has grown from one with two new blocks: what the walk asks of it. -/
theorem at2 {w w1 : World} {x y p q : Value} {t u : TypeId} {k : Nat} {os : Array Obj} (hg : Gr (gr ((w.alloc (.cells #[x, y] t)).alloc (.cells #[p, q] u)) k os) w1) :
    Gr w w1 ∧ w.heap.size < w1.heap.size ∧ w.heap.size + 1 < w1.heap.size ∧ w1.cell? ⟨w.heap.size + 1, 0, none⟩ = some p ∧ w1.cell? ⟨w.heap.size + 1, 1, none⟩ = some q ∧ (∀ i, w1.frozen? ⟨w.heap.size + 1, i, none⟩ = false) := by
  obtain ⟨k', os', rfl⟩ := hg
  refine ⟨(by repeat (first | with_reducible exact Gr.refl _ | with_reducible refine Gr.alloc ?_ _ | with_reducible refine Gr.gr ?_ _ _ | with_reducible refine Gr.drew ?_ | with_reducible refine Gr.drewN ?_ _)), ?_, ?_, ?_, ?_, ?_⟩
  · simp [gr_size]; omega
  · simp [gr_size]; omega
  · simp [gr_size, go_sem]
  · simp [gr_size, go_sem]
  · intro i; simp [gr_size, go_sem]

theorem scl_x (a b n d x y : Int) (ab : a ≤ b) (hx : a * n = x) (hy : b * n = y) : (x < y → scl a b n d = (x.fdiv d, cd y d)) ∧ (x = y → scl a b n d = (x.fdiv d, cd x d)) ∧ (y < x → scl a b n d = (y.fdiv d, cd x d)) := by
  by_cases h : n < 0
  · have := Int.mul_le_mul_of_nonpos_right ab (show n ≤ 0 by omega)
    rw [scl_neg a b n d h, hx, hy]
    exact ⟨fun _ => by omega, fun e => by rw [e], fun _ => rfl⟩
  · have := Int.mul_le_mul_of_nonneg_right ab (show 0 ≤ n by omega)
    rw [scl_pos a b n d (by omega), hx, hy]
    exact ⟨fun _ => rfl, fun e => by rw [e], fun _ => by omega⟩

theorem scale_spec (a b n d : Int) (w : World) (a1 : -1000000000000 ≤ a) (a2 : a ≤ 1000000000000) (b1 : -1000000000000 ≤ b) (b2 : b ≤ 1000000000000) (ab : a ≤ b) (n1 : -12 ≤ n) (n2 : n ≤ 12) (d1 : 1 ≤ d) (d2 : d ≤ 12) :
    Calls Try.prog 88 #[.agg #[.int .i64 a, .int .i64 b], .int .i64 n, .int .i64 d] w fun e w' => e = .returned (.agg #[.int .i64 (scl a b n d).1, .int .i64 (scl a b n d).2]) ∧ Gr w w' := by
  obtain ⟨p1, p2⟩ := mul_lim a n a1 a2 n1 n2
  obtain ⟨r1, r2⟩ := mul_lim b n b1 b2 n1 n2
  obtain ⟨x, hx⟩ : ∃ x, a * n = x := ⟨_, rfl⟩
  obtain ⟨y, hy⟩ : ∃ y, b * n = y := ⟨_, rfl⟩
  obtain ⟨k1, k2, k3⟩ := scl_x a b n d x y ab hx hy
  rw [hx] at p1 p2
  rw [hy] at r1 r2
  have HX := Lib.hid hx
  have HY := Lib.hid hy
  clear hx hy
  rcases Int.lt_trichotomy x y with h | h | h
  · have H := Lib.hid (k1 h)
    clear k1 k2 k3
    go_enter Try.func88, Try.ntmps88
    go_wp2_with fail
    have q1 : IntKind.i64.wrap (a * n) = x := by rw [HX.out]; exact IntWalk.i64_in _ (by omega)
    have q2 : IntKind.i64.wrap (b * n) = y := by rw [HY.out]; exact IntWalk.i64_in _ (by omega)
    ((first | refine region_gr_on (by kernel_rfl) (by kernel_rfl) ?_ | refine region_gr (by kernel_rfl) (by kernel_rfl) ?_); (repeat (quiet_step (fail))); refine wpQuiet_nil ?_; intro _ hw'; obtain ⟨⟨kq, oq⟩, hw''⟩ := hw'; subst hw'')
    clear q1 q2
    go_wp2_with (first
      | (go_at_call 84; refine (floor_any _ _ _ (by omega) (by omega) (by omega) (by omega) (by omega)).mono ?_; rintro e w' ⟨rfl, rfl⟩)
      | (go_at_call 85; refine (ceil_any _ _ _ (by omega) (by omega) (by omega) (by omega) (by omega)).mono ?_; rintro e w' ⟨rfl, rfl⟩))
    ((try simp only [Exit.inBlock, Exit.then]); refine bodyPost_ret (v := .agg #[.int .i64 (x.fdiv d), .int .i64 (cd y d)]) (by simp [results, Try.results88, go_sem]) rfl ?_)
    exact ⟨ret_agg (by rw [H.out]) (by rw [H.out]), (by repeat (first | with_reducible exact Gr.refl _ | with_reducible refine Gr.alloc ?_ _ | with_reducible refine Gr.gr ?_ _ _ | with_reducible refine Gr.drew ?_ | with_reducible refine Gr.drewN ?_ _))⟩
  · have H := Lib.hid (k2 h)
    clear k1 k2 k3
    subst h
    go_enter Try.func88, Try.ntmps88
    go_wp2_with fail
    have q1 : IntKind.i64.wrap (a * n) = x := by rw [HX.out]; exact IntWalk.i64_in _ (by omega)
    have q2 : IntKind.i64.wrap (b * n) = x := by rw [HY.out]; exact IntWalk.i64_in _ (by omega)
    ((first | refine region_gr_on (by kernel_rfl) (by kernel_rfl) ?_ | refine region_gr (by kernel_rfl) (by kernel_rfl) ?_); (repeat (quiet_step (fail))); refine wpQuiet_nil ?_; intro _ hw'; obtain ⟨⟨kq, oq⟩, hw''⟩ := hw'; subst hw'')
    clear q1 q2
    go_wp2_with (first
      | (go_at_call 84; refine (floor_any _ _ _ (by omega) (by omega) (by omega) (by omega) (by omega)).mono ?_; rintro e w' ⟨rfl, rfl⟩)
      | (go_at_call 85; refine (ceil_any _ _ _ (by omega) (by omega) (by omega) (by omega) (by omega)).mono ?_; rintro e w' ⟨rfl, rfl⟩))
    ((try simp only [Exit.inBlock, Exit.then]); refine bodyPost_ret (v := .agg #[.int .i64 (x.fdiv d), .int .i64 (cd x d)]) (by simp [results, Try.results88, go_sem]) rfl ?_)
    exact ⟨ret_agg (by rw [H.out]) (by rw [H.out]), (by repeat (first | with_reducible exact Gr.refl _ | with_reducible refine Gr.alloc ?_ _ | with_reducible refine Gr.gr ?_ _ _ | with_reducible refine Gr.drew ?_ | with_reducible refine Gr.drewN ?_ _))⟩
  · have H := Lib.hid (k3 h)
    clear k1 k2 k3
    go_enter Try.func88, Try.ntmps88
    go_wp2_with fail
    have q1 : IntKind.i64.wrap (a * n) = x := by rw [HX.out]; exact IntWalk.i64_in _ (by omega)
    have q2 : IntKind.i64.wrap (b * n) = y := by rw [HY.out]; exact IntWalk.i64_in _ (by omega)
    ((first | refine region_gr_on (by kernel_rfl) (by kernel_rfl) ?_ | refine region_gr (by kernel_rfl) (by kernel_rfl) ?_); (repeat (quiet_step (fail))); refine wpQuiet_nil ?_; intro _ hw'; obtain ⟨⟨kq, oq⟩, hw''⟩ := hw'; subst hw'')
    clear q1 q2
    go_wp2_with (first
      | (go_at_call 84; refine (floor_any _ _ _ (by omega) (by omega) (by omega) (by omega) (by omega)).mono ?_; rintro e w' ⟨rfl, rfl⟩)
      | (go_at_call 85; refine (ceil_any _ _ _ (by omega) (by omega) (by omega) (by omega) (by omega)).mono ?_; rintro e w' ⟨rfl, rfl⟩))
    ((try simp only [Exit.inBlock, Exit.then]); refine bodyPost_ret (v := .agg #[.int .i64 (y.fdiv d), .int .i64 (cd x d)]) (by simp [results, Try.results88, go_sem]) rfl ?_)
    exact ⟨ret_agg (by rw [H.out]) (by rw [H.out]), (by repeat (first | with_reducible exact Gr.refl _ | with_reducible refine Gr.alloc ?_ _ | with_reducible refine Gr.gr ?_ _ _ | with_reducible refine Gr.drew ?_ | with_reducible refine Gr.drewN ?_ _))⟩

end Go.Proofs.Ytggflladheemoaa

/- Contracts of chapter 3: a step of squaring, the iterator over the bits, and the number that they spell. -/
namespace Go.Proofs.Ytggflladheemoaa
open Go.RowKit Go.Shelf
set_option linter.unusedVariables false
set_option linter.unusedSimpArgs false
attribute [local go_sem] Oper.semAt_some

theorem cell_of_box_b {W : World} {B : Nat} {v : Value} {t : TypeId} (h : W.heap[B]? = some (.cells #[v] t (0, 0))) : W.cell? ⟨B, 0, none⟩ = some v ∧ W.frozen? ⟨B, 0, none⟩ = false := by
  constructor <;> simp [World.cell?, World.frozen?, h]
theorem cell_new_b (W : World) (v : Value) (t : TypeId) : (W.alloc (.cells #[v] t)).cell? ⟨W.heap.size, 0, none⟩ = some v ∧ (W.alloc (.cells #[v] t)).frozen? ⟨W.heap.size, 0, none⟩ = false :=
  cell_of_box_b (World.alloc_heap_new W _)

end Go.Proofs.Ytggflladheemoaa

/- Contracts of chapter 3: logarithms of numbers and of figures, in the program and in the model. -/
namespace Go.Proofs.Ytggflladheemoaa
open Go.RowKit
set_option linter.unusedVariables false
set_option linter.unusedSimpArgs false

theorem bits_spec (u : Bool) (x : Int) (w : World) (h1 : 100000000 ≤ x) (h2 : x ≤ 999999999) :
    Calls Try.prog 90 #[.int .i64 x, .bool u] w fun e w' => e = .returned (.int .i64 (lgb u x)) ∧ Gr w w' := by
  cases u
  · go_enter Try.func90, Try.ntmps90
    go_wp2
    go_loop [0, 5, 6] (fun r n i => ∃ (k : Nat), k ≤ 20 ∧ i = .int .i64 k ∧ r = .int .i64 (lgs false x k).1 ∧ n = .int .i64 (lgs false x k).2) (fun r n i => 20 - (intOf i).toNat)
    case atStart => exact ⟨0, by omega, rfl, by rw [lgs_zero], by rw [lgs_zero]⟩
    case round =>
      obtain ⟨k, hk, rfl, rfl, rfl⟩ := hrel
      by_cases hlt : k < 20
      · obtain ⟨r1, r2, n1, n2⟩ := lgs_bd false x h1 h2 k hk
        have E := Lib.hid (lgs_succ false x k)
        generalize (lgs false x k).1 = r at *
        generalize (lgs false x k).2 = n at *
        have SQ : sqD r = r * r / 100000000 := by unfold sqD; exact Int.fdiv_eq_ediv_of_nonneg _ (by omega)
        have sb := sqD_bd r r1 r2
        obtain ⟨q1, q2⟩ := sq_bd r r1 r2
        by_cases h : sqD r < 1000000000
        · have L1 := Lib.hid (show (lgs false x (k + 1)).1 = r * r / 100000000 by rw [E.out, nx_f, nxD_lo r h]; exact SQ)
          have L2 := Lib.hid (show (lgs false x (k + 1)).2 = 2 * n by rw [E.out, nx_f, nxD_lo r h]; simp)
          rw [SQ] at h sb
          obtain ⟨sb1, sb2⟩ := sb
          clear SQ E
          go_wp2
          go_round
          case rel => exact ⟨k + 1, by omega, by go_num, by rw [L1.out], by rw [L2.out]⟩
          case measure => simp [intOf]; omega
        · have L1 := Lib.hid (show (lgs false x (k + 1)).1 = r * r / 100000000 / 10 by rw [E.out, nx_f, nxD_hi r (by omega)]; simp only; rw [SQ]; exact Int.fdiv_eq_ediv_of_nonneg _ (by omega))
          have L2 := Lib.hid (show (lgs false x (k + 1)).2 = 2 * n + 1 by rw [E.out, nx_f, nxD_hi r (by omega)])
          rw [SQ] at h sb
          obtain ⟨sb1, sb2⟩ := sb
          have h' : 1000000000 ≤ r * r / 100000000 := by omega
          clear SQ E h
          go_wp2
          go_round
          case rel => exact ⟨k + 1, by omega, by go_num, by rw [L1.out], by rw [L2.out]⟩
          case measure => simp [intOf]; omega
      · obtain rfl : k = 20 := by omega
        go_wp2
        go_ret
        exact ⟨rfl, (by repeat (first | with_reducible exact Gr.refl _ | with_reducible refine Gr.alloc ?_ _ | with_reducible refine Gr.gr ?_ _ _ | with_reducible refine Gr.drew ?_ | with_reducible refine Gr.drewN ?_ _))⟩
  · go_enter Try.func90, Try.ntmps90
    go_wp2
    go_loop [0, 5, 6] (fun r n i => ∃ (k : Nat), k ≤ 20 ∧ i = .int .i64 k ∧ r = .int .i64 (lgs true x k).1 ∧ n = .int .i64 (lgs true x k).2) (fun r n i => 20 - (intOf i).toNat)
    case atStart => exact ⟨0, by omega, rfl, by rw [lgs_zero], by rw [lgs_zero]⟩
    case round =>
      obtain ⟨k, hk, rfl, rfl, rfl⟩ := hrel
      by_cases hlt : k < 20
      · obtain ⟨r1, r2, n1, n2⟩ := lgs_bd true x h1 h2 k hk
        have E := Lib.hid (lgs_succ true x k)
        generalize (lgs true x k).1 = r at *
        generalize (lgs true x k).2 = n at *
        have SQ := Lib.hid (show sqU r = cd (r * r) 100000000 from rfl)
        obtain ⟨sb1, sb2⟩ := sqU_bd r r1 r2
        obtain ⟨q1, q2⟩ := sq_bd r r1 r2
        by_cases h : sqU r < 1000000000
        · have L1 := Lib.hid (show (lgs true x (k + 1)).1 = sqU r by rw [E.out, nx_t, nxU_lo r h])
          have L2 := Lib.hid (show (lgs true x (k + 1)).2 = 2 * n by rw [E.out, nx_t, nxU_lo r h]; simp)
          clear E
          go_wp2_with (go_at_call 85; refine (ceil_any _ _ _ (by omega) (by omega) (by omega) (by omega) (by omega)).mono ?_; rw [← SQ.out]; rintro e w' ⟨rfl, rfl⟩)
          go_round
          case rel => exact ⟨k + 1, by omega, by go_num, by rw [L1.out], by rw [L2.out]⟩
          case measure => simp [intOf]; omega
        · have L1 := Lib.hid (show (lgs true x (k + 1)).1 = cd (sqU r) 10 by rw [E.out, nx_t, nxU_hi r (by omega)])
          have L2 := Lib.hid (show (lgs true x (k + 1)).2 = 2 * n + 1 by rw [E.out, nx_t, nxU_hi r (by omega)])
          have h' : 1000000000 ≤ sqU r := by omega
          clear E h
          go_wp2_with fail
          refine (ceil_any _ _ _ (by omega) (by omega) (by omega) (by omega) (by omega)).mono ?_
          rw [← SQ.out]
          rintro e w' ⟨rfl, rfl⟩
          go_wp2_with fail
          refine (ceil_any _ _ _ (by omega) (by omega) (by omega) (by omega) (by omega)).mono ?_
          rintro e w' ⟨rfl, rfl⟩
          go_wp2_with fail
          go_round
          case rel => exact ⟨k + 1, by omega, by go_num, by rw [L1.out], by rw [L2.out]⟩
          case measure => simp [intOf]; omega
      · obtain rfl : k = 20 := by omega
        go_wp2
        go_ret
        exact ⟨rfl, (by repeat (first | with_reducible exact Gr.refl _ | with_reducible refine Gr.alloc ?_ _ | with_reducible refine Gr.gr ?_ _ _ | with_reducible refine Gr.drew ?_ | with_reducible refine Gr.drewN ?_ _))⟩

theorem log_spec (x : Int) (w : World) (h1 : 100000000 ≤ x) (h2 : x ≤ 999999999) :
    Calls Try.prog 86 #[.int .i64 x] w fun e w' => e = .returned (.agg #[.int .i64 (lgb false x), .int .i64 (lgb true x + 1)]) ∧ Gr w w' := by
  obtain ⟨b1, b2⟩ := lgb_bd false x h1 h2
  obtain ⟨b3, b4⟩ := lgb_bd true x h1 h2
  go_enter Try.func86, Try.ntmps86
  go_wp2_with fail
  refine (bits_spec false x _ h1 h2).mono ?_
  rintro e w' ⟨rfl, k, os, rfl⟩
  go_wp2_with fail
  refine (bits_spec true x _ h1 h2).mono ?_
  rintro e w' ⟨rfl, k, os, rfl⟩
  go_wp2_with fail
  ((try simp only [Exit.inBlock, Exit.then]); refine bodyPost_ret (v := .agg #[.int .i64 (lgb false x), .int .i64 (lgb true x + 1)]) (by simp [results, Try.results86, go_sem]) rfl ?_)
  exact ⟨rfl, (by repeat (first | with_reducible exact Gr.refl _ | with_reducible refine Gr.alloc ?_ _ | with_reducible refine Gr.gr ?_ _ _ | with_reducible refine Gr.drew ?_ | with_reducible refine Gr.drewN ?_ _))⟩

end Go.Proofs.Ytggflladheemoaa
