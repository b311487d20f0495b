/- Contracts of chapter 3: a step of squaring, the iterator over the bits, and the number that they spell. -/
import Derived.RangeFuncNested
import Derived.RangeFuncFrom
import Derived.RangeFuncBound
import Derived.RangeFuncCalls
import Derived.RangeFuncLeaves
import Derived.Shelf.Abstract
import Derived.Shelf.RegionOpen
import Derived.WalkKit
import Derived.OwnWalkIn
import Derived.TacticsInMore
import Derived.LoopNIn
import Derived.LoopIn
import Derived.Test.YtggflladheemoaaDoorC03a
import Derived.Test.YtggflladheemoaaDoorMA
namespace Go.Proofs.YtggflladheemoaaDoor
open Go.RowKit Go.Shelf
set_option linter.unusedVariables false
set_option linter.unusedSimpArgs false
attribute [local go_sem] Oper.semAt_some

/-- The two ways to divide, as function values. -/
def dv (u : Bool) : Value := if u then .func (.func 212) #[] #[] else .func (.func 187) #[] #[]
theorem dv_t : dv true = .func (.func 212) #[] #[] := rfl
theorem dv_f : dv false = .func (.func 187) #[] #[] := rfl

set_option maxHeartbeats 1000000 in
theorem nextBit_any (u : Bool) (x : Int) (w : World) (h1 : 100000000 ≤ x) (h2 : x ≤ 999999999) :
    Calls Tryd.prog 273 #[.int .i64 x, dv u] w fun e w' => e = .returned (.tuple #[.int .i64 (nx u x).1, .int .i64 (bI (hb u x))]) ∧ w = w' := by
  rw [← hb_nx]
  obtain ⟨p1, p2⟩ := sq_bd x h1 h2
  cases u
  · rw [dv_f, nx_f]
    obtain ⟨s1, s2⟩ := sqD_bd x h1 h2
    have S := Lib.hid (show sqD x = (x * x).fdiv 100000000 from rfl)
    by_cases h : sqD x < 1000000000
    · have H := Lib.hid (nxD_lo x h)
      go_enter Tryd.func273, Tryd.ntmps273
      go_wp2_with (go_at_call 187; refine (quotientDown_any _ _ _ (by omega) (by omega) (by omega) (by omega) (by omega)).mono ?_; rw [← S.out]; rintro e w' ⟨rfl, rfl⟩)
      go_ret2
      exact ⟨ret_two (by rw [H.out]) (by rw [H.out]), rfl⟩
    · have H := Lib.hid (nxD_hi x (by omega))
      have h' : 1000000000 ≤ sqD x := by omega
      clear h
      go_enter Tryd.func273, Tryd.ntmps273
      go_wp2_with fail
      refine (quotientDown_any _ _ _ (by omega) (by omega) (by omega) (by omega) (by omega)).mono ?_
      rw [← S.out]
      rintro e w' ⟨rfl, rfl⟩
      go_wp2_with fail
      refine (quotientDown_any _ _ _ (by omega) (by omega) (by omega) (by omega) (by omega)).mono ?_
      rintro e w' ⟨rfl, rfl⟩
      go_wp2_with fail
      go_ret2
      exact ⟨ret_two (by rw [H.out]) (by rw [H.out]), rfl⟩
  · rw [dv_t, nx_t]
    obtain ⟨s1, s2⟩ := sqU_bd x h1 h2
    have S := Lib.hid (show sqU x = cd (x * x) 100000000 from rfl)
    by_cases h : sqU x < 1000000000
    · have H := Lib.hid (nxU_lo x h)
      go_enter Tryd.func273, Tryd.ntmps273
      go_wp2_with (go_at_call 212; refine (quotientUp_any _ _ _ (by omega) (by omega) (by omega) (by omega) (by omega)).mono ?_; rw [← S.out]; rintro e w' ⟨rfl, rfl⟩)
      go_ret2
      exact ⟨ret_two (by rw [H.out]) (by rw [H.out]), rfl⟩
    · have H := Lib.hid (nxU_hi x (by omega))
      have h' : 1000000000 ≤ sqU x := by omega
      clear h
      go_enter Tryd.func273, Tryd.ntmps273
      go_wp2_with fail
      refine (quotientUp_any _ _ _ (by omega) (by omega) (by omega) (by omega) (by omega)).mono ?_
      rw [← S.out]
      rintro e w' ⟨rfl, rfl⟩
      go_wp2_with fail
      refine (quotientUp_any _ _ _ (by omega) (by omega) (by omega) (by omega) (by omega)).mono ?_
      rintro e w' ⟨rfl, rfl⟩
      go_wp2_with fail
      go_ret2
      exact ⟨ret_two (by rw [H.out]) (by rw [H.out]), rfl⟩

set_option maxRecDepth 100000 in
set_option maxHeartbeats 1000000 in
/-- The iterator: for every loop body that keeps what lay below n₀. -/
theorem bits1_in (n : Nat) (hn : 1 ≤ n) (u : Bool) (x : Int) (h1 : 100000000 ≤ x) (h2 : x ≤ 999999999) (l bx bd n₀ : Nat) (J Jx : List Bool → World → Prop)
    (hY : ∀ pre y W, J pre W → pre.length < 20 → YieldAt Fence.wide (n - 1) Tryd.prog l #[.int .i64 (bI y)] W fun e W' =>
      (e = .returned (.bool true) ∧ J (pre ++ [y]) W' ∧ Below n₀ W W') ∨ (e = .returned (.bool false) ∧ Jx (pre ++ [y]) W'))
    (W : World) (hx : W.cell? ⟨bx, 0, none⟩ = some (.int .i64 x)) (hd : W.cell? ⟨bd, 0, none⟩ = some (dv u)) (lx : bx < n₀) (ld : bd < n₀) (h0 : J [] W) :
    CallsIn Fence.wide n Tryd.prog 272 #[.func (.yield l) #[] #[], .pointer (some ⟨bx, 0, none⟩), .pointer (some ⟨bd, 0, none⟩)] W fun e W' => (∃ v, e = .returned v) ∧
      ((∃ ys, ys = bls u x 20 ∧ J ys W') ∨ (∃ pre, True ∧ Jx pre W')) := by
  refine callsIn_of_wp Tryd.func272 rfl trivial ?_ rfl
  simp only [Tryd.ntmps272, List.size_toArray, List.length_cons, List.length_nil, Nat.reduceAdd, Nat.reduceSub, Array.replicate_succ, Array.replicate_zero, List.push_toArray, List.append_toArray, List.nil_append, List.cons_append]
  gi_wp2
  gi_loopw [4, 5, 7] (fun r b i wr => ∃ (k : Nat) (c : Int), k ≤ 20 ∧ i = .int .i64 k ∧ r = .int .i64 (lgs u x k).1 ∧ b = .int .i64 c ∧ J (bls u x k) wr ∧ wr.cell? ⟨bx, 0, none⟩ = some (.int .i64 x) ∧ wr.cell? ⟨bd, 0, none⟩ = some (dv u))
    (fun r b i wr => 20 - (intOf i).toNat)
  case atStart => exact ⟨0, 0, by omega, rfl, by rw [lgs_zero], rfl, h0, hx, hd⟩
  case round =>
    obtain ⟨k, c, hk, rfl, rfl, rfl, hJ, hx, hd⟩ := hrel
    by_cases hlt : k < 20
    · obtain ⟨r1, r2, -⟩ := lgs_bd u x h1 h2 k hk
      have E1 := Lib.hid (lgs_succ u x k)
      have E2 := Lib.hid (bls_succ u x k)
      have hl : (bls u x k).length < 20 := by rw [bls_len]; exact hlt
      obtain ⟨fn, tmps, assign, body, hy, hR⟩ := hY (bls u x k) (hb u (lgs u x k).1) wr hJ hl
      clear hl
      gi_wp2_with (refine ⟨trivial, ?_⟩; gi_at_call 273; refine (callsIn_wide.2 (nextBit_any _ _ _ r1 r2)).mono ?_; rintro e w' ⟨rfl, rfl⟩)
      refine hR.mono ?_
      rintro e W3 (⟨rfl, hJ3, hk3⟩ | ⟨rfl, hJx3⟩)
      · have hx3 : W3.cell? ⟨bx, 0, none⟩ = some (.int .i64 x) := (hk3.cell (p := ⟨bx, 0, none⟩) lx).trans hx
        have hd3 : W3.cell? ⟨bd, 0, none⟩ = some (dv u) := (hk3.cell (p := ⟨bd, 0, none⟩) ld).trans hd
        gi_wp2
        go_roundw
        case rel => exact ⟨k + 1, bI (hb u (lgs u x k).1), by omega, by go_num, by rw [E1.out], rfl, by rw [E2.out]; exact hJ3, hx3, hd3⟩
        case measure => simp [intOf]; omega
      · gi_wp2
        refine bodyPost_ret (results_none rfl _ _ _) rfl ?_
        exact ⟨⟨_, rfl⟩, .inr ⟨_, trivial, hJx3⟩⟩
    · obtain rfl : k = 20 := by omega
      gi_wp2
      go_end0
      exact ⟨⟨_, rfl⟩, .inl ⟨_, rfl, hJ⟩⟩

theorem bits_stops (n : Nat) (hn : 1 ≤ n) (u : Bool) (x : Int) (h1 : 100000000 ≤ x) (h2 : x ≤ 999999999) (bx bd n₀ : Nat) (w : World) (hx : w.cell? ⟨bx, 0, none⟩ = some (.int .i64 x)) (hd : w.cell? ⟨bd, 0, none⟩ = some (dv u)) (lx : bx < n₀) (ld : bd < n₀) (hn₀ : n₀ ≤ w.heap.size) :
    SeqStopsK Fence.wide n Tryd.prog 272 #[.pointer (some ⟨bx, 0, none⟩), .pointer (some ⟨bd, 0, none⟩)] (fun y : Bool => #[Value.int .i64 (bI y)]) (Below n₀) (fun ys => ys = bls u x 20) (fun _ => True) 20 w := fun l J Jx W hW _ _ hY h0 =>
  bits1_in n hn u x h1 h2 l bx bd n₀ J Jx hY W ((hW.cell (p := ⟨bx, 0, none⟩) (Nat.lt_of_lt_of_le lx hn₀)).trans hx) ((hW.cell (p := ⟨bd, 0, none⟩) (Nat.lt_of_lt_of_le ld hn₀)).trans hd) lx ld h0

theorem cell_of_box_b {W : World} {B : Nat} {v : Value} {t : TypeId} (h : W.heap[B]? = some (.cells #[v] t (0, 0))) : W.cell? ⟨B, 0, none⟩ = some v ∧ W.frozen? ⟨B, 0, none⟩ = false := by
  constructor <;> simp [World.cell?, World.frozen?, h]
theorem cell_new_b (W : World) (v : Value) (t : TypeId) : (W.alloc (.cells #[v] t)).cell? ⟨W.heap.size, 0, none⟩ = some v ∧ (W.alloc (.cells #[v] t)).frozen? ⟨W.heap.size, 0, none⟩ = false :=
  cell_of_box_b (World.alloc_heap_new W _)

set_option maxRecDepth 100000 in
set_option maxHeartbeats 2000000 in
theorem bitNumber_any (u : Bool) (x : Int) (h1 : 100000000 ≤ x) (h2 : x ≤ 999999999) (bx bd : Nat) (w : World) (hx : w.cell? ⟨bx, 0, none⟩ = some (.int .i64 x)) (hd : w.cell? ⟨bd, 0, none⟩ = some (dv u)) (lx : bx < w.heap.size) (ld : bd < w.heap.size) :
    Calls Tryd.prog 270 #[.func (.func 272) #[] #[.pointer (some ⟨bx, 0, none⟩), .pointer (some ⟨bd, 0, none⟩)]] w fun e w' => e = .returned (.int .i64 (lgb u x)) ∧ Below w.heap.size w w' := by
  refine (callsIn_wide (n := 5)).1 ?_
  refine callsIn_of_wp_marks Tryd.func270 rfl trivial ?_ rfl
  simp only [Tryd.ntmps270, List.size_toArray, List.length_cons, List.length_nil, Nat.reduceAdd, Nat.reduceSub, Array.replicate_succ, Array.replicate_zero, List.push_toArray, List.append_toArray, List.nil_append, List.cons_append]
  gi_wp2
  have hs := cell_new_b w (.int .i64 0) 2
  have hB0 : Below w.heap.size w (w.alloc (.cells #[.int .i64 0] 2)) := (Below.refl _ w).alloc (Nat.le_refl _) _
  have hx1 : (w.alloc (.cells #[.int .i64 0] 2)).cell? ⟨bx, 0, none⟩ = some (.int .i64 x) := (hB0.cell (p := ⟨bx, 0, none⟩) lx).trans hx
  have hd1 : (w.alloc (.cells #[.int .i64 0] 2)).cell? ⟨bd, 0, none⟩ = some (dv u) := (hB0.cell (p := ⟨bd, 0, none⟩) ld).trans hd
  refine wpIn_rangeFunc_ownF rfl (by omega) (gf := 272) (lb := #[.pointer (some ⟨bx, 0, none⟩), .pointer (some ⟨bd, 0, none⟩)]) rfl trivial (enters_of Tryd.func272 (by kernel_rfl) rfl)
    (bits_stops (5 - 1) (by omega) u x h1 h2 bx bd w.heap.size _ hx1 hd1 lx ld (by simp)) belowK_t (belowK_b (by simp)) (Below.refl _ _) (fun _ => rfl)
    (fun pre W => (W.cell? ⟨w.heap.size, 0, none⟩ = some (.int .i64 (numB pre)) ∧ W.frozen? ⟨w.heap.size, 0, none⟩ = false) ∧ Below w.heap.size w W)
    (fun _ _ _ => False)
    (OwnFrom.and (Own.from (fun s A B row hs hg hr => ⟨cell_kept hs.1 hg hr, (frozen_kept hs.1 hg hr).trans hs.2⟩) _) (ownFrom_below (Nat.le_refl _) (by simp)))
    (fun _ _ _ _ _ hs _ _ => hs)
    ⟨by rw [numB_nil]; exact hs, hB0⟩
    (fun y => { tmps := #[.func (.func 272) #[] #[.pointer (some ⟨bx, 0, none⟩), .pointer (some ⟨bd, 0, none⟩)], undef, .int .i64 0, .pointer (some ⟨w.heap.size, 0, none⟩), .int .i64 (bI y), .func (.func 272) #[] #[.pointer (some ⟨bx, 0, none⟩), .pointer (some ⟨bd, 0, none⟩)], .int .i64 (bI y), undef, undef, undef, undef, undef], defers := [] }) ?assign ?body ?done ?stop
  case assign =>
    intro l y W K hK
    gi_wp2
    exact hK
  case body =>
    rintro l pre y W ⟨⟨hc, hf⟩, hB⟩ hlen
    obtain ⟨m1, m2⟩ := numB_bd pre (by omega)
    obtain ⟨y1, y2⟩ := bI_bd y
    gi_wp2
    exact ⟨KeepsOthers.setCell _ _ _, (Below.refl w.heap.size W).setCell (p := ⟨w.heap.size, 0, none⟩) (Nat.le_refl _) _, ⟨by rw [numB_snoc]; exact World.cell?_setCell_same' _ _ _ (by rw [hc]; rfl), by rw [World.frozen?_setCell]; exact hf⟩, hB.setCell (p := ⟨w.heap.size, 0, none⟩) (Nat.le_refl _) _⟩
  case done =>
    rintro D ys W hD rfl ⟨⟨hc, _⟩, hB⟩ hK
    gi_wp2
    refine ⟨by simp, .inl ⟨_, _, rfl, run_takeDeferred hK, ?_⟩⟩
    exact ⟨_, results_tmp rfl _ _ _, by rw [bls_num]; rfl, hB.trans (belowK_b (w := w) (Nat.le_refl _) W D _ _ (by simp at hD; omega) hK rfl rfl)⟩
  case stop =>
    rintro D c pre W _ _ h _
    exact h.elim
end Go.Proofs.YtggflladheemoaaDoor
