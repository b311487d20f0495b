/- Contracts of chapter 8: the program's nearest tick. -/
import Derived.Test.YtlimfpdibohioaaC08b
import Derived.BigQuiet
namespace Go.Proofs.Ytlimfpdibohioaa
open Go.RowKit
set_option linter.unusedVariables false
set_option linter.unusedSimpArgs false

theorem allv_one (p : Int) : allv [p] = vl p := by unfold allv; simp
theorem allv_two (p q : Int) : allv [p, q] = (vl p && vl q) := by unfold allv; simp
theorem Row.one (w : World) (t : TypeId) (x : Value) : Row (w.alloc (.cells #[x] t)) w.heap.size t [x] := Row.new w t [x]

set_option maxRecDepth 100000 in
set_option maxHeartbeats 1000000 in
theorem nt_impl (A : Option Addr) (n c : Nat) (zs : List P3) (p : Int) (w : World) (hn : zs.length = n) (hN : n ≤ 16777216) (hA : Reads w w.heap.size A (cells3 zs)) :
    Calls Try.prog 24 #[.slice A n c, .int .i64 p] w fun e w' => e = .returned (.tuple #[.int .i64 (ntV zs p), .int .i64 (ntE zs p)]) ∧ Gr w w' := by
  have HL := Lib.hid hn
  have HA := Lib.hid hA
  have HC := Lib.hid (fun d => tkcode_impl A (some ⟨w.heap.size, 0, none⟩) n c 1 d zs [p] (w.alloc (.cells #[.int .i64 p] 2)) hn hN (hA.gr ((Gr.refl w).alloc _)) rfl (by omega) (Row.one w _ _).reads)
  rw [allv_one] at HC
  clear hA
  rcases nt_cases zs p with ⟨h1, h2, h3⟩ | ⟨h1, h1b, h2, h3⟩ | ⟨h1, h1b, h2, h3⟩
  · rw [h2, h3]
    clear h2 h3
    generalize tkE zs (vl p) = cd at *
    have hc0 : (cd == 0) = false := by simpa using h1
    go_enter Try.func24, Try.ntmps24
    go_wp2_with (go_at_call 55; refine (HC.out _).mono ?_; rintro e w' ⟨rfl, kk, os, rfl⟩)
    ((try simp only [Exit.inBlock, Exit.then]); refine bodyPost_ret (v := .tuple #[.int .i64 0, .int .i64 cd]) (by simp [results, Try.results24, go_sem]) rfl ?_)
    exact ⟨rfl, (by repeat (first | with_reducible exact Gr.refl _ | with_reducible refine Gr.alloc ?_ _ | with_reducible refine Gr.gr ?_ _ _ | with_reducible refine Gr.drew ?_ | with_reducible refine Gr.drewN ?_ _))⟩
  · rw [h2, h3]
    rw [h1] at HC
    obtain rfl : n = 0 := by omega
    clear h1 h2 h3 hn
    go_enter Try.func24, Try.ntmps24
    go_wp2_with (go_at_call 55; refine (HC.out _).mono ?_; rintro e w' ⟨rfl, kk, os, rfl⟩)
    ((try simp only [Exit.inBlock, Exit.then]); refine bodyPost_ret (v := .tuple #[.int .i64 0, .int .i64 4]) (by simp [results, Try.results24, go_sem]) rfl ?_)
    exact ⟨rfl, (by repeat (first | with_reducible exact Gr.refl _ | with_reducible refine Gr.alloc ?_ _ | with_reducible refine Gr.gr ?_ _ _ | with_reducible refine Gr.drew ?_ | with_reducible refine Gr.drewN ?_ _))⟩
  rw [h2, h3, hn]
  rw [h1] at HC
  have hn0 : 0 < n := by omega
  have hnz : ((n : Int) == 0) = false := by simp; omega
  obtain ⟨-, hv, hP, -⟩ := tkE_zero h1
  have HP := Lib.hid (tkP_bd hP)
  have hp := (vl_iff p).1 hv
  clear h1 h2 h3 hv hn hP
  go_enter Try.func24, Try.ntmps24
  go_wp2_with (go_at_call 55; refine (HC.out _).mono ?_; rintro e w' ⟨rfl, kk, os, rfl⟩)
  go_loopw [7, 22] (fun b i wr => ∃ k : Nat, k ≤ n ∧ i = .int .i64 k ∧ b = .int .i64 (argm (tkD zs p) k : Int) ∧ Gr w wr) (fun _ i _ => n - (intOf i).toNat)
  case atStart => exact ⟨0, by omega, rfl, by simp [argm], (by repeat (first | with_reducible exact Gr.refl _ | with_reducible refine Gr.alloc ?_ _ | with_reducible refine Gr.gr ?_ _ _ | with_reducible refine Gr.drew ?_ | with_reducible refine Gr.drewN ?_ _))⟩
  case round =>
    obtain ⟨k, hk, rfl, rfl, hG⟩ := hrel
    by_cases hlt : k < n
    · obtain ⟨z, hz⟩ := some_at (l := zs) (k := k) (by rw [HL.out]; exact hlt)
      have hj : argm (tkD zs p) k < n := by
        rcases Nat.eq_zero_or_pos k with h | h
        · subst h; simpa [argm] using hn0
        · have := argm_lt (tkD zs p) k h; omega
      have HS := Lib.hid (argm_succ (tkD zs p) k)
      have e1 : tkD zs p k = ((z.2.1 - p).natAbs : Int) := by unfold tkD; rw [tkP_at hz]
      have b1 := HP.out k
      rw [tkP_at hz] at b1
      generalize argm (tkD zs p) k = j at *
      obtain ⟨y, hy⟩ := some_at (l := zs) (k := j) (by rw [HL.out]; exact hj)
      have e2 : tkD zs p j = ((y.2.1 - p).natAbs : Int) := by unfold tkD; rw [tkP_at hy]
      have b2 := HP.out j
      rw [tkP_at hy] at b2
      obtain ⟨g, o, rfl, hg, x0, x1, x2⟩ := (HA.out.gr hG).at3 hz
      obtain ⟨g2, o2, eg, -, -, y1, -⟩ := (HA.out.gr hG).at3 hy
      injection eg with eg
      injection eg with eg1 eg2
      subst eg1 eg2
      rw [e1, e2] at HS
      obtain ⟨za, zb, zc⟩ := z
      obtain ⟨ya, yb, yc⟩ := y
      simp only at *
      clear hz hy e1 e2
      have HD1 := Lib.hid (fun W => distance_any zb p W (by omega) (by omega) (by omega) (by omega))
      have HD2 := Lib.hid (fun W => distance_any yb p W (by omega) (by omega) (by omega) (by omega))
      have HG := Lib.hid hG
      clear hG
      go_wp2
      ((first | refine region_gr_on (by kernel_rfl) (by kernel_rfl) ?_ | refine region_gr (by kernel_rfl) (by kernel_rfl) ?_); (repeat (quiet_step (first | with_reducible exact Calls.gr_same (HD1.out _) | with_reducible exact Calls.gr_same (HD2.out _)))); refine wpQuiet_nil ?_; intro _ hw'; obtain ⟨⟨kq, oq⟩, hw''⟩ := hw'; subst hw'')
      by_cases hcc : ((zb - p).natAbs : Int) < ((yb - p).natAbs : Int)
      · rw [if_pos hcc] at HS
        go_wp2
        go_roundw
        case rel => exact ⟨k + 1, by omega, by go_num, by rw [HS.out], HG.out.trans (by repeat (first | with_reducible exact Gr.refl _ | with_reducible refine Gr.alloc ?_ _ | with_reducible refine Gr.gr ?_ _ _ | with_reducible refine Gr.drew ?_ | with_reducible refine Gr.drewN ?_ _))⟩
        case measure => simp [intOf]; omega
      · rw [if_neg hcc] at HS
        go_wp2
        go_roundw
        case rel => exact ⟨k + 1, by omega, by go_num, by rw [HS.out], HG.out.trans (by repeat (first | with_reducible exact Gr.refl _ | with_reducible refine Gr.alloc ?_ _ | with_reducible refine Gr.gr ?_ _ _ | with_reducible refine Gr.drew ?_ | with_reducible refine Gr.drewN ?_ _))⟩
        case measure => simp [intOf]; omega
    · obtain rfl : k = n := by omega
      go_wp2
      ((try simp only [Exit.inBlock, Exit.then]); refine bodyPost_ret (v := .tuple #[.int .i64 (argm (tkD zs p) k : Int), .int .i64 0]) (by simp [results, Try.results24, go_sem]) rfl ?_)
      exact ⟨rfl, hG⟩
end Go.Proofs.Ytlimfpdibohioaa
