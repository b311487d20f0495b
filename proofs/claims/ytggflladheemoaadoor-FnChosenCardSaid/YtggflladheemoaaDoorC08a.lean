/- Contracts of chapter 8: ticks in the laws (copied, compared, written over). -/
import Derived.Test.YtggflladheemoaaDoorC07a0
import Derived.Test.YtggflladheemoaaDoorD1
import Derived.Test.YtggflladheemoaaDoorMC
namespace Go.Proofs.YtggflladheemoaaDoor
open Go.RowKit
set_option linter.unusedVariables false
set_option linter.unusedSimpArgs false

theorem mkTicks (n : Nat) (hn : n ≤ 16777216) (w : World) :
    (Instr.makeSlice 47 (.int .i64 (n : Int)) (.int .i64 (n : Int))).run Tryd.prog w = .ok (.slice (some ⟨w.heap.size, 0, none⟩) n n) (w.alloc (.cells (List.replicate (n * 3) (vi 0)).toArray 60)) :=
  run_mk3 (b := 24) Tryd.underlying47 (by kernel_rfl) (by omega) n hn w
theorem toTick_any (a b c : Int) (w : World) :
    Calls Tryd.prog 72 #[.agg #[.int .i64 a, .int .i64 b, .int .i64 c]] w fun e w' => e = .returned (.agg #[.int .i64 a, .int .i64 b, .int .i64 c]) ∧ Gr w w' := by
  go_enter Tryd.func72, Tryd.ntmps72
  go_wp2
  ((try simp only [Exit.inBlock, Exit.then]); refine bodyPost_ret (v := .agg #[.int .i64 a, .int .i64 b, .int .i64 c]) (by simp [results, Tryd.results72, go_sem]) rfl ?_)
  exact ⟨rfl, (by repeat (first | with_reducible exact Gr.refl _ | with_reducible refine Gr.alloc ?_ _ | with_reducible refine Gr.gr ?_ _ _ | with_reducible refine Gr.drew ?_ | with_reducible refine Gr.drewN ?_ _))⟩

theorem eqTick_same (a b c : Int) (w : World) :
    Calls Tryd.prog 139 #[.agg #[.int .i64 a, .int .i64 b, .int .i64 c], .agg #[.int .i64 a, .int .i64 b, .int .i64 c]] w fun e w' => e = .returned (.bool true) ∧ Gr w w' := by
  go_enter Tryd.func139, Tryd.ntmps139
  go_wp2
  go_ret
  exact ⟨rfl, (by repeat (first | with_reducible exact Gr.refl _ | with_reducible refine Gr.alloc ?_ _ | with_reducible refine Gr.gr ?_ _ _ | with_reducible refine Gr.drew ?_ | with_reducible refine Gr.drewN ?_ _))⟩

set_option maxHeartbeats 1000000 in
/-- Two lists with the same parts are equal. -/
theorem eqTicks_same (A B : Option Addr) (n c d : Nat) (zs : List P3) (w : World) (hn : zs.length = n) (hN : n ≤ 16777216) (hA : Reads w w.heap.size A (cells3 zs)) (hB : Reads w w.heap.size B (cells3 zs)) :
    Calls Tryd.prog 69 #[.slice A n c, .slice B n d] w fun e w' => e = .returned (.bool true) ∧ Gr w w' := by
  have HL := Lib.hid hn
  have HA := Lib.hid hA
  have HB := Lib.hid hB
  clear hn hA hB
  go_enter Tryd.func69, Tryd.ntmps69
  go_wp2
  go_loopw [5] (fun i wr => ∃ k : Nat, k ≤ n ∧ i = .int .i64 k ∧ Gr w wr) (fun i _ => n - (intOf i).toNat)
  case atStart => exact ⟨0, by omega, rfl, Gr.refl _⟩
  case round =>
    obtain ⟨k, hk, rfl, hG⟩ := hrel
    by_cases hlt : k < n
    · obtain ⟨z, hz⟩ := some_at (l := zs) (k := k) (by rw [HL.out]; exact hlt)
      obtain ⟨g, o, rfl, hg, x0, x1, x2⟩ := (HA.out.gr hG).at3 hz
      obtain ⟨g2, o2, rfl, hg2, y0, y1, y2⟩ := (HB.out.gr hG).at3 hz
      have HG := Lib.hid hG
      clear hz hG
      obtain ⟨za, zb, zc⟩ := z
      simp only at x0 x1 x2 y0 y1 y2
      go_wp2
      ((first | refine region_gr_on (by kernel_rfl) (by kernel_rfl) ?_ | refine region_gr (by kernel_rfl) (by kernel_rfl) ?_); (repeat (quiet_step (exact Calls.gr_of (eqTick_same _ _ _ _)))); refine wpQuiet_nil ?_; intro _ hw'; obtain ⟨⟨kq, oq⟩, hw''⟩ := hw'; subst hw'')
      go_wp2
      go_roundw
      case rel => exact ⟨k + 1, by omega, by go_num, HG.out.trans (by repeat (first | with_reducible exact Gr.refl _ | with_reducible refine Gr.alloc ?_ _ | with_reducible refine Gr.gr ?_ _ _ | with_reducible refine Gr.drew ?_ | with_reducible refine Gr.drewN ?_ _))⟩
      case measure => simp [intOf]; omega
    · go_wp2
      go_ret
      exact ⟨rfl, hG⟩

/-- A law writes over the parts of a list: their block alone changes. -/
theorem markTicks_any (g n c : Nat) (vs : List Value) (w : World) (hn : vs.length = n * 3) (hN : n ≤ 16777216) (hR : Row w g 60 vs) :
    Calls Tryd.prog 70 #[.slice (some ⟨g, 0, none⟩) n c, .int .i64 1] w fun e w' => e = .returned (.int .i64 (1 + 3 * (n : Int))) ∧ Dr g w w' := by
  go_enter Tryd.func70, Tryd.ntmps70
  go_wp2
  go_loopw [1, 5] (fun x i wr => ∃ (k : Nat) (us : List Value), k ≤ n ∧ x = .int .i64 (1 + 3 * (k : Int)) ∧ i = .int .i64 k ∧ us.length = n * 3 ∧ Row wr g 60 us ∧ Dr g w wr) (fun _ i _ => n - (intOf i).toNat)
  case atStart => exact ⟨0, vs, by omega, by simp, rfl, hn, hR, Dr.refl _ _⟩
  case round =>
    obtain ⟨k, us, hk, rfl, rfl, hl, hrow, hd⟩ := hrel
    by_cases hlt : k < n
    · have c0 := hrow.cell (k * 3)
      have c1 := hrow.cell (k * 3 + 1)
      have c2 := hrow.cell (k * 3 + 2)
      rw [List.getElem?_eq_getElem (by omega)] at c0 c1 c2
      have f0 := hrow.free (k * 3)
      have f1 := hrow.free (k * 3 + 1)
      have f2 := hrow.free (k * 3 + 2)
      generalize us[k * 3] = u0 at *
      generalize us[k * 3 + 1] = u1 at *
      generalize us[k * 3 + 2] = u2 at *
      have hb : (k : Int) < 16777216 := by omega
      clear hn hR
      go_wp2
      go_roundw
      case rel => exact ⟨k + 1, ((us.set (k * 3) _).set (k * 3 + 1) _).set (k * 3 + 2) _, by omega, by congr 1, by go_num, by simp [hl], ((hrow.set _ _).set _ _).set _ _, ((hd.setCell (.inl rfl) _).setCell (.inl rfl) _).setCell (.inl rfl) _⟩
      case measure => simp [intOf]; omega
    · obtain rfl : k = n := by omega
      go_wp2
      go_ret
      exact ⟨rfl, hd⟩
end Go.Proofs.YtggflladheemoaaDoor
