/- Contracts of chapter 8: which ticks stay, in the program: every case. -/
import Derived.Test.YtlimfpdibohioaaC08m
namespace Go.Proofs.Ytlimfpdibohioaa
open Go.RowKit Go.Shelf
set_option linter.unusedVariables false
set_option linter.unusedSimpArgs false

theorem enters_nearD (args : Array Value) (w : World) : (callFunc 61 args).run Try.prog w = .ok (.enter 61 args) w := by kernel_rfl
/-- Two ticks are nearer than the distance: the closure. -/
theorem nearD_any (b : Nat) (zs : List P3) (d : Int) (i k : Nat) (x y : P3) (hP : allP zs = true) (hx : zs[i]? = some x) (hy : zs[k]? = some y) (w : World) (hb : w.cell? ⟨b, 0, none⟩ = some (.int .i64 d)) :
    Calls Try.prog 61 (#[.agg #[.int .i64 x.1, .int .i64 x.2.1, .int .i64 x.2.2], .agg #[.int .i64 y.1, .int .i64 y.2.1, .int .i64 y.2.2]] ++ #[.pointer (some ⟨b, 0, none⟩)]) w fun e w' => e = .returned (.bool (nrD zs d i k)) ∧ Gr w w' := by
  rw [show (#[Value.agg #[.int .i64 x.1, .int .i64 x.2.1, .int .i64 x.2.2], .agg #[.int .i64 y.1, .int .i64 y.2.1, .int .i64 y.2.2]] ++ #[.pointer (some ⟨b, 0, none⟩)] : Array Value) = #[.agg #[.int .i64 x.1, .int .i64 x.2.1, .int .i64 x.2.2], .agg #[.int .i64 y.1, .int .i64 y.2.1, .int .i64 y.2.2], .pointer (some ⟨b, 0, none⟩)] from rfl]
  have b0 := tkP_bd hP i
  have b1 := tkP_bd hP k
  rw [tkP_at hx] at b0
  rw [tkP_at hy] at b1
  have HN := Lib.hid (show nrD zs d i k = decide (((x.2.1 - y.2.1).natAbs : Int) < d) by
    rw [← nrD_sym]
    unfold Dp
    rw [tkP_at hx, tkP_at hy])
  obtain ⟨xa, xb, xc⟩ := x
  obtain ⟨ya, yb, yc⟩ := y
  simp only at b0 b1 HN
  have HF := Lib.hid (fun W => distT_any xa xb xc ya yb yc W b0 b1)
  have hbl := World.block_lt_of_cell? w _ hb
  have hc2 : ∀ (o1 o2 : Obj) (k : Nat) (os : Array Obj), (gr ((w.alloc o1).alloc o2) k os).cell? ⟨b, 0, none⟩ = some (.int .i64 d) := fun o1 o2 k os => ((Gr.below (show Gr w (gr ((w.alloc o1).alloc o2) k os) from (by repeat (first | with_reducible exact Gr.refl _ | with_reducible refine Gr.alloc ?_ _ | with_reducible refine Gr.gr ?_ _ _ | with_reducible refine Gr.drew ?_ | with_reducible refine Gr.drewN ?_ _)))).cell (p := ⟨b, 0, none⟩) hbl).trans hb
  generalize nrD zs d i k = r at *
  generalize ((xb - yb).natAbs : Int) = q at *
  clear hx hy
  go_enter Try.func61, Try.ntmps61
  go_wp2
  ((first | refine region_gr_on (by kernel_rfl) (by kernel_rfl) ?_ | refine region_gr (by kernel_rfl) (by kernel_rfl) ?_); (repeat (quiet_step (exact Calls.gr_of (HF.out _)))); refine wpQuiet_nil ?_; intro _ hw'; obtain ⟨⟨kq, oq⟩, hw''⟩ := hw'; subst hw'')
  go_wp2
  go_ret
  exact ⟨ret_bool HN.out.symm, (by repeat (first | with_reducible exact Gr.refl _ | with_reducible refine Gr.alloc ?_ _ | with_reducible refine Gr.gr ?_ _ _ | with_reducible refine Gr.drew ?_ | with_reducible refine Gr.drewN ?_ _))⟩

set_option maxRecDepth 100000 in
set_option maxHeartbeats 2000000 in
theorem ka_impl (A : Option Addr) (n c : Nat) (zs : List P3) (d : Int) (w : World) (hn : zs.length = n) (hN : n ≤ 16777216) (hA : Reads w w.heap.size A (cells3 zs)) :
    Calls Try.prog 33 #[.slice A n c, .int .i64 d] w fun e w' => (∃ v, e = .returned (.tuple #[v, .int .i64 (kaE zs d)]) ∧ Lst w' w.heap.size v (kaL zs d)) ∧ Below w.heap.size w w' := by
  have HC := Lib.hid (fun W (h : Gr w W) => tkcode_impl A none n c 0 0 zs [] W hn hN (hA.gr h) rfl (by omega) (Reads.nil _ _ _))
  rw [show allv [] = true from rfl] at HC
  have HHH := Lib.hid (fun W (h : Gr w W) => haveHeights_any A n c zs W hn hN (hA.gr h))
  have HNIL := Lib.hid (fun W => World.ownsRow_nil W w.heap.size 2 1)
  have hG1 : Gr w (w.alloc (.cells #[.int .i64 d] 2)) := (by repeat (first | with_reducible exact Gr.refl _ | with_reducible refine Gr.alloc ?_ _ | with_reducible refine Gr.gr ?_ _ _ | with_reducible refine Gr.drew ?_ | with_reducible refine Gr.drewN ?_ _))
  have HG1 := Lib.hid hG1
  have hcell : (w.alloc (.cells #[.int .i64 d] 2)).cell? ⟨w.heap.size, 0, none⟩ = some (.int .i64 d) := by simp
  have HCELL := Lib.hid hcell
  clear hG1 hcell
  rcases ka_cases zs d with ⟨h1, h2, h3⟩ | ⟨h1, hno, h2, h3⟩ | ⟨h1, hH, hd, h2, h3⟩
  · rw [h2, h3]
    clear h2 h3 hn hA HHH
    generalize tkE zs true = cd at *
    have hc0 : (cd == 0) = false := by simpa using h1
    go_enter Try.func33, Try.ntmps33
    go_wp2_with fail
    refine (HC.out _ HG1.out).mono ?_
    rintro e w' ⟨rfl, hg2⟩
    go_wp2_with fail
    ((try simp only [Exit.inBlock, Exit.then]); refine bodyPost_ret (v := .tuple #[.slice none 0 0, .int .i64 cd]) (by simp [results, Try.results33, go_sem]) rfl ?_)
    exact ⟨⟨_, rfl, HNIL.out _⟩, (HG1.out.trans hg2).below⟩
  · rw [h2, h3]
    rw [h1] at HC
    have hor : d < 0 ∨ (0 ≤ d ∧ 100000 < d) ∨ (0 ≤ d ∧ d ≤ 100000 ∧ allH zs = false) := by
      by_cases a : d < 0
      · exact .inl a
      by_cases b : 100000 < d
      · exact .inr (.inl ⟨by omega, b⟩)
      · refine .inr (.inr ⟨by omega, by omega, ?_⟩)
        cases hh : allH zs
        · rfl
        · exact absurd ⟨hh, by omega, by omega⟩ hno
    clear h1 h2 h3 hno hn hA
    rcases hor with h | ⟨h, h'⟩ | ⟨h, h', h''⟩
    · go_enter Try.func33, Try.ntmps33
      go_wp2_with fail
      refine (HC.out _ HG1.out).mono ?_
      rintro e w' ⟨rfl, kk, os, rfl⟩
      go_wp2_with fail
      ((try simp only [Exit.inBlock, Exit.then]); refine bodyPost_ret (v := .tuple #[.slice none 0 0, .int .i64 2]) (by simp [results, Try.results33, go_sem]) rfl ?_)
      exact ⟨⟨_, rfl, HNIL.out _⟩, Gr.below (by repeat (first | with_reducible exact Gr.refl _ | with_reducible refine Gr.alloc ?_ _ | with_reducible refine Gr.gr ?_ _ _ | with_reducible refine Gr.drew ?_ | with_reducible refine Gr.drewN ?_ _))⟩
    · go_enter Try.func33, Try.ntmps33
      go_wp2_with fail
      refine (HC.out _ HG1.out).mono ?_
      rintro e w' ⟨rfl, kk, os, rfl⟩
      go_wp2_with fail
      ((try simp only [Exit.inBlock, Exit.then]); refine bodyPost_ret (v := .tuple #[.slice none 0 0, .int .i64 2]) (by simp [results, Try.results33, go_sem]) rfl ?_)
      exact ⟨⟨_, rfl, HNIL.out _⟩, Gr.below (by repeat (first | with_reducible exact Gr.refl _ | with_reducible refine Gr.alloc ?_ _ | with_reducible refine Gr.gr ?_ _ _ | with_reducible refine Gr.drew ?_ | with_reducible refine Gr.drewN ?_ _))⟩
    · rw [h''] at HHH
      have d1 : decide (d < 0) = false := decide_eq_false (by omega)
      have d2 : decide (100000 < d) = false := decide_eq_false (by omega)
      go_enter Try.func33, Try.ntmps33
      go_wp2_with fail
      refine (HC.out _ HG1.out).mono ?_
      rintro e w' ⟨rfl, kk, os, rfl⟩
      go_wp2_with fail
      refine (HHH.out _ (by repeat (first | with_reducible exact Gr.refl _ | with_reducible refine Gr.alloc ?_ _ | with_reducible refine Gr.gr ?_ _ _ | with_reducible refine Gr.drew ?_ | with_reducible refine Gr.drewN ?_ _))).mono ?_
      rintro e w' ⟨rfl, kk2, os2, rfl⟩
      go_wp2_with fail
      ((try simp only [Exit.inBlock, Exit.then]); refine bodyPost_ret (v := .tuple #[.slice none 0 0, .int .i64 2]) (by simp [results, Try.results33, go_sem]) rfl ?_)
      exact ⟨⟨_, rfl, HNIL.out _⟩, Gr.below (by repeat (first | with_reducible exact Gr.refl _ | with_reducible refine Gr.alloc ?_ _ | with_reducible refine Gr.gr ?_ _ _ | with_reducible refine Gr.drew ?_ | with_reducible refine Gr.drewN ?_ _))⟩
  · rw [h2, h3, hn]
    obtain ⟨h150, -, hP, -⟩ := tkE_zero h1
    rw [h1] at HC
    rw [hH] at HHH
    have HKH := Lib.hid (fun W (hg : Gr w W) (hc : W.cell? ⟨w.heap.size, 0, none⟩ = some (.int .i64 d)) => keepHighest_any A n c zs 61 #[.pointer (some ⟨w.heap.size, 0, none⟩)] (nrD zs d) W hn (by omega) (hA.gr hg) hH enters_nearD (fun W' hb i k x y hx hy => nearD_any w.heap.size zs d i k x y hP hx hy W' ((hb.cell (p := ⟨w.heap.size, 0, none⟩) (World.block_lt_of_cell? W _ hc)).trans hc)))
    have d1 : decide (d < 0) = false := decide_eq_false (by omega)
    have d2 : decide (100000 < d) = false := decide_eq_false (by omega)
    generalize natI (lsS n (kpS zs n (nrD zs d) (byH zs n))) = L at *
    clear h1 h2 h3 hn hA h150 hP hH
    go_enter Try.func33, Try.ntmps33
    go_wp2_with fail
    refine (HC.out _ HG1.out).mono ?_
    rintro e w' ⟨rfl, kk, os, rfl⟩
    go_wp2_with fail
    refine (HHH.out _ (by repeat (first | with_reducible exact Gr.refl _ | with_reducible refine Gr.alloc ?_ _ | with_reducible refine Gr.gr ?_ _ _ | with_reducible refine Gr.drew ?_ | with_reducible refine Gr.drewN ?_ _))).mono ?_
    rintro e w' ⟨rfl, kk2, os2, rfl⟩
    go_wp2_with fail
    refine (HKH.out _ (by repeat (first | with_reducible exact Gr.refl _ | with_reducible refine Gr.alloc ?_ _ | with_reducible refine Gr.gr ?_ _ _ | with_reducible refine Gr.drew ?_ | with_reducible refine Gr.drewN ?_ _)) (by first | (simp; done) | (rw [gr_cell _ _ _ _ _ (by simp)]; simp))).mono ?_
    rintro e w5 ⟨⟨v, rfl, hv⟩, hb5⟩
    go_wp2_with fail
    have hsz : w.heap.size ≤ (gr (w.alloc (.cells #[.int .i64 d] 2)) kk2 (os ++ os2)).heap.size := by rw [gr_size]; simp; omega
    ((try simp only [Exit.inBlock, Exit.then]); refine bodyPost_ret (v := .tuple #[v, .int .i64 0]) (by simp [results, Try.results33, go_sem]) rfl ?_)
    exact ⟨⟨_, rfl, hv.mono hsz⟩, (Gr.below (by repeat (first | with_reducible exact Gr.refl _ | with_reducible refine Gr.alloc ?_ _ | with_reducible refine Gr.gr ?_ _ _ | with_reducible refine Gr.drew ?_ | with_reducible refine Gr.drewN ?_ _))).trans (hb5.mono hsz)⟩
end Go.Proofs.Ytlimfpdibohioaa
