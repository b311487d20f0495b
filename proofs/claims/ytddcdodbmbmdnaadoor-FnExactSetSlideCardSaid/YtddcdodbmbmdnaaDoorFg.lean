/- Rows of figures; the least one of a row by a comparing function (slices.MinFunc). -/
import Derived.Test.YtddcdodbmbmdnaaDoorSA
import Derived.Test.YtddcdodbmbmdnaaDoorBk
import Derived.OwnWalk
namespace Go.Proofs.YtddcdodbmbmdnaaDoor
open Go.RowKit
set_option linter.unusedVariables false
set_option linter.unusedSimpArgs false

/-- Figures that lie behind one another, read. -/
def FigRow (w : World) (g o n : Nat) (D T : Nat → Int) : Prop := ∀ k, k < n → w.cell? ⟨g, o + k * 2, none⟩ = some (.int .i64 (D k)) ∧ w.cell? ⟨g, o + k * 2 + 1, none⟩ = some (.int .i64 (T k))
theorem FigRow.below {w w' : World} {g o n : Nat} {D T : Nat → Int} (h : FigRow w g o n D T) (hb : Below w.heap.size w w') : FigRow w' g o n D T := by
  intro k hk
  obtain ⟨a, b⟩ := h k hk
  have hg := World.block_lt_of_cell? w _ a
  exact ⟨(hb.cell (p := ⟨g, o + k * 2, none⟩) hg).trans a, (hb.cell (p := ⟨g, o + k * 2 + 1, none⟩) hg).trans b⟩
theorem FigRow.gr {w w' : World} {g o n : Nat} {D T : Nat → Int} (h : FigRow w g o n D T) (hg : Gr w w') : FigRow w' g o n D T := h.below hg.below

theorem two_cells_new (w : World) (a b : Value) (t : TypeId) : ∀ j u, [a, b][j]? = some u → (w.alloc (.cells #[a, b] t)).cell? ((⟨w.heap.size, 0, none⟩ : Addr).add j) = some u := by
  intro j u hj
  match j, hj with
  | 0, hj => simp at hj; subst hj; simp [Addr.add]
  | 1, hj => simp at hj; subst hj; simp [Addr.add]
theorem info_fig : (Tryd.prog.info? 26).map (fun i => (i.zero, i.size, i.bytes)) = some (some (.agg #[.int .i64 0, .int .i64 0]), 2, 16) := by kernel_rfl
def figCells (D T : Nat → Int) : Nat → List Value
  | 0 => []
  | n + 1 => figCells D T n ++ [.int .i64 (D n), .int .i64 (T n)]
theorem figCells_len (D T : Nat → Int) : ∀ n, (figCells D T n).length = n * 2
  | 0 => rfl
  | n + 1 => by unfold figCells; rw [List.length_append, figCells_len D T n]; simp; omega
theorem figCells_at (D T : Nat → Int) : ∀ n k, k < n → (figCells D T n)[k * 2]? = some (.int .i64 (D k)) ∧ (figCells D T n)[k * 2 + 1]? = some (.int .i64 (T k))
  | 0, k, h => absurd h (by omega)
  | n + 1, k, h => by
    have hl := figCells_len D T n
    unfold figCells
    rcases Nat.lt_succ_iff_lt_or_eq.1 h with h1 | rfl
    · have ih := figCells_at D T n k h1
      rw [List.getElem?_append_left (by omega), List.getElem?_append_left (by omega)]
      exact ih
    · rw [List.getElem?_append_right (by omega), List.getElem?_append_right (by omega), hl, show k * 2 - k * 2 = 0 by omega, show k * 2 + 1 - k * 2 = 1 by omega]
      exact ⟨rfl, rfl⟩
theorem addr0 (g k : Nat) : (⟨g, 0, none⟩ : Addr).add k = ⟨g, k, none⟩ := by unfold Addr.add; split <;> simp_all
/-- A slice of figures in blocks of the call's own. -/
abbrev Figs (w : World) (B : Nat) (v : Value) (n : Nat) (D T : Nat → Int) : Prop := w.ownsRow B 26 2 v n (figCells D T n)
theorem Figs.val {w : World} {B n : Nat} {v : Value} {D T : Nat → Int} (h : Figs w B v n D T) : ∃ A c, v = .slice A n c := by
  rcases h.2 with ⟨rfl, rfl⟩ | ⟨g, cap, cur, rfl, -⟩
  · exact ⟨none, 0, rfl⟩
  · exact ⟨_, _, rfl⟩
theorem Figs.row {w : World} {B n : Nat} {v : Value} {D T : Nat → Int} (h : Figs w B v n D T) (hn : 1 ≤ n) : ∃ g c : Nat, v = .slice (some ⟨g, 0, none⟩) n c ∧ FigRow w g 0 n D T := by
  have hc := fun g hg => World.ownsRow.cells h (g := g) hg
  rcases h.2 with ⟨rfl, rfl⟩ | ⟨g, cap, cur, rfl, -⟩
  · omega
  · refine ⟨g, cap, rfl, fun k hk => ?_⟩
    obtain ⟨a, b⟩ := figCells_at D T n k hk
    have x := hc g rfl _ _ a
    have y := hc g rfl _ _ b
    rw [addr0] at x y
    rw [Nat.zero_add]
    exact ⟨x, y⟩
theorem Below.grewF {B : Nat} {a w w' : World} (h : Below B a w) (hB : B ≤ w.heap.size) (hg : Gr w w') : Below B a w' := h.trans (hg.below.mono hB)
set_option maxHeartbeats 2000000 in
/-- The least one of a list that is not empty, by a comparing function that goes by a key. -/
theorem minBy_any (n : Nat) (gf : Nat) (cb : Array Value) (K : Nat → Int) (cv : Nat → Nat → Int) (hcv : ∀ i j, i < n → j < n → (cv i j < 0 ↔ K i < K j)) (g o cap : Nat) (D T : Nat → Int) (w : World) (hn : 1 ≤ n) (hn2 : n ≤ 1000000) (hR : FigRow w g o n D T) (eg : ∀ args w, (callFunc gf args).run Tryd.prog w = .ok (.enter gf args) w)
    (hc : ∀ W, Gr w W → ∀ i j : Nat, i < n → j < n → Calls Tryd.prog gf (#[.agg #[.int .i64 (D i), .int .i64 (T i)], .agg #[.int .i64 (D j), .int .i64 (T j)]] ++ cb) W fun e w' => e = .returned (.int .i64 (cv i j)) ∧ Gr W w') :
    Calls Tryd.prog 109 #[.slice (some ⟨g, o, none⟩) n cap, .func (.func gf) #[] cb] w fun e w' => (∃ m, m < n ∧ e = .returned (.agg #[.int .i64 (D m), .int .i64 (T m)]) ∧ ∀ j, j < n → K m ≤ K j) ∧ Gr w w' := by
  have RR := Lib.hid hR
  have HC := Lib.hid hc
  have HCV := Lib.hid hcv
  obtain ⟨z0, z1⟩ := hR 0 (by omega)
  rw [Nat.zero_mul, Nat.add_zero] at z0 z1
  have gl := World.block_lt_of_cell? w _ z0
  clear hR hc hcv
  go_enter Tryd.func109, Tryd.ntmps109
  go_wp2
  clear z0 z1
  go_loopw [6] (fun i wr => ∃ k m : Nat, i = .int .i64 k ∧ 1 ≤ k ∧ k ≤ n ∧ m < k ∧ Hid (∀ j, j < k → K m ≤ K j) ∧ Blk wr w.heap.size 26 #[.int .i64 0, .int .i64 0] ∧ Blk wr (w.heap.size + 1) 26 #[.int .i64 (D m), .int .i64 (T m)] ∧ Below w.heap.size w wr) (fun i _ => n - (intOf i).toNat)
  case atStart => exact ⟨1, 0, rfl, by omega, hn, by omega, Lib.hid (fun j hj => by rw [show j = 0 by omega]; exact Int.le_refl _), by exact (Blk.new w _ _).alloc _, by have := Blk.new (w.alloc (.cells #[.int .i64 0, .int .i64 0] 26)) 26 #[.int .i64 (D 0), .int .i64 (T 0)]; simpa using this, ((Below.refl _ _).alloc (Nat.le_refl _) _).alloc (by simp) _⟩
  case round =>
    obtain ⟨k, m, rfl, hk1, hkn, hmk, I, hB0, hB1, hbel⟩ := hrel
    have l1 := hB1.lt
    obtain ⟨m0, m1, mf⟩ := hB1.two
    obtain ⟨r0, r1, rf⟩ := hB0.two
    have hle := hbel.size
    by_cases hlt : k < n
    · obtain ⟨x0, x1⟩ := (RR.out.below hbel) k hlt
      have gl2 : g < wr.heap.size := by omega
      have HI := Lib.hid (fun j (hj : j < k + 1) => (Nat.lt_succ_iff_lt_or_eq.1 hj).imp (I.out j) id)
      have hcall := Lib.hid (fun W (hg : Gr wr W) => HC.out W ((Gr.of_below hbel).trans hg) k m hlt (by omega))
      have HT := Lib.hid (HCV.out k m hlt (by omega))
      rcases Int.lt_or_le (cv k m) 0 with hq | hq
      · have hlt2 := Lib.hid (HT.out.1 hq)
        generalize cv k m = q at *
        generalize ek : D k = a at *
        generalize et : T k = b at *
        generalize D m = c at *
        generalize T m = d at *
        clear HT I
        go_wp2
        ((first | refine region_gr_on (by kernel_rfl) (by kernel_rfl) ?_ | refine region_gr (by kernel_rfl) (by kernel_rfl) ?_); (repeat (quiet_step (exact Calls.gr_of (hcall.out _ (by repeat (first | with_reducible exact Gr.refl _ | with_reducible refine Gr.alloc ?_ _ | with_reducible refine Gr.gr ?_ _ _ | with_reducible refine Gr.drew ?_ | with_reducible refine Gr.drewN ?_ _)))))); refine wpQuiet_nil ?_; intro _ hw'; obtain ⟨⟨kq, oq⟩, hw''⟩ := hw'; subst hw'')
        go_wp2
        go_roundw
        case rel => exact ⟨k + 1, k, by go_num, by omega, by omega, by omega, Lib.hid (fun j hj => by
            have := hlt2.out
            rcases HI.out j hj with h | rfl
            · omega
            · exact Int.le_refl _), ((hB0.far (by simp) _).far (by simp) _).grew _ _, by rw [ek, et]; have := ((hB1.set 0 (.int .i64 a)).set 1 (.int .i64 b)).grew kq oq; simpa using this, Below.grewF ((hbel.setCell (by simp) _).setCell (by simp) _) (by simp [World.setCell]; omega) ⟨kq, oq, rfl⟩⟩
        case measure => simp [intOf]; omega
      · have hlt2 := Lib.hid (show K m ≤ K k from Int.not_lt.1 (fun h => by have := HT.out.2 h; omega))
        have hq' : ¬ (cv k m < 0) := by omega
        generalize cv k m = q at *
        generalize ek : D k = a at *
        generalize et : T k = b at *
        generalize ec : D m = c at *
        generalize ed : T m = d at *
        clear HT I
        go_wp2
        ((first | refine region_gr_on (by kernel_rfl) (by kernel_rfl) ?_ | refine region_gr (by kernel_rfl) (by kernel_rfl) ?_); (repeat (quiet_step (exact Calls.gr_of (hcall.out _ (by repeat (first | with_reducible exact Gr.refl _ | with_reducible refine Gr.alloc ?_ _ | with_reducible refine Gr.gr ?_ _ _ | with_reducible refine Gr.drew ?_ | with_reducible refine Gr.drewN ?_ _)))))); refine wpQuiet_nil ?_; intro _ hw'; obtain ⟨⟨kq, oq⟩, hw''⟩ := hw'; subst hw'')
        go_wp2
        go_roundw
        case rel => exact ⟨k + 1, m, by go_num, by omega, by omega, by omega, Lib.hid (fun j hj => by
            have := hlt2.out
            rcases HI.out j hj with h | rfl
            · exact h
            · exact hlt2.out), hB0.grew _ _, by rw [ec, ed]; exact hB1.grew _ _, Below.grewF hbel (by omega) ⟨kq, oq, rfl⟩⟩
        case measure => simp [intOf]; omega
    · obtain rfl : k = n := by omega
      go_wp2
      ((try simp only [Exit.inBlock, Exit.then]); refine bodyPost_ret (v := .agg #[.int .i64 (D m), .int .i64 (T m)]) (by simp [results, Tryd.results109, go_sem, r0, r1, World.cell?_setCell_same']) rfl ?_)
      exact ⟨⟨m, hmk, rfl, I.out⟩, Gr.of_below ((hbel.setCell (by simp) _).setCell (by simp) _)⟩
end Go.Proofs.YtddcdodbmbmdnaaDoor
