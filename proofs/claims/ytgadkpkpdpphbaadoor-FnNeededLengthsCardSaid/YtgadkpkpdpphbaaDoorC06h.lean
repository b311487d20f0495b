/- Contracts of chapter 6, the program's: points and the eye, MayBeAt, comparing by sizes, the least and the greatest of a list. -/
import Derived.Test.YtgadkpkpdpphbaaDoorC06b
import Derived.Test.YtgadkpkpdpphbaaDoorC02d
import Derived.Test.YtgadkpkpdpphbaaDoorBk
import Derived.WalkSpells
import Derived.BigQuiet
namespace Go.Proofs.YtgadkpkpdpphbaaDoor
open Go.RowKit
set_option linter.unusedVariables false
set_option linter.unusedSimpArgs false

theorem isPoint_any (p l : Int) (w : World) :
    Calls Tryd.prog 53 #[.int .i64 p, .int .i64 l] w fun e w' => e = .returned (.bool (decide (0 ≤ p ∧ p ≤ l))) ∧ w = w' := by
  by_cases h1 : 0 ≤ p <;> by_cases h2 : p ≤ l
  all_goals
    go_enter Tryd.func53, Tryd.ntmps53
    go_wp2
    go_ret
    exact ⟨ret_bool (by simp [h1, h2]), rfl⟩
theorem isEye_any (x : Int) (w : World) :
    Calls Tryd.prog 54 #[.int .i64 x] w fun e w' => e = .returned (.bool (decide (0 ≤ x ∧ x ≤ 200))) ∧ w = w' := by
  by_cases h1 : 0 ≤ x <;> by_cases h2 : x ≤ 200
  all_goals
    go_enter Tryd.func54, Tryd.ntmps54
    go_wp2
    go_ret
    exact ⟨ret_bool (by simp [h1, h2]), rfl⟩

theorem mb_q (s d t l p e : Int) (h : qcd s d t l ≠ 0) : mbR s d t l p e = (false, qcd s d t l) := by
  rcases qcd_cases s d t l with ⟨-, h1, e1⟩ | ⟨e2, h1, e1⟩ | ⟨-, h1, h2, e1⟩ | ⟨-, -, -, e1⟩
  · rw [e1]; exact mbR_in _ _ _ _ _ _ h1
  · rw [e1]
    refine mbR_rg _ _ _ _ _ _ h1 ?_
    rcases pcd_cases s d t with ⟨-, h⟩ | ⟨-, h, -⟩ | ⟨-, h, h', -⟩ | ⟨-, -, -, h⟩
    · omega
    · left
      cases hk : ok6 s l p e
      · rfl
      · rw [((ok6_iff _ _ _ _).1 hk).1] at h; cases h
    · exact .inr ⟨h, h'⟩
    · omega
  · rw [e1]
    refine mbR_rg _ _ _ _ _ _ h1 (.inl ?_)
    cases hk : ok6 s l p e
    · rfl
    · rw [((ok6_iff _ _ _ _).1 hk).2.1] at h2; cases h2
  · exact absurd e1 h
theorem mb_0 (s d t l p e : Int) (h : qcd s d t l = 0) : fg d t = true ∧ ln l = true ∧ ((decide (0 ≤ p ∧ p ≤ l) = true ∧ decide (0 ≤ e ∧ e ≤ 200) = true ∧ mbR s d t l p e = (may s d t l p e, 0)) ∨
    (decide (0 ≤ p ∧ p ≤ l) = true ∧ decide (0 ≤ e ∧ e ≤ 200) = false ∧ mbR s d t l p e = (false, 2)) ∨ (decide (0 ≤ p ∧ p ≤ l) = false ∧ mbR s d t l p e = (false, 2))) := by
  rcases qcd_cases s d t l with ⟨-, -, e1⟩ | ⟨-, -, e1⟩ | ⟨-, -, -, e1⟩ | ⟨e2, h1, h2, -⟩
  · omega
  · omega
  · omega
  rcases pcd_cases s d t with ⟨-, h'⟩ | ⟨-, -, h'⟩ | ⟨-, -, -, h'⟩ | ⟨-, h3, h4, -⟩
  · omega
  · omega
  · omega
  refine ⟨h1, h2, ?_⟩
  rcases decb_tf (0 ≤ p ∧ p ≤ l) with hp | hp
  · rcases decb_tf (0 ≤ e ∧ e ≤ 200) with he | he
    · exact .inl ⟨hp, he, mbR_ok _ _ _ _ _ _ h1 ((ok6_iff _ _ _ _).2 ⟨h3, h2, of_decide_eq_true hp, of_decide_eq_true he⟩) h4⟩
    · refine .inr (.inl ⟨hp, he, mbR_rg _ _ _ _ _ _ h1 (.inl ?_)⟩)
      unfold ok6; rw [he]; simp
  · refine .inr (.inr ⟨hp, mbR_rg _ _ _ _ _ _ h1 (.inl ?_)⟩)
    unfold ok6; rw [hp]; simp

theorem mbR_impl (s d t l p e : Int) (w : World) (hD : Dcs w) :
    Calls Tryd.prog 24 #[.int .i64 s, .agg #[.int .i64 d, .int .i64 t], .int .i64 l, .int .i64 p, .int .i64 e] w fun e' w' => e' = .returned (.tuple #[.bool (mbR s d t l p e).1, .int .i64 (mbR s d t l p e).2]) ∧ Gr w w' := by
  have HD := Lib.hid hD
  clear hD
  by_cases hq : qcd s d t l = 0
  · have HP := Lib.hid (plR_pl s d t l hq)
    obtain ⟨hf, hl, hc⟩ := mb_0 s d t l p e hq
    obtain ⟨p1, p2, p3, p4, -⟩ := pl_bd s d t l hf hl
    have l12 := (ln_iff l).1 hl
    have HM := Lib.hid (show may s d t l p e = decide ((pl s d t l).1 - e ≤ p ∧ p ≤ (pl s d t l).2 + e) from rfl)
    generalize may s d t l p e = m at *
    generalize pl s d t l = y at *
    obtain ⟨y1, y2⟩ := y
    simp only at p1 p2 p3 p4 HM
    clear hf hl hq
    rcases hc with ⟨h1, h2, H⟩ | ⟨h1, h2, H⟩ | ⟨h1, H⟩
    · have hp := of_decide_eq_true h1
      have he := of_decide_eq_true h2
      have E1 := Lib.hid h1
      have E2 := Lib.hid h2
      have HR := Lib.hid H
      clear h1 h2 H
      by_cases c1 : y1 - e ≤ p <;> by_cases c2 : p ≤ y2 + e
      all_goals
        go_enter Tryd.func24, Tryd.ntmps24
        go_wp2_with (first
          | (go_at_call 23; refine (plR_impl s d t l _ (HD.out.gr (by repeat (first | with_reducible exact Gr.refl _ | with_reducible refine Gr.alloc ?_ _ | with_reducible refine Gr.gr ?_ _ _ | with_reducible refine Gr.drew ?_ | with_reducible refine Gr.drewN ?_ _)))).mono ?_; rw [HP.out]; rintro e' w' ⟨rfl, k, os, rfl⟩)
          | (go_at_call 53; refine (isPoint_any _ _ _).mono ?_; rw [E1.out]; rintro e' w' ⟨rfl, rfl⟩)
          | (go_at_call 54; refine (isEye_any _ _).mono ?_; rw [E2.out]; rintro e' w' ⟨rfl, rfl⟩))
        go_ret2
        exact ⟨ret_bi (by rw [HR.out, HM.out]; simp [c1, c2]) (by rw [HR.out]), (by repeat (first | with_reducible exact Gr.refl _ | with_reducible refine Gr.alloc ?_ _ | with_reducible refine Gr.gr ?_ _ _ | with_reducible refine Gr.drew ?_ | with_reducible refine Gr.drewN ?_ _))⟩
    · have E1 := Lib.hid h1
      have E2 := Lib.hid h2
      have HR := Lib.hid H
      clear h1 h2 H
      go_enter Tryd.func24, Tryd.ntmps24
      go_wp2_with (first
        | (go_at_call 23; refine (plR_impl s d t l _ (HD.out.gr (by repeat (first | with_reducible exact Gr.refl _ | with_reducible refine Gr.alloc ?_ _ | with_reducible refine Gr.gr ?_ _ _ | with_reducible refine Gr.drew ?_ | with_reducible refine Gr.drewN ?_ _)))).mono ?_; rw [HP.out]; rintro e' w' ⟨rfl, k, os, rfl⟩)
        | (go_at_call 53; refine (isPoint_any _ _ _).mono ?_; rw [E1.out]; rintro e' w' ⟨rfl, rfl⟩)
        | (go_at_call 54; refine (isEye_any _ _).mono ?_; rw [E2.out]; rintro e' w' ⟨rfl, rfl⟩))
      go_ret2
      exact ⟨ret_bi (by rw [HR.out]) (by rw [HR.out]), (by repeat (first | with_reducible exact Gr.refl _ | with_reducible refine Gr.alloc ?_ _ | with_reducible refine Gr.gr ?_ _ _ | with_reducible refine Gr.drew ?_ | with_reducible refine Gr.drewN ?_ _))⟩
    · have E1 := Lib.hid h1
      have HR := Lib.hid H
      clear h1 H
      go_enter Tryd.func24, Tryd.ntmps24
      go_wp2_with (first
        | (go_at_call 23; refine (plR_impl s d t l _ (HD.out.gr (by repeat (first | with_reducible exact Gr.refl _ | with_reducible refine Gr.alloc ?_ _ | with_reducible refine Gr.gr ?_ _ _ | with_reducible refine Gr.drew ?_ | with_reducible refine Gr.drewN ?_ _)))).mono ?_; rw [HP.out]; rintro e' w' ⟨rfl, k, os, rfl⟩)
        | (go_at_call 53; refine (isPoint_any _ _ _).mono ?_; rw [E1.out]; rintro e' w' ⟨rfl, rfl⟩))
      go_ret2
      exact ⟨ret_bi (by rw [HR.out]) (by rw [HR.out]), (by repeat (first | with_reducible exact Gr.refl _ | with_reducible refine Gr.alloc ?_ _ | with_reducible refine Gr.gr ?_ _ _ | with_reducible refine Gr.drew ?_ | with_reducible refine Gr.drewN ?_ _))⟩
  · have HP := Lib.hid (plR_no s d t l hq)
    have HR := Lib.hid (mb_q s d t l p e hq)
    generalize qcd s d t l = q at *
    go_enter Tryd.func24, Tryd.ntmps24
    go_wp2_with (first
      | (go_at_call 23; refine (plR_impl s d t l _ (HD.out.gr (by repeat (first | with_reducible exact Gr.refl _ | with_reducible refine Gr.alloc ?_ _ | with_reducible refine Gr.gr ?_ _ _ | with_reducible refine Gr.drew ?_ | with_reducible refine Gr.drewN ?_ _)))).mono ?_; rw [HP.out]; rintro e' w' ⟨rfl, k, os, rfl⟩))
    go_ret2
    exact ⟨ret_bi (by rw [HR.out]) (by rw [HR.out]), (by repeat (first | with_reducible exact Gr.refl _ | with_reducible refine Gr.alloc ?_ _ | with_reducible refine Gr.gr ?_ _ _ | with_reducible refine Gr.drew ?_ | with_reducible refine Gr.drewN ?_ _))⟩

theorem bySize_any (a b c d : Int) (w : World) (h1 : -1000000 ≤ a) (h2 : a ≤ 1000000) (h3 : -1000000 ≤ b) (h4 : b ≤ 1000000) (h5 : -1000000 ≤ c) (h6 : c ≤ 1000000) (h7 : -1000000 ≤ d) (h8 : d ≤ 1000000) :
    Calls Tryd.prog 83 #[.agg #[.int .i64 a, .int .i64 b], .agg #[.int .i64 c, .int .i64 d]] w fun e w' => e = .returned (.int .i64 (cmpI (10000 * b + a) (10000 * d + c))) ∧ Gr w w' := by
  go_enter Tryd.func83, Tryd.ntmps83
  go_wp2
  ((first | refine region_gr_on (by kernel_rfl) (by kernel_rfl) ?_ | refine region_gr (by kernel_rfl) (by kernel_rfl) ?_); (repeat (quiet_step (first | (refine Calls.gr_of (rank_any _ _ _ ?_ ?_ ?_ ?_) <;> omega) | exact Calls.gr_same (cmp_any _ _ _)))); refine wpQuiet_nil ?_; intro _ hw'; obtain ⟨⟨kq, oq⟩, hw''⟩ := hw'; subst hw'')
  go_wp2
  go_ret
  exact ⟨rfl, (by repeat (first | with_reducible exact Gr.refl _ | with_reducible refine Gr.alloc ?_ _ | with_reducible refine Gr.gr ?_ _ _ | with_reducible refine Gr.drew ?_ | with_reducible refine Gr.drewN ?_ _))⟩

/-- Figures that lie behind one another, read. -/
def FigRow (w : World) (g o n : Nat) (D T : Nat → Int) : Prop := ∀ k, k < n → w.cell? ⟨g, o + k * 2, none⟩ = some (.int .i64 (D k)) ∧ w.cell? ⟨g, o + k * 2 + 1, none⟩ = some (.int .i64 (T k))
theorem FigRow.below {w w' : World} {g o n : Nat} {D T : Nat → Int} (h : FigRow w g o n D T) (hb : Below w.heap.size w w') : FigRow w' g o n D T := by
  intro k hk
  obtain ⟨a, b⟩ := h k hk
  have hg := World.block_lt_of_cell? w _ a
  exact ⟨(hb.cell (p := ⟨g, o + k * 2, none⟩) hg).trans a, (hb.cell (p := ⟨g, o + k * 2 + 1, none⟩) hg).trans b⟩
theorem FigRow.gr {w w' : World} {g o n : Nat} {D T : Nat → Int} (h : FigRow w g o n D T) (hg : Gr w w') : FigRow w' g o n D T := h.below hg.below

theorem cmp_lt (x y : Int) : (cmpI x y < 0) ↔ x < y := by
  rcases Int.lt_trichotomy x y with h | h | h
  · rw [cmpI_lt x y h]; omega
  · rw [cmpI_eq x y h]; omega
  · rw [cmpI_gt x y h]; omega
theorem cmp_gt (x y : Int) : (0 < cmpI x y) ↔ y < x := by
  rcases Int.lt_trichotomy x y with h | h | h
  · rw [cmpI_lt x y h]; omega
  · rw [cmpI_eq x y h]; omega
  · rw [cmpI_gt x y h]; omega
end Go.Proofs.YtgadkpkpdpphbaaDoor

namespace Go.Proofs.YtgadkpkpdpphbaaDoor
open Go.RowKit
set_option linter.unusedVariables false
set_option linter.unusedSimpArgs false
theorem Below.grew {B : Nat} {a w : World} (h : Below B a w) (hB : B ≤ w.heap.size) (k : Nat) (os : Array Obj) : Below B a (gr w k os) := h.trans ((Gr.below ⟨k, os, rfl⟩).mono hB)

set_option maxHeartbeats 2000000 in
/-- The least one of a list that is not empty. -/
theorem minF_any (g o n cap : Nat) (D T : Nat → Int) (w : World) (hn : 1 ≤ n) (hn2 : n ≤ 1000000) (hR : FigRow w g o n D T) (hb : ∀ k, k < n → (-1000000 ≤ D k ∧ D k ≤ 1000000) ∧ (-1000000 ≤ T k ∧ T k ≤ 1000000)) :
    Calls Tryd.prog 82 #[.slice (some ⟨g, o, none⟩) n cap, .func (.func 83) #[] #[]] w fun e w' => (∃ m, m < n ∧ e = .returned (.agg #[.int .i64 (D m), .int .i64 (T m)]) ∧ ∀ j, j < n → 10000 * T m + D m ≤ 10000 * T j + D j) ∧ Gr w w' := by
  have B := Lib.hid hb
  have RR := Lib.hid hR
  obtain ⟨z0, z1⟩ := hR 0 (by omega)
  rw [Nat.zero_mul, Nat.add_zero] at z0 z1
  have gl := World.block_lt_of_cell? w _ z0
  clear hb hR
  go_enter Tryd.func82, Tryd.ntmps82
  go_wp2
  clear z0 z1
  go_loopw [6] (fun i wr => ∃ k m : Nat, i = .int .i64 k ∧ 1 ≤ k ∧ k ≤ n ∧ m < k ∧ Hid (∀ j, j < k → 10000 * T m + D m ≤ 10000 * T j + D j) ∧ Blk wr w.heap.size 27 #[.int .i64 0, .int .i64 0] ∧ Blk wr (w.heap.size + 1) 27 #[.int .i64 (D m), .int .i64 (T m)] ∧ Below w.heap.size w wr) (fun i _ => n - (intOf i).toNat)
  case atStart => exact ⟨1, 0, rfl, by omega, hn, by omega, Lib.hid (fun j hj => by rw [show j = 0 by omega]; exact Int.le_refl _), by exact (Blk.new w _ _).alloc _, by have := Blk.new (w.alloc (.cells #[.int .i64 0, .int .i64 0] 27)) 27 #[.int .i64 (D 0), .int .i64 (T 0)]; simpa using this, ((Below.refl _ _).alloc (Nat.le_refl _) _).alloc (by simp) _⟩
  case round =>
    obtain ⟨k, m, rfl, hk1, hkn, hmk, I, hB0, hB1, hbel⟩ := hrel
    obtain ⟨⟨b1, b2⟩, b3, b4⟩ := B.out m (by omega)
    have l1 := hB1.lt
    obtain ⟨m0, m1, mf⟩ := hB1.two
    obtain ⟨r0, r1, rf⟩ := hB0.two
    have hle := hbel.size
    by_cases hlt : k < n
    · obtain ⟨⟨a1, a2⟩, a3, a4⟩ := B.out k hlt
      obtain ⟨x0, x1⟩ := (RR.out.below hbel) k hlt
      have gl2 : g < wr.heap.size := by omega
      have HI := Lib.hid (fun j (hj : j < k + 1) => (Nat.lt_succ_iff_lt_or_eq.1 hj).imp (I.out j) id)
      have HT := Lib.hid (cmp_lt (10000 * T k + D k) (10000 * T m + D m))
      by_cases hc : cmpI (10000 * T k + D k) (10000 * T m + D m) < 0
      · have hc' := HT.out.1 hc
        generalize ek : D k = a at *
        generalize et : T k = b at *
        generalize D m = c at *
        generalize T m = d at *
        clear HT I
        go_wp2
        ((first | refine region_gr_on (by kernel_rfl) (by kernel_rfl) ?_ | refine region_gr (by kernel_rfl) (by kernel_rfl) ?_); (repeat (quiet_step ((refine Calls.gr_of (bySize_any _ _ _ _ _ ?_ ?_ ?_ ?_ ?_ ?_ ?_ ?_) <;> omega)))); refine wpQuiet_nil ?_; intro _ hw'; obtain ⟨⟨kq, oq⟩, hw''⟩ := hw'; subst hw'')
        go_wp2
        go_roundw
        case rel => exact ⟨k + 1, k, by go_num, by omega, by omega, by omega, Lib.hid (fun j hj => by
            rw [ek, et]
            rcases HI.out j hj with h | rfl
            · omega
            · rw [ek, et]; exact Int.le_refl _), ((hB0.far (by simp) _).far (by simp) _).grew _ _, by rw [ek, et]; have := ((hB1.set 0 (.int .i64 a)).set 1 (.int .i64 b)).grew kq oq; simpa using this, Below.grew ((hbel.setCell (by simp) _).setCell (by simp) _) (by simp [World.setCell]; omega) _ _⟩
        case measure => simp [intOf]; omega
      · have hc' := Int.not_lt.1 (fun h => hc (HT.out.2 h))
        generalize ek : D k = a at *
        generalize et : T k = b at *
        generalize ec : D m = c at *
        generalize ed : T m = d at *
        clear HT I
        go_wp2
        ((first | refine region_gr_on (by kernel_rfl) (by kernel_rfl) ?_ | refine region_gr (by kernel_rfl) (by kernel_rfl) ?_); (repeat (quiet_step ((refine Calls.gr_of (bySize_any _ _ _ _ _ ?_ ?_ ?_ ?_ ?_ ?_ ?_ ?_) <;> omega)))); refine wpQuiet_nil ?_; intro _ hw'; obtain ⟨⟨kq, oq⟩, hw''⟩ := hw'; subst hw'')
        go_wp2
        go_roundw
        case rel => exact ⟨k + 1, m, by go_num, by omega, by omega, by omega, Lib.hid (fun j hj => by
            rw [ec, ed]
            rcases HI.out j hj with h | rfl
            · exact h
            · rw [ek, et]; omega), hB0.grew _ _, by rw [ec, ed]; exact hB1.grew _ _, Below.grew hbel (by omega) _ _⟩
        case measure => simp [intOf]; omega
    · obtain rfl : k = n := by omega
      go_wp2
      ((try simp only [Exit.inBlock, Exit.then]); refine bodyPost_ret (v := .agg #[.int .i64 (D m), .int .i64 (T m)]) (by simp [results, Tryd.results82, go_sem, r0, r1, World.cell?_setCell_same']) rfl ?_)
      exact ⟨⟨m, hmk, rfl, I.out⟩, Gr.of_below ((hbel.setCell (by simp) _).setCell (by simp) _)⟩

set_option maxHeartbeats 2000000 in
/-- The greatest one of a list that is not empty. -/
theorem maxF_any (g o n cap : Nat) (D T : Nat → Int) (w : World) (hn : 1 ≤ n) (hn2 : n ≤ 1000000) (hR : FigRow w g o n D T) (hb : ∀ k, k < n → (-1000000 ≤ D k ∧ D k ≤ 1000000) ∧ (-1000000 ≤ T k ∧ T k ≤ 1000000)) :
    Calls Tryd.prog 89 #[.slice (some ⟨g, o, none⟩) n cap, .func (.func 83) #[] #[]] w fun e w' => (∃ m, m < n ∧ e = .returned (.agg #[.int .i64 (D m), .int .i64 (T m)]) ∧ ∀ j, j < n → 10000 * T j + D j ≤ 10000 * T m + D m) ∧ Gr w w' := by
  have B := Lib.hid hb
  have RR := Lib.hid hR
  obtain ⟨z0, z1⟩ := hR 0 (by omega)
  rw [Nat.zero_mul, Nat.add_zero] at z0 z1
  have gl := World.block_lt_of_cell? w _ z0
  clear hb hR
  go_enter Tryd.func89, Tryd.ntmps89
  go_wp2
  clear z0 z1
  go_loopw [6] (fun i wr => ∃ k m : Nat, i = .int .i64 k ∧ 1 ≤ k ∧ k ≤ n ∧ m < k ∧ Hid (∀ j, j < k → 10000 * T j + D j ≤ 10000 * T m + D m) ∧ Blk wr w.heap.size 27 #[.int .i64 0, .int .i64 0] ∧ Blk wr (w.heap.size + 1) 27 #[.int .i64 (D m), .int .i64 (T m)] ∧ Below w.heap.size w wr) (fun i _ => n - (intOf i).toNat)
  case atStart => exact ⟨1, 0, rfl, by omega, hn, by omega, Lib.hid (fun j hj => by rw [show j = 0 by omega]; exact Int.le_refl _), by exact (Blk.new w _ _).alloc _, by have := Blk.new (w.alloc (.cells #[.int .i64 0, .int .i64 0] 27)) 27 #[.int .i64 (D 0), .int .i64 (T 0)]; simpa using this, ((Below.refl _ _).alloc (Nat.le_refl _) _).alloc (by simp) _⟩
  case round =>
    obtain ⟨k, m, rfl, hk1, hkn, hmk, I, hB0, hB1, hbel⟩ := hrel
    obtain ⟨⟨b1, b2⟩, b3, b4⟩ := B.out m (by omega)
    have l1 := hB1.lt
    obtain ⟨m0, m1, mf⟩ := hB1.two
    obtain ⟨r0, r1, rf⟩ := hB0.two
    have hle := hbel.size
    by_cases hlt : k < n
    · obtain ⟨⟨a1, a2⟩, a3, a4⟩ := B.out k hlt
      obtain ⟨x0, x1⟩ := (RR.out.below hbel) k hlt
      have gl2 : g < wr.heap.size := by omega
      have HI := Lib.hid (fun j (hj : j < k + 1) => (Nat.lt_succ_iff_lt_or_eq.1 hj).imp (I.out j) id)
      have HT := Lib.hid (cmp_gt (10000 * T k + D k) (10000 * T m + D m))
      by_cases hc : 0 < cmpI (10000 * T k + D k) (10000 * T m + D m)
      · have hc' := HT.out.1 hc
        generalize ek : D k = a at *
        generalize et : T k = b at *
        generalize D m = c at *
        generalize T m = d at *
        clear HT I
        go_wp2
        ((first | refine region_gr_on (by kernel_rfl) (by kernel_rfl) ?_ | refine region_gr (by kernel_rfl) (by kernel_rfl) ?_); (repeat (quiet_step ((refine Calls.gr_of (bySize_any _ _ _ _ _ ?_ ?_ ?_ ?_ ?_ ?_ ?_ ?_) <;> omega)))); refine wpQuiet_nil ?_; intro _ hw'; obtain ⟨⟨kq, oq⟩, hw''⟩ := hw'; subst hw'')
        go_wp2
        go_roundw
        case rel => exact ⟨k + 1, k, by go_num, by omega, by omega, by omega, Lib.hid (fun j hj => by
            rw [ek, et]
            rcases HI.out j hj with h | rfl
            · omega
            · rw [ek, et]; exact Int.le_refl _), ((hB0.far (by simp) _).far (by simp) _).grew _ _, by rw [ek, et]; have := ((hB1.set 0 (.int .i64 a)).set 1 (.int .i64 b)).grew kq oq; simpa using this, Below.grew ((hbel.setCell (by simp) _).setCell (by simp) _) (by simp [World.setCell]; omega) _ _⟩
        case measure => simp [intOf]; omega
      · have hc' := Int.not_lt.1 (fun h => hc (HT.out.2 h))
        generalize ek : D k = a at *
        generalize et : T k = b at *
        generalize ec : D m = c at *
        generalize ed : T m = d at *
        clear HT I
        go_wp2
        ((first | refine region_gr_on (by kernel_rfl) (by kernel_rfl) ?_ | refine region_gr (by kernel_rfl) (by kernel_rfl) ?_); (repeat (quiet_step ((refine Calls.gr_of (bySize_any _ _ _ _ _ ?_ ?_ ?_ ?_ ?_ ?_ ?_ ?_) <;> omega)))); refine wpQuiet_nil ?_; intro _ hw'; obtain ⟨⟨kq, oq⟩, hw''⟩ := hw'; subst hw'')
        go_wp2
        go_roundw
        case rel => exact ⟨k + 1, m, by go_num, by omega, by omega, by omega, Lib.hid (fun j hj => by
            rw [ec, ed]
            rcases HI.out j hj with h | rfl
            · exact h
            · rw [ek, et]; omega), hB0.grew _ _, by rw [ec, ed]; exact hB1.grew _ _, Below.grew hbel (by omega) _ _⟩
        case measure => simp [intOf]; omega
    · obtain rfl : k = n := by omega
      go_wp2
      ((try simp only [Exit.inBlock, Exit.then]); refine bodyPost_ret (v := .agg #[.int .i64 (D m), .int .i64 (T m)]) (by simp [results, Tryd.results89, go_sem, r0, r1, World.cell?_setCell_same']) rfl ?_)
      exact ⟨⟨m, hmk, rfl, I.out⟩, Gr.of_below ((hbel.setCell (by simp) _).setCell (by simp) _)⟩

end Go.Proofs.YtgadkpkpdpphbaaDoor
