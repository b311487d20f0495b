/- Contracts of chapter 8: heights of marks. -/
import Derived.Test.YtggflladheemoaaDoor1A
import Derived.Test.YtggflladheemoaaDoorSA
import Derived.Test.YtggflladheemoaaDoorMC
import Derived.Lib.LaidTab
namespace Go.Proofs.YtggflladheemoaaDoor
open Go.RowKit
set_option linter.unusedVariables false
set_option linter.unusedSimpArgs false

def hstep : List Int := [1, 50, 100, 500, 1000]
def mstep : List Int := [1000, 500, 100, 50]
/-- The table of the heights' steps lies as the program's text lays it. -/
def Hts (w : World) : Prop := ∀ (i : Nat) (x : Int), hstep[i]? = some x → w.cell? ⟨2, i, none⟩ = some (.int .i64 x)
theorem Hts.gr {w w' : World} (h : Hts w) (hg : Gr w w') : Hts w' := fun i x hx =>
  (World.cell?_of_block (hg.below.block _ (World.block_lt_of_cell? w _ (h i x hx)))).trans (h i x hx)
theorem hts_of {w : World} (h : Lib.TabIs Tryd.prog w "loop.example/g00951/impl.heightSteps" .i64 [1, 50, 100, 500, 1000]) : Hts w := by
  intro i x hx
  have hi : i < 5 := by
    obtain ⟨hk, -⟩ := List.getElem?_eq_some_iff.1 hx
    exact hk
  have := h.cell (g := 2) (by kernel_rfl) i hi
  rw [this]
  rcases (show i = 0 ∨ i = 1 ∨ i = 2 ∨ i = 3 ∨ i = 4 by omega) with rfl | rfl | rfl | rfl | rfl <;> (simp [hstep] at hx; subst hx; rfl)
theorem hgt_emod (n : Int) (h : 0 ≤ n) : hgt n = if n % 1000 = 0 then 4 else if n % 500 = 0 then 3 else if n % 100 = 0 then 2 else if n % 50 = 0 then 1 else 0 := by
  unfold hgt
  rw [Int.tmod_eq_emod_of_nonneg h, Int.tmod_eq_emod_of_nonneg h, Int.tmod_eq_emod_of_nonneg h, Int.tmod_eq_emod_of_nonneg h]
/-- From the greatest step on. -/
theorem hgt_m (n : Int) (h : 0 ≤ n) {k : Nat} {x : Int} (hx : mstep[k]? = some x) (hno : ∀ j y, j < k → mstep[j]? = some y → n % y ≠ 0) (h0 : n % x = 0) : hgt n = 4 - (k : Int) := by
  have hk : k < 4 := by
    obtain ⟨hk, -⟩ := List.getElem?_eq_some_iff.1 hx
    exact hk
  rw [hgt_emod n h]
  have m0 := fun g : 0 < k => hno 0 1000 g rfl
  have m1 := fun g : 1 < k => hno 1 500 g rfl
  have m2 := fun g : 2 < k => hno 2 100 g rfl
  rcases (show k = 0 ∨ k = 1 ∨ k = 2 ∨ k = 3 by omega) with rfl | rfl | rfl | rfl
  · simp [mstep] at hx; subst hx; rw [if_pos h0]; rfl
  · simp [mstep] at hx; subst hx; rw [if_neg (m0 (by omega)), if_pos h0]; rfl
  · simp [mstep] at hx; subst hx; rw [if_neg (m0 (by omega)), if_neg (m1 (by omega)), if_pos h0]; rfl
  · simp [mstep] at hx; subst hx; rw [if_neg (m0 (by omega)), if_neg (m1 (by omega)), if_neg (m2 (by omega)), if_pos h0]; rfl
theorem hgt_m0 (n : Int) (h : 0 ≤ n) (hno : ∀ j y, j < 4 → mstep[j]? = some y → n % y ≠ 0) : hgt n = 0 := by
  rw [hgt_emod n h, if_neg (hno 0 1000 (by omega) rfl), if_neg (hno 1 500 (by omega) rfl), if_neg (hno 2 100 (by omega) rfl), if_neg (hno 3 50 (by omega) rfl)]
theorem hgt_h (n : Int) (h : 0 ≤ n) {k : Nat} {x : Int} (hx : hstep[k]? = some x) (hno : ∀ j y, k < j → hstep[j]? = some y → n % y ≠ 0) (h0 : n % x = 0) : hgt n = (k : Int) := by
  have hk : k < 5 := by
    obtain ⟨hk, -⟩ := List.getElem?_eq_some_iff.1 hx
    exact hk
  rw [hgt_emod n h]
  have m0 := fun g : k < 4 => hno 4 1000 g rfl
  have m1 := fun g : k < 3 => hno 3 500 g rfl
  have m2 := fun g : k < 2 => hno 2 100 g rfl
  have m3 := fun g : k < 1 => hno 1 50 g rfl
  rcases (show k = 0 ∨ k = 1 ∨ k = 2 ∨ k = 3 ∨ k = 4 by omega) with rfl | rfl | rfl | rfl | rfl
  · rw [if_neg (m0 (by omega)), if_neg (m1 (by omega)), if_neg (m2 (by omega)), if_neg (m3 (by omega))]; rfl
  · simp [hstep] at hx; subst hx; rw [if_neg (m0 (by omega)), if_neg (m1 (by omega)), if_neg (m2 (by omega)), if_pos h0]; rfl
  · simp [hstep] at hx; subst hx; rw [if_neg (m0 (by omega)), if_neg (m1 (by omega)), if_pos h0]; rfl
  · simp [hstep] at hx; subst hx; rw [if_neg (m0 (by omega)), if_pos h0]; rfl
  · simp [hstep] at hx; subst hx; rw [if_pos h0]; rfl

set_option maxRecDepth 100000 in
set_option maxHeartbeats 2000000 in
theorem hgt_spec (n : Int) (w : World) (h0 : 0 ≤ n) (h1 : n ≤ 100000) :
    Calls Tryd.prog 109 #[.int .i64 n] w fun e w' => e = .returned (.int .i64 (hgt n)) ∧ Gr w w' := by
  have HM := Lib.hid (fun (k : Nat) (x : Int) hx hno h => hgt_m n h0 (k := k) (x := x) hx hno h)
  have HZ := Lib.hid (hgt_m0 n h0)
  have HR : Hid (Row (w.alloc (.cells #[.int .i64 1000, .int .i64 500, .int .i64 100, .int .i64 50] 2)) w.heap.size 2 (mstep.map vi)) := Lib.hid (Row.new w _ _)
  have HG : Hid (Gr w (w.alloc (.cells #[.int .i64 1000, .int .i64 500, .int .i64 100, .int .i64 50] 2))) := Lib.hid (by repeat (first | with_reducible exact Gr.refl _ | with_reducible refine Gr.alloc ?_ _ | with_reducible refine Gr.gr ?_ _ _ | with_reducible refine Gr.drew ?_ | with_reducible refine Gr.drewN ?_ _))
  go_enter Tryd.func109, Tryd.ntmps109
  go_wp2
  generalize w.alloc (.cells #[.int .i64 1000, .int .i64 500, .int .i64 100, .int .i64 50] 2) = w1 at *
  go_loop [4] (fun i => ∃ k : Nat, k ≤ 4 ∧ i = .int .i64 k ∧ Hid (∀ j y, j < k → mstep[j]? = some y → n % y ≠ 0)) (fun i => 4 - (intOf i).toNat)
  case atStart => exact ⟨0, by omega, rfl, Lib.hid (fun j y hj => absurd hj (by omega))⟩
  case round =>
    obtain ⟨k, hk, rfl, hN⟩ := hrel
    by_cases hlt : k < 4
    · have hk4 : (k : Int) < 4 := by omega
      obtain ⟨x, hx⟩ := some_at (l := mstep) (k := k) hlt
      have c0 := HR.out.cell k
      rw [List.getElem?_map, hx] at c0
      simp only [Option.map_some] at c0
      have hx0 : 50 ≤ x ∧ x ≤ 1000 := by
        rcases (show k = 0 ∨ k = 1 ∨ k = 2 ∨ k = 3 by omega) with rfl | rfl | rfl | rfl <;> (simp [mstep] at hx; omega)
      have HX := Lib.hid hx
      clear hx
      have hz0 : (x == 0) = false := by simp; omega
      have hb := Int.emod_lt_of_pos n (show 0 < x by omega)
      have hb0 := Int.emod_nonneg n (show x ≠ 0 by omega)
      have hsz := HR.out.lt
      by_cases hq : n % x = 0
      · have HQ := Lib.hid (HM.out k x HX.out hN.out hq)
        have hq1 : (n % x == 0) = true := by simpa using hq
        go_wp2
        go_ret
        exact ⟨ret_int HQ.out.symm, HG.out⟩
      · have hq1 : (n % x == 0) = false := by simpa using hq
        have HQ : Hid (∀ j y, j < k + 1 → mstep[j]? = some y → n % y ≠ 0) := Lib.hid (by
          intro j y hj hy
          rcases Nat.lt_or_ge j k with h | h
          · exact hN.out j y h hy
          · obtain rfl : j = k := by omega
            rw [HX.out] at hy
            injection hy with hy
            subst hy
            exact hq)
        go_wp2
        go_round
        case rel => exact ⟨k + 1, by omega, by go_num, HQ⟩
        case measure => simp [intOf]; omega
    · obtain rfl : k = 4 := by omega
      have HQ := Lib.hid (HZ.out hN.out)
      go_wp2
      go_ret
      exact ⟨ret_int HQ.out.symm, HG.out⟩

set_option maxRecDepth 100000 in
set_option maxHeartbeats 2000000 in
theorem hgt_impl (n : Int) (w : World) (h0 : 0 ≤ n) (h1 : n ≤ 100000) (hH : Hts w) :
    Calls Tryd.prog 111 #[.int .i64 n] w fun e w' => e = .returned (.int .i64 (hgt n)) ∧ w = w' := by
  have HM := Lib.hid (fun (k : Nat) (x : Int) hx hno h => hgt_h n h0 (k := k) (x := x) hx hno h)
  have HT := Lib.hid hH
  clear hH
  go_enter Tryd.func111, Tryd.ntmps111
  go_wp2
  go_loop [3] (fun i => ∃ k : Nat, k ≤ 4 ∧ i = .int .i64 k ∧ Hid (∀ j y, k < j → hstep[j]? = some y → n % y ≠ 0)) (fun i => (intOf i).toNat)
  case atStart => exact ⟨4, by omega, rfl, Lib.hid (fun j y hj hy => by
      obtain ⟨hk, -⟩ := List.getElem?_eq_some_iff.1 hy
      have : j < 5 := hk
      omega)⟩
  case round =>
    obtain ⟨k, hk, rfl, hN⟩ := hrel
    have hk4 : (k : Int) < 5 := by omega
    obtain ⟨x, hx⟩ := some_at (l := hstep) (k := k) (show k < 5 by omega)
    have c0 := HT.out k x hx
    have hx0 : 1 ≤ x ∧ x ≤ 1000 ∧ (k = 0 → x = 1) := by
      rcases (show k = 0 ∨ k = 1 ∨ k = 2 ∨ k = 3 ∨ k = 4 by omega) with rfl | rfl | rfl | rfl | rfl <;> (simp [hstep] at hx; omega)
    have HX := Lib.hid hx
    clear hx
    have hz0 : (x == 0) = false := by simp; omega
    have hb := Int.emod_lt_of_pos n (show 0 < x by omega)
    have hb0 := Int.emod_nonneg n (show x ≠ 0 by omega)
    by_cases hq : n % x = 0
    · have HQ := Lib.hid (HM.out k x HX.out hN.out hq)
      have hq1 : (n % x != 0) = false := by simpa using hq
      go_wp2
      go_ret
      exact ⟨ret_int HQ.out.symm, rfl⟩
    · have hq1 : (n % x != 0) = true := by simpa using hq
      have hk0 : 1 ≤ k := by
        rcases Nat.eq_zero_or_pos k with h | h
        · exact absurd (by rw [hx0.2.2 h, Int.emod_one]) hq
        · exact h
      obtain ⟨m, rfl⟩ : ∃ m, k = m + 1 := ⟨k - 1, by omega⟩
      have HQ : Hid (∀ j y, m < j → hstep[j]? = some y → n % y ≠ 0) := Lib.hid (by
        intro j y hj hy
        rcases Nat.lt_or_ge (m + 1) j with h | h
        · exact hN.out j y h hy
        · obtain rfl : j = m + 1 := by omega
          rw [HX.out] at hy
          injection hy with hy
          subst hy
          exact hq)
      go_wp2
      go_round
      case rel => exact ⟨m, by omega, by go_num, HQ⟩
      case measure => simp [intOf]

def thV (n : Int) : Int := if 1000 ≤ n ∧ n ≤ 9999 then hgt n else 0
def thE (n : Int) : Int := if 1000 ≤ n ∧ n ≤ 9999 then 0 else 2
theorem th_spec (n : Int) (w : World) :
    Calls Tryd.prog 34 #[.int .i64 n] w fun e w' => e = .returned (.tuple #[.int .i64 (thV n), .int .i64 (thE n)]) ∧ Gr w w' := by
  have HI := Lib.hid (fun W => in_any n 1000 9999 W)
  by_cases h : 1000 ≤ n ∧ n ≤ 9999
  · have HC := Lib.hid (show thV n = hgt n ∧ thE n = 0 by unfold thV thE; rw [if_pos h, if_pos h]; exact ⟨rfl, rfl⟩)
    have HH := Lib.hid (fun W => hgt_spec n W (by omega) (by omega))
    rw [decide_eq_true h] at HI
    go_enter Tryd.func34, Tryd.ntmps34
    go_wp2_with (first | (go_at_call 79; refine (HI.out _).mono ?_; rintro e w' ⟨rfl, rfl⟩) | (go_at_call 109; refine (HH.out _).mono ?_; rintro e w' ⟨rfl, kk, os, rfl⟩))
    ((try simp only [Exit.inBlock, Exit.then]); refine bodyPost_ret (v := .tuple #[.int .i64 (hgt n), .int .i64 0]) (by simp [results, Tryd.results34, go_sem]) rfl ?_)
    exact ⟨ret_two HC.out.1.symm HC.out.2.symm, (by repeat (first | with_reducible exact Gr.refl _ | with_reducible refine Gr.alloc ?_ _ | with_reducible refine Gr.gr ?_ _ _ | with_reducible refine Gr.drew ?_ | with_reducible refine Gr.drewN ?_ _))⟩
  · have HC := Lib.hid (show thV n = 0 ∧ thE n = 2 by unfold thV thE; rw [if_neg h, if_neg h]; exact ⟨rfl, rfl⟩)
    rw [decide_eq_false h] at HI
    go_enter Tryd.func34, Tryd.ntmps34
    go_wp2_with (go_at_call 79; refine (HI.out _).mono ?_; rintro e w' ⟨rfl, rfl⟩)
    ((try simp only [Exit.inBlock, Exit.then]); refine bodyPost_ret (v := .tuple #[.int .i64 0, .int .i64 2]) (by simp [results, Tryd.results34, go_sem]) rfl ?_)
    exact ⟨ret_two HC.out.1.symm HC.out.2.symm, Gr.refl _⟩
theorem th_impl (n : Int) (w : World) (hH : Hts w) :
    Calls Tryd.prog 33 #[.int .i64 n] w fun e w' => e = .returned (.tuple #[.int .i64 (thV n), .int .i64 (thE n)]) ∧ w = w' := by
  have HI := Lib.hid (fun W => areDigits_any n W)
  by_cases h : 1000 ≤ n ∧ n ≤ 9999
  · have HC := Lib.hid (show thV n = hgt n ∧ thE n = 0 by unfold thV thE; rw [if_pos h, if_pos h]; exact ⟨rfl, rfl⟩)
    have HH := Lib.hid (hgt_impl n w (by omega) (by omega) hH)
    rw [decide_eq_true h] at HI
    clear hH
    go_enter Tryd.func33, Tryd.ntmps33
    go_wp2_with (first | (go_at_call 110; refine (HI.out _).mono ?_; rintro e w' ⟨rfl, rfl⟩) | (go_at_call 111; refine (HH.out).mono ?_; rintro e w' ⟨rfl, rfl⟩))
    ((try simp only [Exit.inBlock, Exit.then]); refine bodyPost_ret (v := .tuple #[.int .i64 (hgt n), .int .i64 0]) (by simp [results, Tryd.results33, go_sem]) rfl ?_)
    exact ⟨ret_two HC.out.1.symm HC.out.2.symm, rfl⟩
  · have HC := Lib.hid (show thV n = 0 ∧ thE n = 2 by unfold thV thE; rw [if_neg h, if_neg h]; exact ⟨rfl, rfl⟩)
    rw [decide_eq_false h] at HI
    clear hH
    go_enter Tryd.func33, Tryd.ntmps33
    go_wp2_with (go_at_call 110; refine (HI.out _).mono ?_; rintro e w' ⟨rfl, rfl⟩)
    ((try simp only [Exit.inBlock, Exit.then]); refine bodyPost_ret (v := .tuple #[.int .i64 0, .int .i64 2]) (by simp [results, Tryd.results33, go_sem]) rfl ?_)
    exact ⟨ret_two HC.out.1.symm HC.out.2.symm, rfl⟩
end Go.Proofs.YtggflladheemoaaDoor
