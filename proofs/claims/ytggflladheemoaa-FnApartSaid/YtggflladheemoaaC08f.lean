/- Contracts of chapter 8: heights of marks. -/
import Derived.Test.Ytggflladheemoaa1A
import Derived.Test.YtggflladheemoaaSA
import Derived.Test.YtggflladheemoaaMC
import Derived.Lib.LaidTab
namespace Go.Proofs.Ytggflladheemoaa
open Go.RowKit
set_option linter.unusedVariables false
set_option linter.unusedSimpArgs false

def hstep : List Int := [1, 50, 100, 500, 1000]
def mstep : List Int := [1000, 500, 100, 50]
theorem hgt_emod (n : Int) (h : 0 ≤ n) : hgt n = if n % 1000 = 0 then 4 else if n % 500 = 0 then 3 else if n % 100 = 0 then 2 else if n % 50 = 0 then 1 else 0 := by
  unfold hgt
  rw [Int.tmod_eq_emod_of_nonneg h, Int.tmod_eq_emod_of_nonneg h, Int.tmod_eq_emod_of_nonneg h, Int.tmod_eq_emod_of_nonneg h]
/-- From the greatest step on. -/
theorem hgt_m (n : Int) (h : 0 ≤ n) {k : Nat} {x : Int} (hx : mstep[k]? = some x) (hno : ∀ j y, j < k → mstep[j]? = some y → n % y ≠ 0) (h0 : n % x = 0) : hgt n = 4 - (k : Int) := by
  have hk : k < 4 := by
    obtain ⟨hk, -⟩ := List.getElem?_eq_some_iff.1 hx
    exact hk
  rw [hgt_emod n h]
  have m0 := fun g : 0 < k => hno 0 1000 g rfl
  have m1 := fun g : 1 < k => hno 1 500 g rfl
  have m2 := fun g : 2 < k => hno 2 100 g rfl
  rcases (show k = 0 ∨ k = 1 ∨ k = 2 ∨ k = 3 by omega) with rfl | rfl | rfl | rfl
  · simp [mstep] at hx; subst hx; rw [if_pos h0]; rfl
  · simp [mstep] at hx; subst hx; rw [if_neg (m0 (by omega)), if_pos h0]; rfl
  · simp [mstep] at hx; subst hx; rw [if_neg (m0 (by omega)), if_neg (m1 (by omega)), if_pos h0]; rfl
  · simp [mstep] at hx; subst hx; rw [if_neg (m0 (by omega)), if_neg (m1 (by omega)), if_neg (m2 (by omega)), if_pos h0]; rfl
theorem hgt_m0 (n : Int) (h : 0 ≤ n) (hno : ∀ j y, j < 4 → mstep[j]? = some y → n % y ≠ 0) : hgt n = 0 := by
  rw [hgt_emod n h, if_neg (hno 0 1000 (by omega) rfl), if_neg (hno 1 500 (by omega) rfl), if_neg (hno 2 100 (by omega) rfl), if_neg (hno 3 50 (by omega) rfl)]
theorem hgt_h (n : Int) (h : 0 ≤ n) {k : Nat} {x : Int} (hx : hstep[k]? = some x) (hno : ∀ j y, k < j → hstep[j]? = some y → n % y ≠ 0) (h0 : n % x = 0) : hgt n = (k : Int) := by
  have hk : k < 5 := by
    obtain ⟨hk, -⟩ := List.getElem?_eq_some_iff.1 hx
    exact hk
  rw [hgt_emod n h]
  have m0 := fun g : k < 4 => hno 4 1000 g rfl
  have m1 := fun g : k < 3 => hno 3 500 g rfl
  have m2 := fun g : k < 2 => hno 2 100 g rfl
  have m3 := fun g : k < 1 => hno 1 50 g rfl
  rcases (show k = 0 ∨ k = 1 ∨ k = 2 ∨ k = 3 ∨ k = 4 by omega) with rfl | rfl | rfl | rfl | rfl
  · rw [if_neg (m0 (by omega)), if_neg (m1 (by omega)), if_neg (m2 (by omega)), if_neg (m3 (by omega))]; rfl
  · simp [hstep] at hx; subst hx; rw [if_neg (m0 (by omega)), if_neg (m1 (by omega)), if_neg (m2 (by omega)), if_pos h0]; rfl
  · simp [hstep] at hx; subst hx; rw [if_neg (m0 (by omega)), if_neg (m1 (by omega)), if_pos h0]; rfl
  · simp [hstep] at hx; subst hx; rw [if_neg (m0 (by omega)), if_pos h0]; rfl
  · simp [hstep] at hx; subst hx; rw [if_pos h0]; rfl

set_option maxRecDepth 100000 in
set_option maxHeartbeats 2000000 in
theorem hgt_spec (n : Int) (w : World) (h0 : 0 ≤ n) (h1 : n ≤ 100000) :
    Calls Try.prog 78 #[.int .i64 n] w fun e w' => e = .returned (.int .i64 (hgt n)) ∧ Gr w w' := by
  have HM := Lib.hid (fun (k : Nat) (x : Int) hx hno h => hgt_m n h0 (k := k) (x := x) hx hno h)
  have HZ := Lib.hid (hgt_m0 n h0)
  have HR : Hid (Row (w.alloc (.cells #[.int .i64 1000, .int .i64 500, .int .i64 100, .int .i64 50] 2)) w.heap.size 2 (mstep.map vi)) := Lib.hid (Row.new w _ _)
  have HG : Hid (Gr w (w.alloc (.cells #[.int .i64 1000, .int .i64 500, .int .i64 100, .int .i64 50] 2))) := Lib.hid (by repeat (first | with_reducible exact Gr.refl _ | with_reducible refine Gr.alloc ?_ _ | with_reducible refine Gr.gr ?_ _ _ | with_reducible refine Gr.drew ?_ | with_reducible refine Gr.drewN ?_ _))
  go_enter Try.func78, Try.ntmps78
  go_wp2
  generalize w.alloc (.cells #[.int .i64 1000, .int .i64 500, .int .i64 100, .int .i64 50] 2) = w1 at *
  go_loop [4] (fun i => ∃ k : Nat, k ≤ 4 ∧ i = .int .i64 k ∧ Hid (∀ j y, j < k → mstep[j]? = some y → n % y ≠ 0)) (fun i => 4 - (intOf i).toNat)
  case atStart => exact ⟨0, by omega, rfl, Lib.hid (fun j y hj => absurd hj (by omega))⟩
  case round =>
    obtain ⟨k, hk, rfl, hN⟩ := hrel
    by_cases hlt : k < 4
    · have hk4 : (k : Int) < 4 := by omega
      obtain ⟨x, hx⟩ := some_at (l := mstep) (k := k) hlt
      have c0 := HR.out.cell k
      rw [List.getElem?_map, hx] at c0
      simp only [Option.map_some] at c0
      have hx0 : 50 ≤ x ∧ x ≤ 1000 := by
        rcases (show k = 0 ∨ k = 1 ∨ k = 2 ∨ k = 3 by omega) with rfl | rfl | rfl | rfl <;> (simp [mstep] at hx; omega)
      have HX := Lib.hid hx
      clear hx
      have hz0 : (x == 0) = false := by simp; omega
      have hb := Int.emod_lt_of_pos n (show 0 < x by omega)
      have hb0 := Int.emod_nonneg n (show x ≠ 0 by omega)
      have hsz := HR.out.lt
      by_cases hq : n % x = 0
      · have HQ := Lib.hid (HM.out k x HX.out hN.out hq)
        have hq1 : (n % x == 0) = true := by simpa using hq
        go_wp2
        go_ret
        exact ⟨ret_int HQ.out.symm, HG.out⟩
      · have hq1 : (n % x == 0) = false := by simpa using hq
        have HQ : Hid (∀ j y, j < k + 1 → mstep[j]? = some y → n % y ≠ 0) := Lib.hid (by
          intro j y hj hy
          rcases Nat.lt_or_ge j k with h | h
          · exact hN.out j y h hy
          · obtain rfl : j = k := by omega
            rw [HX.out] at hy
            injection hy with hy
            subst hy
            exact hq)
        go_wp2
        go_round
        case rel => exact ⟨k + 1, by omega, by go_num, HQ⟩
        case measure => simp [intOf]; omega
    · obtain rfl : k = 4 := by omega
      have HQ := Lib.hid (HZ.out hN.out)
      go_wp2
      go_ret
      exact ⟨ret_int HQ.out.symm, HG.out⟩

def thV (n : Int) : Int := if 1000 ≤ n ∧ n ≤ 9999 then hgt n else 0
def thE (n : Int) : Int := if 1000 ≤ n ∧ n ≤ 9999 then 0 else 2
end Go.Proofs.Ytggflladheemoaa
