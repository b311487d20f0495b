/- Contracts of chapter 8: heights of marks. -/
import Derived.Test.Ytphebmbapllinaa1A
import Derived.Test.YtphebmbapllinaaSA
import Derived.Test.YtphebmbapllinaaMC
import Derived.Lib.LaidTab
namespace Go.Proofs.Ytphebmbapllinaa
open Go.RowKit
set_option linter.unusedVariables false
set_option linter.unusedSimpArgs false

def hstep : List Int := [1, 50, 100, 500, 1000]
def mstep : List Int := [1000, 500, 100, 50]
theorem hgt_emod (n : Int) (h : 0 ≤ n) : hgt n = if n % 1000 = 0 then 4 else if n % 500 = 0 then 3 else if n % 100 = 0 then 2 else if n % 50 = 0 then 1 else 0 := by
  unfold hgt
  rw [Int.tmod_eq_emod_of_nonneg h, Int.tmod_eq_emod_of_nonneg h, Int.tmod_eq_emod_of_nonneg h, Int.tmod_eq_emod_of_nonneg h]
/-- From the greatest step on. -/
theorem hgt_m (n : Int) (h : 0 ≤ n) {k : Nat} {x : Int} (hx : mstep[k]? = some x) (hno : ∀ j y, j < k → mstep[j]? = some y → n % y ≠ 0) (h0 : n % x = 0) : hgt n = 4 - (k : Int) := by
  have hk : k < 4 := by
    obtain ⟨hk, -⟩ := List.getElem?_eq_some_iff.1 hx
    exact hk
  rw [hgt_emod n h]
  have m0 := fun g : 0 < k => hno 0 1000 g rfl
  have m1 := fun g : 1 < k => hno 1 500 g rfl
  have m2 := fun g : 2 < k => hno 2 100 g rfl
  rcases (show k = 0 ∨ k = 1 ∨ k = 2 ∨ k = 3 by omega) with rfl | rfl | rfl | rfl
  · simp [mstep] at hx; subst hx; rw [if_pos h0]; rfl
  · simp [mstep] at hx; subst hx; rw [if_neg (m0 (by omega)), if_pos h0]; rfl
  · simp [mstep] at hx; subst hx; rw [if_neg (m0 (by omega)), if_neg (m1 (by omega)), if_pos h0]; rfl
  · simp [mstep] at hx; subst hx; rw [if_neg (m0 (by omega)), if_neg (m1 (by omega)), if_neg (m2 (by omega)), if_pos h0]; rfl
theorem hgt_m0 (n : Int) (h : 0 ≤ n) (hno : ∀ j y, j < 4 → mstep[j]? = some y → n % y ≠ 0) : hgt n = 0 := by
  rw [hgt_emod n h, if_neg (hno 0 1000 (by omega) rfl), if_neg (hno 1 500 (by omega) rfl), if_neg (hno 2 100 (by omega) rfl), if_neg (hno 3 50 (by omega) rfl)]
theorem hgt_h (n : Int) (h : 0 ≤ n) {k : Nat} {x : Int} (hx : hstep[k]? = some x) (hno : ∀ j y, k < j → hstep[j]? = some y → n % y ≠ 0) (h0 : n % x = 0) : hgt n = (k : Int) := by
  have hk : k < 5 := by
    obtain ⟨hk, -⟩ := List.getElem?_eq_some_iff.1 hx
    exact hk
  rw [hgt_emod n h]
  have m0 := fun g : k < 4 => hno 4 1000 g rfl
  have m1 := fun g : k < 3 => hno 3 500 g rfl
  have m2 := fun g : k < 2 => hno 2 100 g rfl
  have m3 := fun g : k < 1 => hno 1 50 g rfl
  rcases (show k = 0 ∨ k = 1 ∨ k = 2 ∨ k = 3 ∨ k = 4 by omega) with rfl | rfl | rfl | rfl | rfl
  · rw [if_neg (m0 (by omega)), if_neg (m1 (by omega)), if_neg (m2 (by omega)), if_neg (m3 (by omega))]; rfl
  · simp [hstep] at hx; subst hx; rw [if_neg (m0 (by omega)), if_neg (m1 (by omega)), if_neg (m2 (by omega)), if_pos h0]; rfl
  · simp [hstep] at hx; subst hx; rw [if_neg (m0 (by omega)), if_neg (m1 (by omega)), if_pos h0]; rfl
  · simp [hstep] at hx; subst hx; rw [if_neg (m0 (by omega)), if_pos h0]; rfl
  · simp [hstep] at hx; subst hx; rw [if_pos h0]; rfl

def thV (n : Int) : Int := if 1000 ≤ n ∧ n ≤ 9999 then hgt n else 0
def thE (n : Int) : Int := if 1000 ≤ n ∧ n ≤ 9999 then 0 else 2
end Go.Proofs.Ytphebmbapllinaa
