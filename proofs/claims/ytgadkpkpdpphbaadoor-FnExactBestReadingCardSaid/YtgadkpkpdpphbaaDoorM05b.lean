/- Plain mathematics of chapter 3: the bits of a logarithm as a list. No program is imported here. -/
import Derived.Test.YtgadkpkpdpphbaaDoorM05
namespace Go.Proofs.YtgadkpkpdpphbaaDoor
set_option linter.unusedSimpArgs false
set_option linter.unusedVariables false
/-- Bits as numbers, and the number that a list of bits spells. -/
def bI (b : Bool) : Int := if b then 1 else 0
theorem bI_t : bI true = 1 := rfl
theorem bI_f : bI false = 0 := rfl
theorem bI_bd (b : Bool) : 0 ≤ bI b ∧ bI b ≤ 1 := by cases b <;> decide
def numB (l : List Bool) : Int := l.foldl (fun s b => 2 * s + bI b) 0
theorem numB_nil : numB [] = 0 := rfl
theorem numB_snoc (l : List Bool) (b : Bool) : numB (l ++ [b]) = 2 * numB l + bI b := by unfold numB; rw [List.foldl_append]; rfl
theorem numB_bd' (n : Nat) : ∀ l : List Bool, l.length = n → 0 ≤ numB l ∧ numB l + 1 ≤ (2 ^ n : Nat) := by
  induction n with
  | zero => intro l h; rw [List.length_eq_zero_iff.1 h, numB_nil]; simp
  | succ n ih =>
    intro l h
    have hne : l ≠ [] := by intro e; rw [e] at h; simp at h
    have e := List.dropLast_concat_getLast hne
    have hl : l.dropLast.length = n := by rw [List.length_dropLast, h]; rfl
    have := ih l.dropLast hl
    have hb := bI_bd (l.getLast hne)
    rw [← e, numB_snoc, Nat.pow_succ]
    omega
theorem numB_bd (l : List Bool) (h : l.length ≤ 20) : 0 ≤ numB l ∧ numB l ≤ 1048575 := by
  have a := numB_bd' l.length l rfl
  have : 2 ^ l.length ≤ 2 ^ 20 := Nat.pow_le_pow_right (by omega) h
  rw [show 2 ^ 20 = 1048576 by decide] at this
  omega
/-- The bit of a step. -/
def hb (u : Bool) (x : Int) : Bool := if u then decide (1000000000 ≤ sqU x) else decide (1000000000 ≤ sqD x)
theorem hb_nx (u : Bool) (x : Int) : (nx u x).2 = bI (hb u x) := by
  cases u
  · unfold hb
    rw [nx_f, if_neg (by simp)]
    by_cases h : sqD x < 1000000000
    · rw [nxD_lo x h, decide_eq_false (by omega)]; rfl
    · rw [nxD_hi x (by omega), decide_eq_true (by omega)]; rfl
  · unfold hb
    rw [nx_t, if_pos rfl]
    by_cases h : sqU x < 1000000000
    · rw [nxU_lo x h, decide_eq_false (by omega)]; rfl
    · rw [nxU_hi x (by omega), decide_eq_true (by omega)]; rfl
/-- The first bits. -/
def bls (u : Bool) (x : Int) : Nat → List Bool
  | 0 => []
  | k + 1 => bls u x k ++ [hb u (lgs u x k).1]
theorem bls_zero (u : Bool) (x : Int) : bls u x 0 = [] := rfl
theorem bls_succ (u : Bool) (x : Int) (k : Nat) : bls u x (k + 1) = bls u x k ++ [hb u (lgs u x k).1] := rfl
theorem bls_len (u : Bool) (x : Int) (k : Nat) : (bls u x k).length = k := by
  induction k with
  | zero => rfl
  | succ k ih => rw [bls_succ, List.length_append, ih]; rfl
theorem bls_num (u : Bool) (x : Int) (k : Nat) : numB (bls u x k) = (lgs u x k).2 := by
  induction k with
  | zero => rfl
  | succ k ih => rw [bls_succ, numB_snoc, ih, lgs_succ, hb_nx]
end Go.Proofs.YtgadkpkpdpphbaaDoor
