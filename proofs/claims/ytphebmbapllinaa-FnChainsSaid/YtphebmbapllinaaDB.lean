/- Plain mathematics, merged. -/
import Derived.Test.YtphebmbapllinaaLX
import Derived.Test.Ytphebmbapllinaa7C
import Derived.Test.YtphebmbapllinaaDA
import Derived.Test.YtphebmbapllinaaDl
import Derived.Test.Ytphebmbapllinaa7B
import Derived.Test.YtphebmbapllinaaC07d
import Derived.Deep.RegionHeld3
import Derived.Test.Ytphebmbapllinaa7A
import Derived.Test.Ytphebmbapllinaa8A
import Derived.Test.YtphebmbapllinaaC08a
/- Lists of parts with room to spare, that a law marks and holds. -/
namespace Go.Proofs.Ytphebmbapllinaa
open Go.RowKit
set_option linter.unusedVariables false
set_option linter.unusedSimpArgs false

end Go.Proofs.Ytphebmbapllinaa

/- Draws of chapter 7: graduations. -/
namespace Go.Proofs.Ytphebmbapllinaa
open Go.RowKit Go.ChangeShapes Go.WideShapes Go.ChangeAt
set_option linter.unusedVariables false
set_option linter.unusedSimpArgs false

/-- A part as draws make them. -/
def PtB (z : P3) : Prop := (0 ≤ z.1 ∧ z.1 ≤ 30000) ∧ (0 ≤ z.2.1 ∧ z.2.1 ≤ 30000) ∧ (-30000 ≤ z.2.2 ∧ z.2.2 ≤ 30000)
/-- A part of a valid one. -/
def PtV (z : P3) : Prop := (1000 ≤ z.1 ∧ z.1 ≤ 10000) ∧ (1000 ≤ z.2.1 ∧ z.2.1 ≤ 10000) ∧ (-30000 ≤ z.2.2 ∧ z.2.2 ≤ 30000)
theorem PtV.of {x y r : Int} (hx : 1000 ≤ x ∧ x ≤ 10000) (hy : 1000 ≤ y ∧ y ≤ 10000) (hr : -30000 ≤ r ∧ r ≤ 30000) : PtV (x, y, r) := ⟨hx, hy, hr⟩
theorem PtV.b {z : P3} (h : PtV z) : PtB z := ⟨⟨by have := h.1; omega, by have := h.1; omega⟩, ⟨by have := h.2.1; omega, by have := h.2.1; omega⟩, h.2.2⟩
def StpN (x : Int) : Prop := -30000 ≤ x ∧ x ≤ 30000
theorem Row.dr {w w' : World} {b g : Nat} {t : TypeId} {vs : List Value} (h : Row w g t vs) (hd : Dr b w w') (hg : g ≠ b) : Row w' g t vs := (hd.block g h.lt hg).trans h
theorem cells3_set (xs : List P3) (rest : List Value) (k : Nat) (x0 x1 x2 y : Int) (h : xs[k]? = some (x0, x1, x2)) :
    (cells3 xs ++ rest).set (k * 3 + 2) (vi y) = cells3 (xs.set k (x0, x1, y)) ++ rest ∧ (cells3 xs ++ rest).set (k * 3 + 1) (vi y) = cells3 (xs.set k (x0, y, x2)) ++ rest := by
  obtain ⟨hk, e⟩ := List.getElem?_eq_some_iff.1 h
  have hl : (cells3 (xs.take k)).length = k * 3 := by rw [cells3_len, List.length_take, Nat.min_eq_left (by omega)]
  have hx : cells3 xs ++ rest = cells3 (xs.take k) ++ ([vi x0, vi x1, vi x2] ++ (cells3 (xs.drop (k + 1)) ++ rest)) := by
    conv => lhs; rw [← List.take_append_drop k xs, List.drop_eq_getElem_cons hk, e]
    rw [cells3_append, show cells3 ((x0, x1, x2) :: xs.drop (k + 1)) = [vi x0, vi x1, vi x2] ++ cells3 (xs.drop (k + 1)) from rfl]
    simp
  have hs : ∀ p : P3, cells3 (xs.set k p) ++ rest = cells3 (xs.take k) ++ ([vi p.1, vi p.2.1, vi p.2.2] ++ (cells3 (xs.drop (k + 1)) ++ rest)) := by
    intro p
    rw [List.set_eq_take_append_cons_drop, if_pos hk, cells3_append, show cells3 (p :: xs.drop (k + 1)) = [vi p.1, vi p.2.1, vi p.2.2] ++ cells3 (xs.drop (k + 1)) from rfl]
    simp
  rw [hx, hs, hs]
  refine ⟨?_, ?_⟩ <;> (rw [List.set_append_right _ _ (by omega), hl]; simp [show k * 3 + 2 - k * 3 = 2 by omega, show k * 3 + 1 - k * 3 = 1 by omega])
theorem ptb_set {xs : List P3} {k : Nat} {p : P3} (h : ∀ z ∈ xs, PtB z) (hp : PtB p) : ∀ z ∈ xs.set k p, PtB z := fun z hz => by
  rcases List.mem_or_eq_of_mem_set hz with h1 | h1
  · exact h z h1
  · rw [h1]; exact hp
def ToN (x : Int) : Prop := -1 ≤ x ∧ x ≤ 100

end Go.Proofs.Ytphebmbapllinaa

/- Draws of chapter 7: what its functions are asked. -/
namespace Go.Proofs.Ytphebmbapllinaa
open Go.RowKit Go.ChangeShapes Go.WideShapes Go.ChangeAt
set_option linter.unusedVariables false
set_option linter.unusedSimpArgs false

theorem wf_of {x : Int} (h : -1000000 ≤ x ∧ x ≤ 1000000) : (Lit.int .i64 x).wf = true := by
  simp only [Lit.wf, Bool.and_eq_true, decide_eq_true_eq]
  have h1 : (-9223372036854775808 : Int) ≤ x := by omega
  have h2 : x ≤ (9223372036854775807 : Int) := by omega
  exact ⟨h1, h2⟩
theorem ptb_wf {zs : List P3} (h : ∀ z ∈ zs, PtB z) : Wf3 zs := fun z hz => by
  obtain ⟨h1, h2, h3⟩ := h z hz
  exact ⟨wf_of (by omega), wf_of (by omega), wf_of (by omega)⟩
def NumN (x : Int) : Prop := -100000 ≤ x ∧ x ≤ 200000
end Go.Proofs.Ytphebmbapllinaa

/- Draws of chapter 8: ticks. -/
namespace Go.Proofs.Ytphebmbapllinaa
open Go.RowKit Go.Shelf Go.ChangeShapes Go.WideShapes Go.ChangeAt
set_option linter.unusedVariables false
set_option linter.unusedSimpArgs false

theorem flat_zero : ∀ j : Nat, (List.replicate j ((0, 0, 0) : P3)).flatMap cl3 = List.replicate (j * 3) (vi 0)
  | 0 => rfl
  | j + 1 => by
    rw [List.replicate_succ, List.flatMap_cons, flat_zero j, Nat.succ_mul, Nat.add_comm (j * 3) 3, ← List.replicate_append_replicate]
    rfl
theorem toL_len0 (zs : List P3) (s l f t : Int) : (toL zs s l f t).length ≤ 150 := by
  unfold toL
  split
  · rename_i h
    rw [toF_len]
    unfold toE at h
    split at h
    · omega
    split at h
    · omega
    split at h
    · omega
    · omega
  · simp

def BigN (x : Int) : Prop := -2000000000000 ≤ x ∧ x ≤ 2000000000000
end Go.Proofs.Ytphebmbapllinaa
