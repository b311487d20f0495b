/- Plain mathematics, merged. -/
import Derived.Test.YtphebmbapllinaaC08a
import Derived.Test.Ytphebmbapllinaa1A
import Derived.BigQuiet
/- Contracts of chapter 8: the code of ticks, the nearest one, how many between two bounds. -/
namespace Go.Proofs.Ytphebmbapllinaa
open Go.RowKit
set_option linter.unusedVariables false
set_option linter.unusedSimpArgs false

/-- The answer of the nearest tick, by cases. -/
theorem nt_cases (zs : List P3) (p : Int) : (tkE zs (vl p) ≠ 0 ∧ ntE zs p = tkE zs (vl p) ∧ ntV zs p = 0) ∨ (tkE zs (vl p) = 0 ∧ zs.length = 0 ∧ ntE zs p = 4 ∧ ntV zs p = 0) ∨
    (tkE zs (vl p) = 0 ∧ 0 < zs.length ∧ ntE zs p = 0 ∧ ntV zs p = (argm (tkD zs p) zs.length : Int)) := by
  by_cases h : tkE zs (vl p) = 0
  · by_cases h2 : zs.length = 0
    · have e : ntE zs p = 4 := by unfold ntE; rw [if_pos h, if_pos h2]
      exact .inr (.inl ⟨h, h2, e, by unfold ntV; rw [if_neg (by omega)]⟩)
    · have e : ntE zs p = 0 := by unfold ntE; rw [if_pos h, if_neg h2]
      exact .inr (.inr ⟨h, by omega, e, by unfold ntV; rw [if_pos e]⟩)
  · have e : ntE zs p = tkE zs (vl p) := by unfold ntE; rw [if_neg h]
    exact .inl ⟨h, e, by unfold ntV; rw [if_neg (by omega)]⟩
theorem tkE_zero {zs : List P3} {q : Bool} (h : tkE zs q = 0) : zs.length ≤ 150 ∧ q = true ∧ allP zs = true ∧ tkE zs true = 0 := by
  rcases tkE_cases zs q with ⟨-, e⟩ | ⟨h1, rfl, h3, e⟩ | ⟨-, -, e⟩
  · omega
  · exact ⟨h1, rfl, h3, e⟩
  · omega

end Go.Proofs.Ytphebmbapllinaa

/- Contracts of chapter 8: the program's nearest tick. -/
namespace Go.Proofs.Ytphebmbapllinaa
open Go.RowKit
set_option linter.unusedVariables false
set_option linter.unusedSimpArgs false

theorem allv_one (p : Int) : allv [p] = vl p := by unfold allv; simp
theorem allv_two (p q : Int) : allv [p, q] = (vl p && vl q) := by unfold allv; simp
theorem Row.one (w : World) (t : TypeId) (x : Value) : Row (w.alloc (.cells #[x] t)) w.heap.size t [x] := Row.new w t [x]

end Go.Proofs.Ytphebmbapllinaa

/- Contracts of chapter 8: how many ticks stand between two bounds. -/
namespace Go.Proofs.Ytphebmbapllinaa
open Go.RowKit
set_option linter.unusedVariables false
set_option linter.unusedSimpArgs false

theorem tb_cases (zs : List P3) (f t : Int) : (tkE zs (vl f && vl t) ≠ 0 ∧ tbE zs f t = tkE zs (vl f && vl t) ∧ tbV zs f t = 0) ∨ (tkE zs (vl f && vl t) = 0 ∧ tbE zs f t = 0 ∧ tbV zs f t = cntB zs f t zs.length) := by
  by_cases h : tkE zs (vl f && vl t) = 0
  · exact .inr ⟨h, h, by unfold tbV tbE; rw [if_pos h]⟩
  · exact .inl ⟨h, rfl, by unfold tbV tbE; rw [if_neg h]⟩

end Go.Proofs.Ytphebmbapllinaa

/- Contracts of chapter 8: the closest ticks. -/
namespace Go.Proofs.Ytphebmbapllinaa
open Go.RowKit
set_option linter.unusedVariables false
set_option linter.unusedSimpArgs false

theorem ct_cases (zs : List P3) : (tkE zs true ≠ 0 ∧ ctE zs = tkE zs true ∧ ctA zs = 0 ∧ ctB zs = 0) ∨ (tkE zs true = 0 ∧ zs.length < 2 ∧ ctE zs = 4 ∧ ctA zs = 0 ∧ ctB zs = 0) ∨
    (tkE zs true = 0 ∧ 2 ≤ zs.length ∧ ctE zs = 0 ∧ ctA zs = ((clI (Dp zs) zs.length zs.length).1 : Int) ∧ ctB zs = ((clI (Dp zs) zs.length zs.length).2 : Int)) := by
  by_cases h : tkE zs true = 0
  · by_cases h2 : zs.length < 2
    · have e : ctE zs = 4 := by unfold ctE; rw [if_pos h, if_pos h2]
      exact .inr (.inl ⟨h, h2, e, by unfold ctA; rw [if_neg (by omega)], by unfold ctB; rw [if_neg (by omega)]⟩)
    · have e : ctE zs = 0 := by unfold ctE; rw [if_pos h, if_neg h2]
      exact .inr (.inr ⟨h, by omega, e, by unfold ctA; rw [if_pos e], by unfold ctB; rw [if_pos e]⟩)
  · have e : ctE zs = tkE zs true := by unfold ctE; rw [if_neg h]
    exact .inl ⟨h, e, by unfold ctA; rw [if_neg (by omega)], by unfold ctB; rw [if_neg (by omega)]⟩
/-- What the inner loop knows of the pair so far. -/
theorem cl_in {zs : List P3} {n : Nat} (hn : zs.length = n) (h2 : 2 ≤ n) {i m : Nat} (hi : i < n) (hm : i + 1 + m ≤ n) :
    (clJ (Dp zs) i (clI (Dp zs) n i) m).1 < (clJ (Dp zs) i (clI (Dp zs) n i) m).2 ∧ (clJ (Dp zs) i (clI (Dp zs) n i) m).2 < n :=
  clJ_lt _ n i _ (clI_lt _ n h2 i (by omega)) m hm
theorem tk_at {zs : List P3} {k : Nat} (h : k < zs.length) : ∃ za zc, zs[k]? = some (za, tkP zs k, zc) := by
  obtain ⟨⟨za, zb, zc⟩, hz⟩ := some_at h
  exact ⟨za, zc, by rw [tkP_at hz]; exact hz⟩
theorem Dp_is (zs : List P3) (i j : Nat) : Dp zs i j = ((tkP zs i - tkP zs j).natAbs : Int) := rfl

def clK (D : Nat → Nat → Int) (i : Nat) (s : Nat × Nat) (j : Nat) : Nat × Nat := clJ D i s (j - (i + 1))
theorem clK_start (D : Nat → Nat → Int) (i : Nat) (s : Nat × Nat) : clK D i s (i + 1) = s := by unfold clK; rw [Nat.sub_self]; rfl
theorem clK_succ (D : Nat → Nat → Int) (i : Nat) (s : Nat × Nat) (j : Nat) (h : i + 1 ≤ j) : clK D i s (j + 1) = if D i j < D (clK D i s j).1 (clK D i s j).2 then (i, j) else clK D i s j := by
  unfold clK
  rw [show j + 1 - (i + 1) = j - (i + 1) + 1 by omega, clJ_succ, show i + 1 + (j - (i + 1)) = j by omega]
theorem clK_end (D : Nat → Nat → Int) (n i : Nat) : clI D n (i + 1) = clK D i (clI D n i) n := rfl

end Go.Proofs.Ytphebmbapllinaa
