/- Plain mathematics, merged. -/
import Derived.Test.YtefhhigcplemaaaDoorC11d
import Derived.Test.YtefhhigcplemaaaDoor1A
import Derived.Test.YtefhhigcplemaaaDoorMm
import Derived.Test.YtefhhigcplemaaaDoorC11b
import Derived.Test.YtefhhigcplemaaaDoor2A
/- Contracts of chapter 11: the model's search for the nearest figure. -/
namespace Go.Proofs.YtefhhigcplemaaaDoor
open Go.RowKit
set_option linter.unusedVariables false
set_option linter.unusedSimpArgs false
attribute [local go_sem high] run_imin run_imax

/-- A position is reached. -/
def rchd (f : Nat → Int) (p : Int) (falls : Bool) (i : Nat) : Bool := if falls then decide (f i ≤ p) else decide (p ≤ f i)
theorem rchd_up {f : Nat → Int} {p : Int} {a b : Nat} {falls : Bool} (hm : ∀ i j, a ≤ i → i < j → j < b → if falls then f j < f i else f i < f j) {i j : Nat} (h1 : a ≤ i) (h2 : i ≤ j) (h3 : j < b) (h : rchd f p falls i = true) : rchd f p falls j = true := by
  rcases (show i = j ∨ i < j by omega) with rfl | g
  · exact h
  · have := hm i j h1 g h3
    unfold rchd at *
    cases falls <;> simp at * <;> omega
theorem rchd_lo {f : Nat → Int} {p : Int} {falls : Bool} {i : Nat} (h : rchd f p falls i = false) : if falls then p < f i else f i < p := by
  unfold rchd at h
  cases falls <;> simp at * <;> omega
theorem rchd_hi {f : Nat → Int} {p : Int} {falls : Bool} {i : Nat} (h : rchd f p falls i = true) : if falls then f i ≤ p else p ≤ f i := by
  unfold rchd at h
  cases falls <;> simp at * <;> omega
/-- The best of the first k numbers from st on. -/
def Bst (f : Nat → Int) (p : Int) (st k m : Nat) : Prop := st ≤ m ∧ m < st + k ∧ (∀ j, st ≤ j → j < st + k → gap p (f m) ≤ gap p (f j)) ∧ ∀ j, st ≤ j → j < m → gap p (f m) < gap p (f j)
theorem Bst.one (f : Nat → Int) (p : Int) (st : Nat) : Bst f p st 1 st := ⟨by omega, by omega, fun j h1 h2 => by rw [show j = st by omega]; exact Int.le_refl _, fun j h1 h2 => by omega⟩
theorem Bst.keep {f : Nat → Int} {p : Int} {st k m : Nat} (h : Bst f p st k m) (hg : gap p (f m) ≤ gap p (f (st + k))) : Bst f p st (k + 1) m :=
  ⟨h.1, by have := h.2.1; omega, fun j h1 h2 => by
    rcases (show j < st + k ∨ j = st + k by omega) with g | rfl
    · exact h.2.2.1 j h1 g
    · exact hg, h.2.2.2⟩
theorem Bst.new {f : Nat → Int} {p : Int} {st k m : Nat} (h : Bst f p st k m) (hg : gap p (f (st + k)) < gap p (f m)) : Bst f p st (k + 1) (st + k) :=
  ⟨by omega, by omega, fun j h1 h2 => by
    rcases (show j < st + k ∨ j = st + k by omega) with g | rfl
    · have := h.2.2.1 j h1 g; omega
    · exact Int.le_refl _, fun j h1 h2 => by have := h.2.2.1 j h1 (by omega); omega⟩

end Go.Proofs.YtefhhigcplemaaaDoor

/- Contracts of chapter 11: the model's readings and settings. -/
namespace Go.Proofs.YtefhhigcplemaaaDoor
open Go.RowKit
set_option linter.unusedVariables false
set_option linter.unusedSimpArgs false

theorem rN_at (s p : Int) (m : Nat) (h : IsB (ptN s) p 0 (gN s) m) : gD (rdN s p) = gD m ∧ gT (rdN s p) = gT m := by rw [rdN_is s p m h]; exact ⟨rfl, rfl⟩
end Go.Proofs.YtefhhigcplemaaaDoor

/- Contracts of chapter 11: the model's codes, readings and settings. -/
namespace Go.Proofs.YtefhhigcplemaaaDoor
open Go.RowKit
set_option linter.unusedVariables false
set_option linter.unusedSimpArgs false

theorem ret_sg11 (a b c : Int) (x : (Int × Int) × Int) (h : x = ((a, b), c)) : Ending.returned (.tuple #[.agg #[.int .i64 a, .int .i64 b], .int .i64 c]) = .returned (.tuple #[.agg #[.int .i64 x.1.1, .int .i64 x.1.2], .int .i64 x.2]) := by rw [h]
theorem rcd_stock {L : Int} {xs ys : List Int} {a q : Int} {b : Bool} {s : Int} (h : rcd L xs ys a q b s = 0) : sgB a q = true ∧ lsc s = true := by
  rcases rcd_cases L xs ys a q b s with ⟨-, e⟩ | ⟨-, -, e⟩ | ⟨-, -, -, e⟩ | ⟨h1, h2, h3, -⟩
  · omega
  · omega
  · omega
  · exact ⟨h2, onP_mem h1 h3⟩
theorem cursor11_spec (a q : Int) (b : Bool) (s u t : Int) (w : World) (hf : fg u t = true) (hs : sc s = true) (ha : -1048576 ≤ a ∧ a ≤ 1048576) :
    Calls Tryd.prog 72 #[.agg #[.int .i64 (a), .int .i64 (q)], .bool b, .int .i64 s, .agg #[.int .i64 u, .int .i64 t]] w fun e w' => e = .returned (.agg #[.int .i64 (a), .int .i64 (stP b a + pnt s u t)]) ∧ Gr w w' := by
  have HP := Lib.hid (fun W => point_spec s u t W hf hs)
  have bp := pnt_bd s u t hf
  generalize pnt s u t = x at *
  obtain ⟨a1, a2⟩ := ha
  obtain ⟨x1, x2⟩ := bp
  cases b
  · rw [stP_f, Int.zero_add]
    go_enter Tryd.func72, Tryd.ntmps72
    go_wp2_with (go_at_call 73; (with_reducible refine (HP.out _).mono ?_); rintro e w' ⟨rfl, k, os, rfl⟩)
    ((try simp only [Exit.inBlock, Exit.then]); refine bodyPost_ret (v := .agg #[.int .i64 (a), .int .i64 (x)]) (by simp [results, Tryd.results72, go_sem]) rfl ?_)
    exact ⟨rfl, (by repeat (first | with_reducible exact Gr.refl _ | with_reducible refine Gr.alloc ?_ _ | with_reducible refine Gr.gr ?_ _ _ | with_reducible refine Gr.drew ?_ | with_reducible refine Gr.drewN ?_ _))⟩
  · rw [stP_t]
    go_enter Tryd.func72, Tryd.ntmps72
    go_wp2_with (go_at_call 73; (with_reducible refine (HP.out _).mono ?_); rintro e w' ⟨rfl, k, os, rfl⟩)
    ((try simp only [Exit.inBlock, Exit.then]); refine bodyPost_ret (v := .agg #[.int .i64 (a), .int .i64 (x + a)]) (by simp [results, Tryd.results72, go_sem]) rfl ?_)
    exact ⟨ret_agg rfl (Int.add_comm _ _), (by repeat (first | with_reducible exact Gr.refl _ | with_reducible refine Gr.alloc ?_ _ | with_reducible refine Gr.gr ?_ _ _ | with_reducible refine Gr.drew ?_ | with_reducible refine Gr.drewN ?_ _))⟩

end Go.Proofs.YtefhhigcplemaaaDoor
