/- Contracts of chapter 13: the figure of a chain. -/
import Derived.Test.YtphebmbapllinaaDoorC13a
import Derived.Test.YtphebmbapllinaaDoor2A
import Derived.Test.YtphebmbapllinaaDoorLm
namespace Go.Proofs.YtphebmbapllinaaDoor
open Go.RowKit
set_option linter.unusedVariables false
set_option linter.unusedSimpArgs false

theorem hdF_at {cs : List Tm} {m : Tm} (h : cs[0]? = some m) : hdF cs = (m.1, m.2.1) := by
  cases cs with
  | nil => cases h
  | cons x r => simp at h; subst h; rfl
theorem tmX_0 (f : Int × Int) (m : Tm) : ((tmX f m).2 == 0) = true ∨ ((tmX f m).2 == 0) = false := by cases h : ((tmX f m).2 == 0) <;> simp
/-- A slice cut from a place on. -/
theorem cut_any {P : Program} {T : TypeId} (hT : P.underlying T = some (.slice (P.elem T))) {i0 : TypeInfo} {sz : Nat} (hi : P.info? (P.elem T) = some i0) (hs : i0.size = sz) (g o n cap l : Nat) (h : l ≤ n) (hc : n ≤ cap) :
    ∃ o' E, (∀ W, (Instr.sliceAt T (.slice (some ⟨g, o, none⟩) n cap) (some (.int .i64 (l : Int))) none none).run P W = .ok (.slice (some ⟨g, o', none⟩) (n - l) E) W) ∧ (l < n → o' = o + l * sz) ∧ n - l ≤ E := by
  refine ⟨if cap = l then o else o + l * sz, cap - l, fun W => ?_, fun h1 => if_neg (by omega), by omega⟩
  rw [run_sliceAt_slice W T _ _ _ _ hT, run_slice_l W T _ n cap hT .i64 (l : Int) (by omega) (by omega)]
  have hsz : (sizeOf (P.elem T)).run P W = .ok sz W := by simp [sizeOf, typeInfo, hi, hs]
  rw [hsz]
  simp only [Result.andThen, sliced, Int.toNat_natCast]
  by_cases hc : cap = l
  · rw [if_pos hc, if_pos hc]
  · rw [if_neg hc, if_neg hc]
    simp only [Option.map_some, Addr.add]
    split <;> first | rfl | simp_all
/-- The same of terms: what is left reads as the rest. -/
theorem cut_terms (g o n cap l : Nat) (cs : List Tm) (hn : cs.length = n) (h : l ≤ n) (hc : n ≤ cap) :
    ∃ o' E, (∀ W, (Instr.sliceAt 24 (.slice (some ⟨g, o, none⟩) n cap) (some (.int .i64 (l : Int))) none none).run Tryd.prog W = .ok (.slice (some ⟨g, o', none⟩) (n - l) E) W) ∧ (∀ (W : World) B, Reads W B (some ⟨g, o, none⟩) (tcells cs) → Reads W B (some ⟨g, o', none⟩) (tcells (cs.drop l))) ∧ n - l ≤ E := by
  obtain ⟨o', E, h1, h2, h3⟩ := cut_any (P := Tryd.prog) (T := 24) (sz := 3) (by kernel_rfl) (i0 := (Tryd.prog.info? 45).get (by kernel_rfl)) (by kernel_rfl) (by kernel_rfl) g o n cap l h hc
  refine ⟨o', E, h1, fun W B hR => ?_, h3⟩
  by_cases hl : l < n
  · rw [h2 hl]
    exact Reads.tailt hR l (by omega)
  · rw [List.drop_eq_nil_of_le (by omega)]
    exact Reads.nil _ _ _
end Go.Proofs.YtphebmbapllinaaDoor
