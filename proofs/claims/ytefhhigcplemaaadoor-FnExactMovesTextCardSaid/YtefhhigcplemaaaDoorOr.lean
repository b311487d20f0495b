/- A slice of integers that is a field of a struct, opened. -/
import Derived.Test.YtefhhigcplemaaaDoorSA
import Derived.Lib.SmallJoins
namespace Go.Proofs.YtefhhigcplemaaaDoor
open Go.RowKit Go.ChangeShapes Go.WideShapes Go.ChangeAt
set_option linter.unusedVariables false
set_option linter.unusedSimpArgs false
section
variable {P : Program} {H : Type} {enc : TypeId × Value → H} {W : World}
theorem open_icell {t e : TypeId} {v : Value} {fuel : Nat} {x : DataW H × List MemPlace} (ht : P.underlying t = some (.slice e)) (he : P.underlying e = some (.int .i64)) (hc : P.cellsOf e = 1)
    (hf : DataW.trod enc P W 0 (fun _ => true) true fuel t [v] = some x) :
    ∃ (A : Option Addr) (n c : Nat) (zs : List Int), v = .slice A n c ∧ zs.length = n ∧ Reads W W.heap.size A (zs.map vi) ∧ n ≤ maxLen ∧ ∀ z ∈ zs, (Lit.int .i64 z).wf = true := by
  rcases open_ints ht he hc hf with ⟨hv, -⟩ | ⟨a, len, cap, zs, hv, hbase, hlen, hcap, hz, -, hcell, hwf⟩
  · simp at hv
    subst hv
    exact ⟨none, 0, 0, [], rfl, rfl, Reads.nil _ _ _, by simp [maxLen], by simp⟩
  · simp at hv
    subst hv
    simp at hz
    refine ⟨some a, len, cap, zs.take len, rfl, by rw [List.length_take]; omega, ?_, by omega, fun z hz' => hwf z (List.mem_of_mem_take hz')⟩
    intro k hk
    rw [List.length_map, List.length_take] at hk
    have hkz : k < zs.length := by omega
    have h1 := hcell k hkz
    have hs : a.spot = none := by
      have h0 := hcell 0 (by omega)
      cases hsp : a.spot with
      | none => rfl
      | some s =>
        have : (a.add 0) = a := by unfold Addr.add; simp
        rw [this] at h0
        unfold World.cell? at h0
        rw [hsp] at h0
        split at h0 <;> simp at h0
    obtain ⟨g, o, sp⟩ := a
    simp at hs
    subst hs
    have hadd : (⟨g, o, none⟩ : Addr).add k = ⟨g, o + k, none⟩ := add_plain ..
    rw [hadd] at h1
    refine ⟨g, o, rfl, World.block_lt_of_cell? W _ h1, ?_⟩
    rw [h1]
    simp [List.getD, hkz]
end
end Go.Proofs.YtefhhigcplemaaaDoor
