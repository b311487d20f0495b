/- Plain mathematics, merged. -/
import Derived.Test.YtefhhigcplemaaaDoorC11d
import Derived.Test.YtefhhigcplemaaaDoorC05e
import Derived.Test.YtefhhigcplemaaaDoorTA
import Derived.Test.YtefhhigcplemaaaDoorC11b
/- Texts of rules: names of scales joined, in the model. -/
namespace Go.Proofs.YtefhhigcplemaaaDoor
open Go.RowKit
set_option linter.unusedVariables false
set_option linter.unusedSimpArgs false

/-- A scale's name; the names of the first k scales, joined. -/
def nmL (z : Int) : List UInt8 := (nmA z.toNat).data.toList
theorem nmL_mk (z : Int) : (⟨(nmL z).toArray⟩ : ByteArray) = nmA z.toNat := rfl
theorem nmA_len (k : Nat) : (nmA k).data.toList.length ≤ 2 ∧ 1 ≤ (nmA k).data.toList.length := by
  unfold nmA; split <;> simp
def nJ (zs : List Int) (k : Nat) : ByteArray := ⟨(Lib.join ((zs.take k).map nmL) [44]).toArray⟩
theorem nJ_zero (zs : List Int) : nJ zs 0 = ⟨#[]⟩ := by unfold nJ; simp [Lib.join_nil]
theorem nJ_one {zs : List Int} {z : Int} (h : zs[0]? = some z) : nJ zs 1 = nmA z.toNat := by
  cases zs with
  | nil => cases h
  | cons a r => simp at h; subst h; unfold nJ; simp [Lib.join_one, nmL]
theorem nJ_succ {zs : List Int} {k : Nat} {z : Int} (h : zs[k]? = some z) (hk : 0 < k) : nJ zs (k + 1) = nJ zs k ++ ⟨#[44]⟩ ++ nmA z.toNat := by
  obtain ⟨hl, e⟩ := List.getElem?_eq_some_iff.1 h
  unfold nJ
  rw [List.take_succ_eq_append_getElem hl, e, List.map_append, List.map_cons, List.map_nil, join_snoc, if_neg (by
    intro h0
    rw [List.map_eq_nil_iff, List.take_eq_nil_iff] at h0
    rcases h0 with h0 | h0
    · omega
    · rw [h0] at hl; simp at hl), ← nmL_mk]
  rw [ByteArray.mk_append_mk, ByteArray.mk_append_mk]
theorem nJ_size (zs : List Int) (k : Nat) : (nJ zs k).size ≤ 21 * zs.length := by
  unfold nJ
  show (List.toArray _).size ≤ _
  rw [List.size_toArray]
  have := join_len ((zs.take k).map nmL) (fun x hx => by
    obtain ⟨z, hz, rfl⟩ := List.mem_map.1 hx
    have := (nmA_len z.toNat).1
    show (nmA z.toNat).data.toList.length ≤ 20
    omega)
  rw [List.length_map, List.length_take] at this
  omega
theorem nmA_sz (k : Nat) : (nmA k).size ≤ 2 := by
  have := (nmA_len k).1
  show (nmA k).data.size ≤ 2
  rwa [Array.length_toList] at this

/-- The list of names that the model makes. -/
def NmF (v : Value) (w : World) : Prop := ∃ g : Nat, v = .slice (some ⟨g, 0, none⟩) 6 6 ∧ ∀ i : Nat, i < 6 → w.cell? ⟨g, i, none⟩ = some (.string (nmA i))
theorem NmF.gr (v : Value) (w w' : World) (hg : Gr w w') (h : NmF v w) : NmF v w' := by
  obtain ⟨g, e, h1⟩ := h
  exact ⟨g, e, fun i hi => cell_up hg (h1 i hi)⟩
theorem names_ever (w : World) : Calls Tryd.prog 86 #[] w fun e w' => ∃ v, e = .returned v ∧ NmF v w' ∧ Gr w w' :=
  (names_spec w).mono fun e w' ⟨h1, h2⟩ => ⟨_, h1, ⟨_, rfl, fun i hi => by rw [h2]; exact nmObj_cell w i hi⟩, by rw [h2]; exact (by repeat (first | with_reducible exact Gr.refl _ | with_reducible refine Gr.alloc ?_ _ | with_reducible refine Gr.gr ?_ _ _ | with_reducible refine Gr.drew ?_ | with_reducible refine Gr.drewN ?_ _))⟩
def NmP (i : Nat) (v : Value) (w : World) : Prop := ∃ g : Nat, v = .pointer (some ⟨g, i, none⟩) ∧ w.cell? ⟨g, i, none⟩ = some (.string (nmA i))
theorem NmP.gr {i : Nat} (v : Value) (w w' : World) (hg : Gr w w') (h : NmP i v w) : NmP i v w' := by
  obtain ⟨g, e, h1⟩ := h
  exact ⟨g, e, cell_up hg h1⟩

end Go.Proofs.YtefhhigcplemaaaDoor

/- Texts of rules, in the program and in the model. -/
namespace Go.Proofs.YtefhhigcplemaaaDoor
open Go.RowKit
set_option linter.unusedVariables false
set_option linter.unusedSimpArgs false

def nsV (z : Int) : Value := .string (nmA z.toNat)
/-- A rule's text. -/
def ruB (L : Int) (xs ys : List Int) : ByteArray := itoaB L ++ ⟨#[32]⟩ ++ nJ xs xs.length ++ ⟨#[32]⟩ ++ nJ ys ys.length
def ruS (L : Int) (xs ys : List Int) : ByteArray := if rlB L xs ys = true then ruB L xs ys else ⟨#[]⟩
def ruC (L : Int) (xs ys : List Int) : Int := if rlB L xs ys = true then 0 else 1
theorem ru_ok {L : Int} {xs ys : List Int} (h : rlB L xs ys = true) : ruS L xs ys = ruB L xs ys ∧ ruC L xs ys = 0 := ⟨if_pos h, if_pos h⟩
theorem ru_no {L : Int} {xs ys : List Int} (h : rlB L xs ys = false) : ruS L xs ys = ⟨#[]⟩ ∧ ruC L xs ys = 1 := ⟨if_neg (by rw [h]; simp), if_neg (by rw [h]; simp)⟩
theorem rl_names {L : Int} {xs ys : List Int} (h : rlB L xs ys = true) : (1 ≤ L ∧ L ≤ 100000) ∧ (xs.length ≤ 6 ∧ ∀ z ∈ xs, 0 ≤ z ∧ z ≤ 5) ∧ (ys.length ≤ 6 ∧ ∀ z ∈ ys, 0 ≤ z ∧ z ≤ 5) := by
  obtain ⟨h1, h2, h3⟩ := (rlB_iff L xs ys).1 h
  refine ⟨(ln_iff L).1 h1, ⟨((arS_iff xs).1 h2).1.2, fun z hz => ?_⟩, ⟨((arS_iff ys).1 h3).1.2, fun z hz => ?_⟩⟩
  · have := (lsc_iff z).1 (arS_mem h2 ((hasI_iff _ _).2 hz)); omega
  · have := (lsc_iff z).1 (arS_mem h3 ((hasI_iff _ _).2 hz)); omega
end Go.Proofs.YtefhhigcplemaaaDoor
