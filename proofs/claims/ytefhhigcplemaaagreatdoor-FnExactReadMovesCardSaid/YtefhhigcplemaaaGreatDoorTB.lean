/- Plain mathematics, merged. -/
import Derived.Test.YtefhhigcplemaaaGreatDoorTA
import Derived.Test.YtefhhigcplemaaaGreatDoorSA
import Derived.Test.YtefhhigcplemaaaGreatDoor7A
import Derived.Deep.RegionLaw
/- Texts of graduations: a part's text, in the program and in the model. -/
namespace Go.Proofs.YtefhhigcplemaaaGreatDoor
open Go.RowKit
set_option linter.unusedVariables false
set_option linter.unusedSimpArgs false

/-- A part's text. -/
def ptB (p : P3) : ByteArray := itoaB p.1 ++ ⟨#[47]⟩ ++ itoaB p.2.1 ++ ⟨#[47]⟩ ++ itoaB p.2.2
abbrev Small3 (p : P3) : Prop := vl p.1 = true ∧ vl p.2.1 = true ∧ vl p.2.2 = true
theorem joinTail_lenS (r : List (List UInt8)) (h : ∀ x ∈ r, x.length ≤ 20) : (Lib.joinTail [47] r).length ≤ 21 * r.length := by
  induction r with
  | nil => simp [Lib.joinTail]
  | cons a r ih =>
    have h1 := h a (by simp)
    have h2 := ih (fun x hx => h x (by simp [hx]))
    unfold Lib.joinTail at *
    simp only [List.map_cons, List.flatten_cons, List.length_append, List.length_cons, List.length_nil] at *
    omega
theorem join_lenS (l : List (List UInt8)) (h : ∀ x ∈ l, x.length ≤ 20) : (Lib.join l [47]).length ≤ 21 * l.length := by
  cases l with
  | nil => simp [Lib.join_nil]
  | cons a r =>
    have h1 := h a (by simp)
    have h2 := joinTail_lenS r (fun x hx => h x (by simp [hx]))
    rw [Lib.join_cons, List.length_append, List.length_cons]
    omega

/-- The joined numerals of the first k elements. -/
def jS (zs : List Int) (k : Nat) : ByteArray := ⟨(Lib.join ((zs.take k).map Lib.itoa) [47]).toArray⟩
theorem jB_zeroS (zs : List Int) : jS zs 0 = ⟨#[]⟩ := by unfold jS; simp [Lib.join_nil]
theorem jB_oneS {zs : List Int} {z : Int} (h : zs[0]? = some z) : jS zs 1 = itoaB z := by
  cases zs with
  | nil => cases h
  | cons a r => simp at h; subst h; unfold jS itoaB; simp [Lib.join_one]
theorem jB_succS {zs : List Int} {k : Nat} {z : Int} (h : zs[k]? = some z) (hk : 0 < k) : jS zs (k + 1) = jS zs k ++ ⟨#[47]⟩ ++ itoaB z := by
  obtain ⟨hl, e⟩ := List.getElem?_eq_some_iff.1 h
  unfold jS itoaB
  rw [List.take_succ_eq_append_getElem hl, e, List.map_append, List.map_cons, List.map_nil, join_snoc, if_neg (by
    intro h0
    rw [List.map_eq_nil_iff, List.take_eq_nil_iff] at h0
    rcases h0 with h0 | h0
    · omega
    · rw [h0] at hl; simp at hl)]
  rw [ByteArray.mk_append_mk, ByteArray.mk_append_mk]
theorem jB_sizeS (zs : List Int) (k : Nat) (h : allv zs = true) (hk : k ≤ zs.length) : (jS zs k).size ≤ 21 * k := by
  unfold jS
  show (List.toArray _).size ≤ 21 * k
  rw [List.size_toArray]
  have := join_lenS ((zs.take k).map Lib.itoa) (fun x hx => by
    obtain ⟨z, hz, rfl⟩ := List.mem_map.1 hx
    unfold allv at h
    rw [List.all_eq_true] at h
    exact itoa_short z (h z (List.mem_of_mem_take hz)))
  rw [List.length_map, List.length_take] at this
  omega
theorem jS_three (a b c : Int) : jS [a, b, c] 3 = ptB (a, b, c) := by
  rw [jB_succS (z := c) rfl (by omega), jB_succS (z := b) rfl (by omega), jB_oneS (z := a) rfl]
  rfl
/-- A graduation's text: the first parts. -/
def gtB (zs : List P3) : Nat → ByteArray
  | 0 => ⟨#[]⟩
  | k + 1 => (if 0 < k then gtB zs k ++ ⟨#[32]⟩ else gtB zs k) ++ ptB (zs.getD k (0, 0, 0))
theorem gtB_succ (zs : List P3) (k : Nat) : gtB zs (k + 1) = (if 0 < k then gtB zs k ++ ⟨#[32]⟩ else gtB zs k) ++ ptB (zs.getD k (0, 0, 0)) := rfl
theorem ptB_size (p : P3) (h : Small3 p) : (ptB p).size ≤ 62 := by
  obtain ⟨h1, h2, h3⟩ := h
  obtain ⟨a1, a2⟩ := (vl_iff _).1 h1
  obtain ⟨b1, b2⟩ := (vl_iff _).1 h2
  obtain ⟨c1, c2⟩ := (vl_iff _).1 h3
  have := itoa_len _ a1 a2
  have := itoa_len _ b1 b2
  have := itoa_len _ c1 c2
  unfold ptB
  simp only [ByteArray.size_append]
  have : (⟨#[47]⟩ : ByteArray).size = 1 := rfl
  omega
theorem gtB_size (zs : List P3) (h : ∀ p ∈ zs, Small3 p) : ∀ k, k ≤ zs.length → (gtB zs k).size ≤ 63 * k
  | 0, _ => by
    show (0 : Nat) ≤ _
    omega
  | k + 1, hk => by
    have ih := gtB_size zs h k (by omega)
    have hp := ptB_size (zs.getD k (0, 0, 0)) (by
      rw [List.getD_eq_getElem?_getD, List.getElem?_eq_getElem (by omega)]
      exact h _ (List.getElem_mem _))
    rw [gtB_succ, ByteArray.size_append]
    have h1 : (⟨#[32]⟩ : ByteArray).size = 1 := rfl
    split
    · rw [ByteArray.size_append]; omega
    · omega
end Go.Proofs.YtefhhigcplemaaaGreatDoor

/- Texts of graduations, in the model. -/
namespace Go.Proofs.YtefhhigcplemaaaGreatDoor
open Go.RowKit
set_option linter.unusedVariables false
set_option linter.unusedSimpArgs false

theorem gd_small {zs : List P3} (h : gd zs = true) : ∀ p ∈ zs, Small3 p := by
  intro p hp
  obtain ⟨a, ho, ha⟩ := gd_parts h p hp
  obtain ⟨e1, e2⟩ := prN_is ho
  obtain ⟨p1, p2, p3, p4, -⟩ := (ptOk_iff _ _).1 ho
  have hm := Int.mul_le_mul_of_nonneg_left (show (1 : Int) ≤ (prN p : Int) by omega) (show 0 ≤ p.2.2 by omega)
  rw [Int.mul_one] at hm
  exact ⟨(vl_iff _).2 (by omega), (vl_iff _).2 (by omega), (vl_iff _).2 (by omega)⟩
theorem gd_len {zs : List P3} (h : gd zs = true) : zs.length ≤ 12 := ((gd_iff zs).1 h).1.2
def gtS (zs : List P3) : ByteArray := if gd zs = true then gtB zs zs.length else ⟨#[]⟩

end Go.Proofs.YtefhhigcplemaaaGreatDoor
