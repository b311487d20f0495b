/- A region that draws its order and stores twice into a row of the call's own ('a[i], a[j] = x, y'): one walk (XLz). Terms stored as one step. -/
import Derived.Test.YtphebmbapllinaaDoorLw
import Derived.Test.YtphebmbapllinaaDoorCT
import Derived.Laws.IdiomCopy
namespace Go.Proofs.YtphebmbapllinaaDoor
open Go.RowKit
set_option linter.unusedVariables false
set_option linter.unusedSimpArgs false

/-- Three cells behind one another that can be written. -/
structure Has3 (w : World) (g o : Nat) : Prop where
  c0 : ∃ x, w.cell? ⟨g, o, none⟩ = some x
  c1 : ∃ x, w.cell? ⟨g, o + 1, none⟩ = some x
  c2 : ∃ x, w.cell? ⟨g, o + 2, none⟩ = some x
  fr : ∀ i, w.frozen? ⟨g, i, none⟩ = false
  lt : g < w.heap.size
def put3 (w : World) (g o : Nat) (x y z : Value) : World := ((w.setCell ⟨g, o, none⟩ x).setCell ⟨g, o + 1, none⟩ y).setCell ⟨g, o + 2, none⟩ z
def st3 (a : Addr) (x y z : Value) : Sem Unit := storeCells a [x, y, z] 0
theorem storeCells3 (a : Addr) (x y z : Value) : storeCells a [x, y, z] 0 = st3 a x y z := rfl
theorem Row.has3 {w : World} {g o : Nat} {T : TypeId} {vs : List Value} (h : Row w g T vs) (ho : o + 2 < vs.length) : Has3 w g o :=
  ⟨⟨_, (h.cell o).trans (List.getElem?_eq_getElem (by omega))⟩, ⟨_, (h.cell (o + 1)).trans (List.getElem?_eq_getElem (by omega))⟩, ⟨_, (h.cell (o + 2)).trans (List.getElem?_eq_getElem ho)⟩, fun i => h.free i, h.lt⟩
theorem Row.put3 {w : World} {g o : Nat} {T : TypeId} {vs : List Value} (h : Row w g T vs) (x y z : Value) : Row (put3 w g o x y z) g T (((vs.set o x).set (o + 1) y).set (o + 2) z) := ((h.set o x).set (o + 1) y).set (o + 2) z
theorem Below.put3 {u w : World} {B g o : Nat} (h : Below B u w) (hg : B ≤ g) (x y z : Value) : Below B u (put3 w g o x y z) :=
  ((h.setCell (p := ⟨g, o, none⟩) hg x).setCell (p := ⟨g, o + 1, none⟩) hg y).setCell (p := ⟨g, o + 2, none⟩) hg z
theorem Gx.put3 {u w : World} {g : Nat} (h : Gx g u w) (o : Nat) (x y z : Value) : Gx g u (put3 w g o x y z) := ((h.set o x).set (o + 1) y).set (o + 2) z
theorem put3_size (w : World) (g o : Nat) (x y z : Value) : (put3 w g o x y z).heap.size = w.heap.size := by simp [put3]
theorem put3_far {w : World} {g o k i : Nat} {x y z u : Value} (h : w.cell? ⟨k, i, none⟩ = some u) (hk : k ≠ g) : (put3 w g o x y z).cell? ⟨k, i, none⟩ = some u := Gx.cell ((Gx.of (Gr.refl w)).put3 o x y z) h hk
theorem run_st3 {P : Program} {w : World} {g o : Nat} (x y z : Value) (h : Has3 w g o) (hx : x.oneCell' = true) (hy : y.oneCell' = true) (hz : z.oneCell' = true) : (st3 ⟨g, o, none⟩ x y z).run P w = .ok () (put3 w g o x y z) := by
  have H := run_storeCells_cells (P := P) g o [x, y, z] 0 w (fun j hj => by
      have hj3 : j = 0 ∨ j = 1 ∨ j = 2 := by simp at hj; omega
      rcases hj3 with rfl | rfl | rfl
      · obtain ⟨u, hu⟩ := h.c0; simp [hu]
      · obtain ⟨u, hu⟩ := h.c1; simp [hu]
      · obtain ⟨u, hu⟩ := h.c2; simp [hu]) (fun j _ => h.fr _) (fun v hv => by
      rcases List.mem_cons.1 hv with rfl | hv
      · exact hx
      rcases List.mem_cons.1 hv with rfl | hv
      · exact hy
      rcases List.mem_cons.1 hv with rfl | hv
      · exact hz
      cases hv)
  exact H

/-- What the two stores do to the row; everything else only grows the world. -/
def rTwo (k1 k2 g : Nat) (T : TypeId) (f1 f2 : List Value → List Value) (j : Nat) (a b : World) : Prop :=
  if j = k1 then (Gx g a b ∧ ∀ vs, Row a g T vs → Row b g T (f1 vs)) else if j = k2 then (Gx g a b ∧ ∀ vs, Row a g T vs → Row b g T (f2 vs)) else Gr a b
theorem rTwo_1 (k1 k2 g : Nat) (T : TypeId) (f1 f2 : List Value → List Value) (a b : World) : rTwo k1 k2 g T f1 f2 k1 a b = (Gx g a b ∧ ∀ vs, Row a g T vs → Row b g T (f1 vs)) := if_pos rfl
theorem rTwo_2 {k1 k2 : Nat} (g : Nat) (T : TypeId) (f1 f2 : List Value → List Value) (h : k2 ≠ k1) (a b : World) : rTwo k1 k2 g T f1 f2 k2 a b = (Gx g a b ∧ ∀ vs, Row a g T vs → Row b g T (f2 vs)) := by unfold rTwo; rw [if_neg h, if_pos rfl]
theorem rTwo_ne {k1 k2 j : Nat} (g : Nat) (T : TypeId) (f1 f2 : List Value → List Value) (h1 : j ≠ k1) (h2 : j ≠ k2) (a b : World) : rTwo k1 k2 g T f1 f2 j a b = Gr a b := by unfold rTwo; rw [if_neg h1, if_neg h2]
def tsTwo (k1 k2 g : Nat) (T : TypeId) (v1 v2 : List Value) (L : List (Nat × Value)) : Nat → Option Tale := fun i => if i = k1 then some (fun _ _ w => Row w g T v1 ∨ Row w g T v2) else if i = k2 then some (fun _ _ w => Row w g T v2) else (L.lookup i).map (fun x _ v _ => v = x)
theorem steadies_two {C : World → Prop} {k1 k2 g : Nat} {T : TypeId} {f1 f2 : List Value → List Value} {v1 v2 : List Value} (L : List (Nat × Value)) (hk : k2 ≠ k1) (e12 : f2 v1 = v2) (e22 : f2 v2 = v2) (e21 : f1 v2 = v2) : Steadies C (rTwo k1 k2 g T f1 f2) (tsTwo k1 k2 g T v1 v2 L) := by
  intro i F hF j hji vs v w w' _ hr hf
  unfold tsTwo at hF
  by_cases hi : i = k1
  · subst hi
    rw [if_pos rfl] at hF
    simp only [Option.some.injEq] at hF
    subst hF
    by_cases hj : j = k2
    · subst hj
      rw [rTwo_2 g T f1 f2 hk] at hr
      rcases hf with hf | hf
      · exact .inr (e12 ▸ hr.2 _ hf)
      · exact .inr (by have := hr.2 _ hf; rwa [e22] at this)
    · rw [rTwo_ne g T f1 f2 hji hj] at hr
      exact hf.imp (fun h => h.gr hr) (fun h => h.gr hr)
  by_cases hi2 : i = k2
  · subst hi2
    rw [if_neg hk, if_pos rfl] at hF
    simp only [Option.some.injEq] at hF
    subst hF
    by_cases hj : j = k1
    · subst hj
      rw [rTwo_1] at hr
      have hf : Row w g T v2 := hf
      have := hr.2 _ hf
      rw [e21] at this
      exact this
    · rw [rTwo_ne g T f1 f2 hj hji] at hr
      exact Row.gr hf hr
  · rw [if_neg hi, if_neg hi2] at hF
    cases hl : L.lookup i with
    | none => rw [hl] at hF; simp at hF
    | some x =>
      rw [hl] at hF
      simp only [Option.map_some, Option.some.injEq] at hF
      subst hF
      exact hf
/-- The worlds of such a region: the row is as it was, or once written, or twice. -/
structure CTwo (g : Nat) (T : TypeId) (v0 v1 v2 : List Value) (w w' : World) : Prop where
  gx : Gx g w w'
  at' : ∃ vs, Row w' g T vs ∧ (vs = v0 ∨ vs = v1 ∨ vs = v2)
theorem region_two {P : Program} {id : Nat} {Q : Exit → Act → World → Prop} {a : Act} {w : World} {l : List Oper} (k1 k2 g : Nat) (T : TypeId) (f1 f2 : List Value → List Value) (v0 v1 v2 : List Value) (L : List (Nat × Value)) (hk : k2 ≠ k1) (e12 : f2 v1 = v2) (e22 : f2 v2 = v2) (e21 : f1 v2 = v2) (h0 : Row w g T v0) (hm : P.follows .mixedOrders = true) (hlex : Region.lexB .any l.toArray = true)
    (H : wpLoose P l.toArray .any (CTwo g T v0 v1 v2 w) (rTwo k1 k2 g T f1 f2) (tsTwo k1 k2 g T v1 v2 L) (fun Γ a' => ∀ w', CTwo g T v0 v1 v2 w w' → (∀ k, Γ k w') → Q .normal a' w') 0 l noneKnown a) : (Code.region id l.toArray true).wp P Q a w :=
  wp_region_loose (tsTwo k1 k2 g T v1 v2 L) hm hlex ⟨Gx.of (Gr.drew (Gr.refl w)), v0, h0, .inl rfl⟩ (steadies_two L hk e12 e22 e21) H
/-- Chains' cells, one term written. -/
theorem tcells_set (L : List Tm) (rest : List Value) (k : Nat) (m : Tm) (h : k < L.length) : (((tcells L ++ rest).set (k * 3) (vi m.1)).set (k * 3 + 1) (vi m.2.1)).set (k * 3 + 2) (.bool m.2.2) = tcells (L.set k m) ++ rest := by
  have hl : (tcells (L.take k)).length = k * 3 := by rw [tcells_len, List.length_take]; congr 1; omega
  have e1 : tcells L = tcells (L.take k) ++ (vi L[k].1 :: vi L[k].2.1 :: .bool L[k].2.2 :: tcells (L.drop (k + 1))) := by
    conv => lhs; rw [← List.take_append_drop k L, tcells_append, List.drop_eq_getElem_cons h]
    rfl
  have e2 : tcells (L.set k m) = tcells (L.take k) ++ (vi m.1 :: vi m.2.1 :: .bool m.2.2 :: tcells (L.drop (k + 1))) := by
    rw [List.set_eq_take_append_cons_drop, if_pos h, tcells_append]
    rfl
  rw [e1, e2, List.append_assoc, List.append_assoc, List.set_append_right _ _ (by omega), List.set_append_right _ _ (by omega), List.set_append_right _ _ (by omega), hl,
    show k * 3 - k * 3 = 0 by omega, show k * 3 + 1 - k * 3 = 1 by omega, show k * 3 + 2 - k * 3 = 2 by omega]
  rfl
end Go.Proofs.YtphebmbapllinaaDoor
