/- Contracts of chapter 13: lists of terms copied, two terms exchanged. -/
import Derived.Test.YtphebmbapllinaaDoorC13a
import Derived.Test.YtphebmbapllinaaDoorLs
import Derived.Test.YtphebmbapllinaaDoorLX
import Derived.Test.YtphebmbapllinaaDoorMH
import Derived.Lib.SliceRun
namespace Go.Proofs.YtphebmbapllinaaDoor
open Go.RowKit Go.Shelf Go.ChangeShapes Go.WideShapes Go.ChangeAt
set_option linter.unusedVariables false
set_option linter.unusedSimpArgs false

theorem info_term : (Tryd.prog.info? 45).map (fun i => (i.zero, i.size, i.bytes)) = some (some (.agg #[vi 0, vi 0, .bool false]), 3, 24) := by kernel_rfl
/-- Terms and a code are returned, the terms in memory of the call's own. -/
def LsT (r : List Tm × Int) (w : World) (e : Ending) (w' : World) : Prop := (∃ v, e = .returned (.tuple #[v, .int .i64 r.2]) ∧ LstG tcl 3 45 w' w.heap.size v r.1) ∧ Below w.heap.size w w'
theorem LsT.none {w w' : World} {cd : Int} {r : List Tm × Int} (h : Below w.heap.size w w') (e : r = ([], cd)) : LsT r w (.returned (.tuple #[.slice none 0 0, .int .i64 cd])) w' := by
  rw [e]
  exact ⟨⟨_, rfl, World.ownsRow_nil _ _ _ _⟩, h⟩
theorem news_of {w : World} {B : Nat} {ad : Addr} {vs : List Value} (hR : Reads w B (some ad) vs) : ∀ j u, vs[j]? = some u → w.cell? (ad.add j) = some u := by
  intro j u hj
  obtain ⟨hl, e⟩ := List.getElem?_eq_some_iff.1 hj
  obtain ⟨g, o, e2, -, h2⟩ := hR j hl
  injection e2 with e2
  subst e2
  rw [add_plain, h2, e]
theorem tone (cs : List Tm) : ∀ u ∈ tcells cs, u.oneCell' = true := by
  intro u hu
  unfold tcells at hu
  obtain ⟨m, -, hm⟩ := List.mem_flatMap.1 hu
  rcases List.mem_cons.1 hm with rfl | hm
  · rfl
  rcases List.mem_cons.1 hm with rfl | hm
  · rfl
  rcases List.mem_cons.1 hm with rfl | hm
  · rfl
  cases hm
theorem flat_tcl (cs : List Tm) : cs.flatMap tcl = tcells cs := rfl
/-- The reads of a list's row. -/
theorem LstG.readsT {T : TypeId} {w : World} {B g n cap : Nat} {xs : List Tm} (h : LstG tcl 3 T w B (.slice (some ⟨g, 0, none⟩) n cap) xs) : Reads w w.heap.size (some ⟨g, 0, none⟩) (tcells xs) := by
  obtain ⟨A, c, e, hr⟩ := LstG.slice h
  injection e with e1 e2 e3
  subst e1
  exact hr
/-- A row that begins with terms, as a list of the call's own. -/
theorem LstG.of_rowT {T : TypeId} {w : World} {B g n cap : Nat} {xs : List Tm} {rest : List Value} (hB : B ≤ g) (h : Row w g T (tcells xs ++ rest)) (hn : xs.length = n) (hc : cap ≤ maxLen) (h1 : n ≤ cap) (hl : n * 3 + rest.length = cap * 3) : LstG tcl 3 T w B (.slice (some ⟨g, 0, none⟩) n cap) xs := by
  subst hn
  exact LstG.of_row tcl_len hB h hc h1 hl
/-- What the stores do. -/
def stT (k : Nat) (m : Tm) (vs : List Value) : List Value := ((vs.set (k * 3) (vi m.1)).set (k * 3 + 1) (vi m.2.1)).set (k * 3 + 2) (.bool m.2.2)
theorem stT_set (L : List Tm) (rest : List Value) (k : Nat) (m : Tm) (h : k < L.length) : stT k m (tcells L ++ rest) = tcells (L.set k m) ++ rest := tcells_set L rest k m h
theorem ls_st1 {w wz w' : World} {k1 k2 g : Nat} {T : TypeId} {f1 f2 : List Value → List Value} {v0 v1 v2 : List Value} (hz : CTwo g T v0 v1 v2 w wz) (e01 : f1 v0 = v1) (e11 : f1 v1 = v1) (e21 : f1 v2 = v2) (hg : Gx g wz w') (hf : ∀ vs, Row wz g T vs → Row w' g T (f1 vs)) :
    CTwo g T v0 v1 v2 w w' ∧ rTwo k1 k2 g T f1 f2 k1 wz w' ∧ (Row w' g T v1 ∨ Row w' g T v2) := by
  obtain ⟨vs, hr, he⟩ := hz.at'
  have h := hf vs hr
  rw [rTwo_1]
  rcases he with rfl | rfl | rfl
  · rw [e01] at h; exact ⟨⟨hz.gx.trans hg, _, h, .inr (.inl rfl)⟩, ⟨hg, hf⟩, .inl h⟩
  · rw [e11] at h; exact ⟨⟨hz.gx.trans hg, _, h, .inr (.inl rfl)⟩, ⟨hg, hf⟩, .inl h⟩
  · rw [e21] at h; exact ⟨⟨hz.gx.trans hg, _, h, .inr (.inr rfl)⟩, ⟨hg, hf⟩, .inr h⟩
theorem ls_st2 {w wz w' : World} {k1 k2 g : Nat} {T : TypeId} {f1 f2 : List Value → List Value} {v0 v1 v2 : List Value} (hk : k2 ≠ k1) (hz : CTwo g T v0 v1 v2 w wz) (ha : Row wz g T v1 ∨ Row wz g T v2) (e12 : f2 v1 = v2) (e22 : f2 v2 = v2) (hg : Gx g wz w') (hf : ∀ vs, Row wz g T vs → Row w' g T (f2 vs)) :
    CTwo g T v0 v1 v2 w w' ∧ rTwo k1 k2 g T f1 f2 k2 wz w' ∧ Row w' g T v2 := by
  have h : Row w' g T v2 := by
    rcases ha with ha | ha
    · have := hf _ ha; rwa [e12] at this
    · have := hf _ ha; rwa [e22] at this
  rw [rTwo_2 g T f1 f2 hk]
  exact ⟨⟨hz.gx.trans hg, _, h, .inr (.inr rfl)⟩, ⟨hg, hf⟩, h⟩
theorem CTwo.has3 {g k : Nat} {T : TypeId} {v0 v1 v2 : List Value} {w wz : World} (hz : CTwo g T v0 v1 v2 w wz) (h0 : k + 2 < v0.length) (h1 : v1.length = v0.length) (h2 : v2.length = v0.length) : Has3 wz g k := by
  obtain ⟨vs, hr, he⟩ := hz.at'
  rcases he with rfl | rfl | rfl
  · exact hr.has3 h0
  · exact hr.has3 (by omega)
  · exact hr.has3 (by omega)
theorem set_self {cs : List Tm} {i : Nat} {x : Tm} (h : cs[i]? = some x) : cs.set i x = cs := by
  apply List.ext_getElem?
  intro k
  by_cases hk : i = k
  · subst hk
    obtain ⟨h1, -⟩ := List.getElem?_eq_some_iff.1 h
    rw [List.getElem?_set_self h1, h]
  · rw [List.getElem?_set_ne hk]
theorem sw_21 {cs : List Tm} {i j : Nat} {x y : Tm} (hi : cs[i]? = some x) (hj : cs[j]? = some y) : ((cs.set i y).set j x).set i y = (cs.set i y).set j x := by
  obtain ⟨h1, -⟩ := List.getElem?_eq_some_iff.1 hi
  refine set_self ?_
  by_cases h : i = j
  · subst h
    rw [hi] at hj
    injection hj with hj
    subst hj
    rw [List.getElem?_set_self (by simpa using h1)]
  · rw [List.getElem?_set_ne (fun e => h e.symm), List.getElem?_set_self h1]

section
attribute [local go_sem high] storeCells3
theorem own_rowT {W : World} {B : Nat} {T : TypeId} {v : Value} {n : Nat} {cs : List Tm} (hn : cs.length = n) (h : W.ownsRow B T 3 v (0 + n) ([] ++ tcells cs)) : LstG tcl 3 T W B v cs := by
  subst hn
  simpa [LstG, flat_tcl] using h
/-- The row of a list that is not empty. -/
theorem LstG.rowT {T : TypeId} {w : World} {B : Nat} {v : Value} {xs : List Tm} (h : LstG tcl 3 T w B v xs) (h0 : 0 < xs.length) :
    ∃ (g cap : Nat) (rest : List Value), v = .slice (some ⟨g, 0, none⟩) xs.length cap ∧ B ≤ g ∧ Row w g T (tcells xs ++ rest) ∧ xs.length ≤ cap ∧ cap ≤ maxLen ∧ xs.length * 3 + rest.length = cap * 3 := by
  rcases LstG.row h with ⟨-, e⟩ | r
  · rw [e] at h0; simp at h0
  · exact r
end
end Go.Proofs.YtphebmbapllinaaDoor
