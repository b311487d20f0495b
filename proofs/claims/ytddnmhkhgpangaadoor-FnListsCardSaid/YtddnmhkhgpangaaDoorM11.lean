/- Plain mathematics of lists read from texts: splitting at commas, numbers out of pieces. No program is imported here. -/
import Derived.Test.YtddnmhkhgpangaaDoorM04
import Derived.Lib.Split
import Derived.Lib.IndexBytes
namespace Go.Proofs.YtddnmhkhgpangaaDoor
set_option linter.unusedSimpArgs false
set_option linter.unusedVariables false

/-- The pieces between commas. -/
def spl : List UInt8 → List (List UInt8)
  | [] => [[]]
  | c :: r => if c = 44 then [] :: spl r else match spl r with
    | [] => [[c]]
    | p :: ps => (c :: p) :: ps
theorem spl_ne (l : List UInt8) : spl l ≠ [] := by
  cases l with
  | nil => simp [spl]
  | cons c r =>
    unfold spl
    split
    · simp
    · split <;> simp
theorem spl_comma (r : List UInt8) : spl (44 :: r) = [] :: spl r := by rw [spl, if_pos rfl]
theorem spl_else (c : UInt8) (r p : List UInt8) (ps : List (List UInt8)) (h : c ≠ 44) (e : spl r = p :: ps) : spl (c :: r) = (c :: p) :: ps := by rw [spl, if_neg h, e]
theorem spl_cut (a b : List UInt8) (ha : ∀ c ∈ a, c ≠ 44) : spl (a ++ 44 :: b) = a :: spl b := by
  induction a with
  | nil => exact spl_comma b
  | cons c a ih => exact spl_else c _ _ _ (ha c (by simp)) (ih fun x hx => ha x (by simp [hx]))
theorem spl_none (a : List UInt8) (ha : ∀ c ∈ a, c ≠ 44) : spl a = [a] := by
  induction a with
  | nil => rfl
  | cons c a ih => exact spl_else c _ _ _ (ha c (by simp)) (ih fun x hx => ha x (by simp [hx]))
/-- One byte more at the end. -/
theorem spl_snoc_comma (l : List UInt8) : spl (l ++ [44]) = spl l ++ [[]] := by
  induction l with
  | nil => rfl
  | cons c r ih =>
    by_cases h : c = 44
    · subst h; rw [List.cons_append, spl_comma, spl_comma, ih]; rfl
    · obtain ⟨p, ps, e⟩ := List.exists_cons_of_ne_nil (spl_ne r)
      rw [List.cons_append, spl_else c r p ps h e, spl_else c _ p (ps ++ [[]]) h (by rw [ih, e]; rfl)]; rfl
theorem spl_snoc (l : List UInt8) (x : UInt8) (hx : x ≠ 44) (qs : List (List UInt8)) (q : List UInt8) (e : spl l = qs ++ [q]) : spl (l ++ [x]) = qs ++ [q ++ [x]] := by
  induction l generalizing qs q with
  | nil =>
    have hq : qs = [] ∧ q = [] := by
      have : ([[]] : List (List UInt8)) = qs ++ [q] := e
      cases qs with
      | nil => simp at this; exact ⟨rfl, this⟩
      | cons a b => have := congrArg List.length this; simp at this
    rw [hq.1, hq.2]
    exact spl_none [x] (by simp [hx])
  | cons c r ih =>
    by_cases h : c = 44
    · subst h
      rw [spl_comma] at e
      cases qs with
      | nil =>
        have := congrArg List.length e
        simp at this
        exact absurd this (spl_ne r)
      | cons a b =>
        rw [List.cons_append] at e
        injection e with e1 e2
        rw [List.cons_append, spl_comma, ih b q e2, ← e1]; rfl
    · obtain ⟨p, ps, e'⟩ := List.exists_cons_of_ne_nil (spl_ne r)
      rw [spl_else c r p ps h e'] at e
      cases qs with
      | nil =>
        rw [List.nil_append] at e
        injection e with e1 e2
        subst e2 e1
        have := ih [] p (by rw [e']; rfl)
        rw [List.cons_append, spl_else c _ _ _ h (by rw [this]; rfl)]; rfl
      | cons a b =>
        rw [List.cons_append] at e
        injection e with e1 e2
        subst e2 e1
        have := ih (p :: b) q (by rw [e']; rfl)
        rw [List.cons_append, spl_else c _ _ _ h (by rw [this]; rfl)]; rfl

/-- Where the first comma is. -/
theorem ib_none (l : List UInt8) (h : Lib.indexByte l 44 = -1) : ∀ c ∈ l, c ≠ 44 := by
  induction l with
  | nil => simp
  | cons b r ih =>
    unfold Lib.indexByte at h
    split at h
    · omega
    · rename_i hb
      have hb' : b ≠ 44 := by simpa using hb
      split at h
      · rename_i h1
        intro c hc
        rcases List.mem_cons.1 hc with rfl | hc
        · exact hb'
        · exact ih (by simpa using h1) c hc
      · rename_i h1
        have := Lib.index_ge r [44]
        rw [Lib.index_one] at this
        have h1' : Lib.indexByte r 44 ≠ -1 := by simpa using h1
        omega
theorem ib_some (l : List UInt8) (i : Nat) (h : Lib.indexByte l 44 = i) : ∃ a b, l = a ++ 44 :: b ∧ a.length = i ∧ ∀ c ∈ a, c ≠ 44 := by
  induction l generalizing i with
  | nil => unfold Lib.indexByte at h; omega
  | cons b r ih =>
    unfold Lib.indexByte at h
    split at h
    · rename_i hb
      have hb' : b = 44 := by simpa using hb
      exact ⟨[], r, by rw [hb']; rfl, by simp; omega, by simp⟩
    · rename_i hb
      have hb' : b ≠ 44 := by simpa using hb
      split at h
      · omega
      · have := Lib.index_ge r [44]
        rw [Lib.index_one] at this
        obtain ⟨j, hj⟩ : ∃ j : Nat, Lib.indexByte r 44 = j := by
          rename_i h1
          have h1' : Lib.indexByte r 44 ≠ -1 := by simpa using h1
          exact ⟨(Lib.indexByte r 44).toNat, by omega⟩
        obtain ⟨a, c, e, hl, ha⟩ := ih j hj
        refine ⟨b :: a, c, by rw [e]; rfl, by simp; omega, ?_⟩
        intro x hx
        rcases List.mem_cons.1 hx with rfl | hx
        · exact hb'
        · exact ha x hx
/-- A split into at most k + 1 pieces: all pieces, or k + 1 of them. -/
theorem splitK_spl : ∀ (k : Nat) (l : List UInt8), ((spl l).length ≤ k + 1 → Lib.splitK [44] 0 k l = spl l) ∧ (k + 1 < (spl l).length → (Lib.splitK [44] 0 k l).length = k + 1)
  | 0, l => by
    refine ⟨fun h => ?_, fun _ => rfl⟩
    have hi := Lib.index_ge l [44]
    rw [Lib.index_one] at hi
    by_cases hm : Lib.indexByte l 44 = -1
    · rw [spl_none l (ib_none l hm)]; rfl
    · obtain ⟨a, b, e, -, ha⟩ := ib_some l (Lib.indexByte l 44).toNat (by omega)
      rw [e, spl_cut a b ha, List.length_cons] at h
      have := List.length_pos_iff.2 (spl_ne b)
      omega
  | k + 1, l => by
    have hi := Lib.index_ge l [44]
    rw [Lib.index_one] at hi
    unfold Lib.splitK
    rw [Lib.index_one]
    by_cases hm : Lib.indexByte l 44 = -1
    · rw [if_pos (by rw [hm]; rfl), spl_none l (ib_none l hm)]
      exact ⟨fun _ => rfl, fun h => by simp at h⟩
    · rw [if_neg (by simpa using hm)]
      obtain ⟨a, b, e, hl, ha⟩ := ib_some l (Lib.indexByte l 44).toNat (by omega)
      generalize (Lib.indexByte l 44).toNat = i at *
      subst hl
      have e1 : l.take (a.length + 0) = a := by rw [e]; simp
      have e2 : l.drop (a.length + 1) = b := by rw [e]; simp
      show (_ → l.take (a.length + 0) :: Lib.splitK [44] 0 k (l.drop (a.length + 1)) = spl l) ∧ (_ → (l.take (a.length + 0) :: Lib.splitK [44] 0 k (l.drop (a.length + 1))).length = k + 1 + 1)
      rw [e1, e2, e, spl_cut a b ha]
      obtain ⟨ih1, ih2⟩ := splitK_spl k b
      constructor
      · intro h
        rw [ih1 (by simp at h; omega)]
      · intro h
        rw [List.length_cons, ih2 (by simp at h; omega)]
theorem spl_length (l : List UInt8) : (spl l).length ≤ l.length + 1 := by
  induction l with
  | nil => simp [spl]
  | cons c r ih =>
    by_cases h : c = 44
    · subst h; rw [spl_comma]; simp; omega
    · obtain ⟨p, ps, e⟩ := List.exists_cons_of_ne_nil (spl_ne r)
      rw [spl_else c r p ps h e]
      rw [e] at ih
      simp at ih ⊢
      omega
theorem spl_size (l : List UInt8) : ∀ p ∈ spl l, p.length ≤ l.length := by
  induction l with
  | nil => simp [spl]
  | cons c r ih =>
    by_cases h : c = 44
    · subst h; rw [spl_comma]
      intro p hp
      rcases List.mem_cons.1 hp with rfl | hp
      · simp
      · have := ih p hp; simp; omega
    · obtain ⟨p, ps, e⟩ := List.exists_cons_of_ne_nil (spl_ne r)
      rw [spl_else c r p ps h e]
      rw [e] at ih
      intro q hq
      rcases List.mem_cons.1 hq with rfl | hq
      · have := ih p (by simp); simp; omega
      · have := ih q (by simp [hq]); simp; omega
/-- Numbers out of pieces: all, or none. -/
def numR (f : List UInt8 → Int × Bool) (ws : List (List UInt8)) : Option (List Int) := if ws.all (fun x => (f x).2) = true then some (ws.map fun x => (f x).1) else none
def allV (zs : List Int) : Bool := zs.all vl
/-- What the program and the model read. -/
def rlI (l : List UInt8) : Option (List Int) := if l = [45] then some [] else if 100 < (spl l).length then none else numR rvI (spl l)
def rlS (l : List UInt8) : Option (List Int) := if l = [45] then some [] else match numR rds (spl l) with
  | none => none
  | some zs => if (allV zs && decide ((zs.length : Int) ≤ 100)) = true then some zs else none
theorem rv_rds (w : List UInt8) : ((rvI w).2 = true ↔ ((rds w).2 = true ∧ vl (rds w).1 = true)) ∧ ((rvI w).2 = true → (rvI w).1 = (rds w).1) := by
  have h1 : (rvI w).2 = true → (rds w).2 = true ∧ vl (rds w).1 = true ∧ (rvI w).1 = (rds w).1 := by
    intro h
    have e : rvI w = ((rvI w).1, true) := by rw [← h]
    obtain ⟨a, b⟩ := (rvI_iff w _).1 e
    have hv := (vl_iff _).1 a
    have hr : rds w = ((rvI w).1, true) := (rds_true w _).2 ⟨by omega, by omega, b⟩
    rw [hr]
    exact ⟨rfl, a, rfl⟩
  refine ⟨⟨fun h => ⟨(h1 h).1, (h1 h).2.1⟩, fun ⟨h, hv⟩ => ?_⟩, fun h => (h1 h).2.2⟩
  have e : rds w = ((rds w).1, true) := by rw [← h]
  obtain ⟨-, -, b⟩ := (rds_true w _).1 e
  rw [(rvI_iff w _).2 ⟨hv, b⟩]
theorem rl_same (l : List UInt8) : rlI l = rlS l := by
  unfold rlI rlS
  by_cases h0 : l = [45]
  · rw [if_pos h0, if_pos h0]
  rw [if_neg h0, if_neg h0]
  generalize spl l = ws
  unfold numR
  by_cases hs : ws.all (fun x => (rds x).2) = true
  · rw [if_pos hs]
    simp only
    have hm : (ws.map fun x => (rds x).1).length = ws.length := List.length_map _
    rw [hm]
    by_cases hl : 100 < ws.length
    · rw [if_pos hl, if_neg (by rw [decide_eq_false (by omega)]; simp)]
    · rw [if_neg hl, decide_eq_true (by omega), Bool.and_true]
      by_cases hv : allV (ws.map fun x => (rds x).1) = true
      · rw [if_pos hv]
        have ha : ∀ x ∈ ws, (rvI x).2 = true := by
          intro x hx
          unfold allV at hv
          rw [List.all_eq_true] at hv hs
          exact (rv_rds x).1.2 ⟨hs x hx, hv _ (List.mem_map.2 ⟨x, hx, rfl⟩)⟩
        rw [if_pos (List.all_eq_true.2 ha)]
        congr 1
        exact List.map_congr_left fun x hx => (rv_rds x).2 (ha x hx)
      · rw [if_neg hv, if_neg]
        intro hc
        apply hv
        unfold allV
        rw [List.all_eq_true] at hc ⊢
        intro z hz
        obtain ⟨x, hx, rfl⟩ := List.mem_map.1 hz
        exact ((rv_rds x).1.1 (hc x hx)).2
  · rw [if_neg hs]
    simp only
    split
    · rfl
    · rw [if_neg]
      intro hc
      apply hs
      rw [List.all_eq_true] at hc ⊢
      exact fun x hx => ((rv_rds x).1.1 (hc x hx)).1
end Go.Proofs.YtddnmhkhgpangaaDoor
