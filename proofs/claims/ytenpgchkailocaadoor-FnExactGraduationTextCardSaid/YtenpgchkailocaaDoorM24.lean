/- Chapter 7: validity as the program asks it: no part's end is bounded until the last. -/
import Derived.Test.YtenpgchkailocaaDoorM23
namespace Go.Proofs.YtenpgchkailocaaDoor
set_option linter.unusedVariables false
set_option linter.unusedSimpArgs false

def dvd7 (p : Pt) : Bool := decide (1 ≤ p.2.2 ∧ (p.2.1 - p.1).tmod p.2.2 = 0)
theorem dvd7_iff (p : Pt) : dvd7 p = true ↔ (1 ≤ p.2.2 ∧ (p.2.1 - p.1).tmod p.2.2 = 0) := by unfold dvd7; simp
def ptJ (b : Int) (p : Pt) : Bool := decide (p.1 = b ∧ p.1 < p.2.1) && dvd7 p
theorem ptJ_iff (b : Int) (p : Pt) : ptJ b p = true ↔ (p.1 = b ∧ p.1 < p.2.1 ∧ dvd7 p = true) := by unfold ptJ; simp [and_assoc]
def gdJ : Int → List Pt → Option Int
  | a, [] => some a
  | a, p :: r => if ptJ a p = true then gdJ p.2.1 r else none
theorem gdJ_cons {a b : Int} {p : Pt} {r : List Pt} (h : gdJ a (p :: r) = some b) : ptJ a p = true ∧ gdJ p.2.1 r = some b := by
  unfold gdJ at h
  split at h
  · exact ⟨by assumption, h⟩
  · cases h
theorem gdJ_append : ∀ (l r : List Pt) (a : Int), gdJ a (l ++ r) = (gdJ a l).bind fun b => gdJ b r
  | [], r, a => rfl
  | p :: l, r, a => by
    have e : ∀ m : List Pt, gdJ a (p :: m) = if ptJ a p = true then gdJ p.2.1 m else none := fun m => rfl
    rw [List.cons_append, e, e]
    split
    · exact gdJ_append l r _
    · rfl
theorem gdJ_mono : ∀ (l : List Pt) (a b : Int), gdJ a l = some b → a ≤ b
  | [], a, b, h => by
    have : a = b := by simpa [gdJ] using h
    omega
  | p :: r, a, b, h => by
    obtain ⟨h1, h2⟩ := gdJ_cons h
    have hp := (ptJ_iff _ _).1 h1
    have := gdJ_mono r _ _ h2
    omega
theorem gdJ_gdE : ∀ (l : List Pt) (a : Int), gdJ a l = some 10000 ↔ gdE a l = some 10000
  | [], a => by simp [gdJ, gdE]
  | p :: r, a => by
    constructor
    · intro h
      obtain ⟨h1, h2⟩ := gdJ_cons h
      obtain ⟨q1, q2, q3⟩ := (ptJ_iff _ _).1 h1
      obtain ⟨q4, q5⟩ := (dvd7_iff _).1 q3
      have hm := gdJ_mono r _ _ h2
      have ho : ptOk a p = true := (ptOk_iff _ _).2 ⟨q1, by omega, hm, q4, q5⟩
      unfold gdE
      rw [if_pos ho]
      exact (gdJ_gdE r _).1 h2
    · intro h
      obtain ⟨h1, h2⟩ := gdE_cons h
      obtain ⟨q1, q2, q3, q4, q5⟩ := (ptOk_iff _ _).1 h1
      have ho : ptJ a p = true := (ptJ_iff _ _).2 ⟨q1, by omega, (dvd7_iff _).2 ⟨q4, q5⟩⟩
      unfold gdJ
      rw [if_pos ho]
      exact (gdJ_gdE r _).2 h2
theorem gd_J (zs : List Pt) : gd zs = (decide (zs.length ≤ 12) && decide (gdJ 1000 zs = some 10000)) := by
  cases zs with
  | nil => unfold gd; simp [gdJ]
  | cons p r =>
    unfold gd
    congr 1
    · simp
    · rw [decide_eq_decide]; exact (gdJ_gdE _ _).symm
theorem gdJ_take {zs : List Pt} {k : Nat} {p : Pt} (h : zs[k]? = some p) {a b : Int} (hb : gdJ a (zs.take k) = some b) :
    (ptJ b p = true → gdJ a (zs.take (k + 1)) = some p.2.1) ∧ (ptJ b p = false → gdJ a zs = none) := by
  obtain ⟨hk, e⟩ := List.getElem?_eq_some_iff.1 h
  have hs : gdJ a (zs.take (k + 1)) = if ptJ b p = true then some p.2.1 else none := by
    rw [List.take_succ_eq_append_getElem hk, e, gdJ_append, hb]
    rfl
  refine ⟨fun ho => by rw [hs, if_pos ho], fun ho => ?_⟩
  rw [ho] at hs
  have h2 := gdJ_append (zs.take (k + 1)) (zs.drop (k + 1)) a
  rw [List.take_append_drop, hs] at h2
  simpa using h2
/-- A part of a valid graduation: what lies ahead of it and behind it. -/
theorem gd_split {zs : List Pt} (h : gd zs = true) {k : Nat} {p : Pt} (hp : zs[k]? = some p) :
    ∃ a, gdE 1000 (zs.take k) = some a ∧ ptOk a p = true ∧ gdE p.2.1 (zs.drop (k + 1)) = some 10000 := by
  obtain ⟨-, h2⟩ := (gd_iff zs).1 h
  obtain ⟨hk, e⟩ := List.getElem?_eq_some_iff.1 hp
  have hs := gdE_append (zs.take k) (zs.drop k) 1000
  rw [List.take_append_drop, h2] at hs
  cases hb : gdE 1000 (zs.take k) with
  | none => rw [hb] at hs; cases hs
  | some a =>
    rw [hb, List.drop_eq_getElem_cons hk] at hs
    have hs2 : gdE a (zs[k] :: zs.drop (k + 1)) = some 10000 := hs.symm
    rw [e] at hs2
    obtain ⟨k1, k2⟩ := gdE_cons hs2
    exact ⟨a, rfl, k1, k2⟩
/-- A number within a part is a mark just if it is one of that part. -/
theorem isM_in {zs : List Pt} (h : gd zs = true) {k : Nat} {p : Pt} (hp : zs[k]? = some p) (n : Int) (h1 : p.1 ≤ n) (h2 : n < p.2.1) : isM zs n = decide ((n - p.1).tmod p.2.2 = 0) := by
  obtain ⟨a, e1, e2, e3⟩ := gd_split h hp
  obtain ⟨hk, e⟩ := List.getElem?_eq_some_iff.1 hp
  have f1 : isM (zs.take k) n = false := by
    cases q : isM (zs.take k) n with
    | false => rfl
    | true =>
      have := (mks_bd _ _ _ e1).2 n ((isM_mem _ _ _ e1 n).1 q)
      have := ((ptOk_iff _ _).1 e2).1
      omega
  have f2 : isM (zs.drop (k + 1)) n = false := by
    cases q : isM (zs.drop (k + 1)) n with
    | false => rfl
    | true =>
      have := (mks_bd _ _ _ e3).2 n ((isM_mem _ _ _ e3 n).1 q)
      omega
  have f3 : isM zs n = (isM (zs.take k) n || (prI n p || isM (zs.drop (k + 1)) n)) := by
    have e4 : zs = zs.take k ++ (p :: zs.drop (k + 1)) := by rw [← e, ← List.drop_eq_getElem_cons hk, List.take_append_drop]
    unfold isM
    conv => lhs; rw [e4]
    rw [List.any_append, List.any_cons]
  rw [f3, f1, f2, Bool.false_or, Bool.or_false]
  unfold prI
  rw [decide_eq_decide]
  omega
end Go.Proofs.YtenpgchkailocaaDoor
