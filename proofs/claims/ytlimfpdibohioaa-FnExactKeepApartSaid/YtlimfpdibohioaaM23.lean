/- Chapter 7: the least distance of marks, the finest step, chosen graduations; the marks in a range. -/
import Derived.Test.YtlimfpdibohioaaM22
namespace Go.Proofs.Ytlimfpdibohioaa
set_option linter.unusedVariables false
set_option linter.unusedSimpArgs false

/-- The middle of the place of a mark. -/
def mdl (s l n : Int) : Int := ((pl s n 0 l).1 + (pl s n 0 l).2).fdiv 2
def cnts (s a b : Int) : Bool := !decide (s = 4 ∧ a ≤ 3142 ∧ 3142 < b)
def dst (s l a b : Int) : Int := ((mdl s l b - mdl s l a).natAbs : Int)
theorem dst_nn (s l a b : Int) : 0 ≤ dst s l a b := by unfold dst; omega
/-- The least distance so far, the mark before, the marks that follow. -/
def ldS (s l : Int) : Int → Int → List Int → Int
  | m, _, [] => m
  | m, a, b :: r => ldS s l (if cnts s a b = true ∧ (m < 0 ∨ dst s l a b < m) then dst s l a b else m) b r
def ldM (s l : Int) : List Int → Int
  | [] => -1
  | a :: r => ldS s l (-1) a r
theorem ldS_ge (s l : Int) : ∀ (r : List Int) (m a : Int), -1 ≤ m → -1 ≤ ldS s l m a r
  | [], m, a, h => h
  | b :: r, m, a, h => by
    unfold ldS
    refine ldS_ge s l r _ b ?_
    have := dst_nn s l a b
    split <;> omega
theorem ldM_ge (s l : Int) (ms : List Int) : -1 ≤ ldM s l ms := by
  cases ms with
  | nil => simp [ldM]
  | cons a r => exact ldS_ge s l r _ a (by omega)
def ldR (s l : Int) (g : List Pt) : Int × Int :=
  if gd g = false then (0, 1) else if (sc s && ln l) = false then (0, 2) else if ldM s l (mks g) < 0 then (0, 4) else (ldM s l (mks g), 0)
theorem ldR_in (s l : Int) (g : List Pt) (h : gd g = false) : ldR s l g = (0, 1) := if_pos h
theorem ldR_rg (s l : Int) (g : List Pt) (h : gd g = true) (h1 : (sc s && ln l) = false) : ldR s l g = (0, 2) := by unfold ldR; rw [if_neg (by rw [h]; simp), if_pos h1]
theorem ldR_no (s l : Int) (g : List Pt) (h : gd g = true) (h1 : (sc s && ln l) = true) (h2 : ldM s l (mks g) < 0) : ldR s l g = (0, 4) := by unfold ldR; rw [if_neg (by rw [h]; simp), if_neg (by rw [h1]; simp), if_pos h2]
theorem ldR_ok (s l : Int) (g : List Pt) (h : gd g = true) (h1 : (sc s && ln l) = true) (h2 : ¬ ldM s l (mks g) < 0) : ldR s l g = (ldM s l (mks g), 0) := by unfold ldR; rw [if_neg (by rw [h]; simp), if_neg (by rw [h1]; simp), if_neg h2]
theorem ldR_nn (s l : Int) (g : List Pt) (h : (ldR s l g).2 = 0) : 0 ≤ (ldR s l g).1 := by
  unfold ldR at *
  split at h
  · cases h
  split at h
  · cases h
  split at h
  · cases h
  rename_i h1 h2 h3
  rw [if_neg h1, if_neg h2, if_neg h3]
  simp only; omega

/-- The usual steps. -/
def usual : List Int := [1, 2, 5, 10, 20, 50, 100, 200, 500]
def stOk (s l f t lim st : Int) : Bool := decide ((t - f).tmod st = 0) && decide (ldM s l (prM (f, t, st)) < 0 ∨ lim ≤ ldM s l (prM (f, t, st)))
def fnS (s l f t lim : Int) : Int := (usual.find? (stOk s l f t lim)).getD 0
def okF (s l f t lim : Int) : Bool := (sc s && ln l) && decide ((1000 ≤ f ∧ f ≤ t - 1) ∧ (1000 ≤ t ∧ t ≤ 10000) ∧ (0 ≤ lim ∧ lim ≤ 100000))
def fnR (s l f t lim : Int) : Int × Int := if okF s l f t lim = false then (0, 2) else if fnS s l f t lim = 0 then (0, 4) else (fnS s l f t lim, 0)
theorem fnR_rg (s l f t lim : Int) (h : okF s l f t lim = false) : fnR s l f t lim = (0, 2) := if_pos h
theorem fnR_no (s l f t lim : Int) (h : okF s l f t lim = true) (h1 : fnS s l f t lim = 0) : fnR s l f t lim = (0, 4) := by unfold fnR; rw [if_neg (by rw [h]; simp), if_pos h1]
theorem fnR_ok (s l f t lim : Int) (h : okF s l f t lim = true) (h1 : fnS s l f t lim ≠ 0) : fnR s l f t lim = (fnS s l f t lim, 0) := by unfold fnR; rw [if_neg (by rw [h]; simp), if_neg h1]
theorem usual_pos : ∀ x ∈ usual, 1 ≤ x ∧ x ≤ 500 := by decide
theorem usual_sorted : usual.Pairwise (· < ·) := by decide
theorem fnS_facts (s l f t lim : Int) (h : fnS s l f t lim ≠ 0) : usual.find? (stOk s l f t lim) = some (fnS s l f t lim) ∧ (1 ≤ fnS s l f t lim ∧ fnS s l f t lim ≤ 500) ∧ (t - f).tmod (fnS s l f t lim) = 0 := by
  unfold fnS at *
  cases hf : usual.find? (stOk s l f t lim) with
  | none => rw [hf] at h; exact absurd rfl h
  | some x =>
    have h1 := List.find?_some hf
    have h2 := List.mem_of_find?_eq_some hf
    refine ⟨rfl, usual_pos x h2, ?_⟩
    unfold stOk at h1
    rw [Bool.and_eq_true] at h1
    exact of_decide_eq_true h1.1
/-- The first one of a growing list: a weaker condition finds one that is not greater. -/
theorem find_weaker {p q : Int → Bool} (h : ∀ x, p x = true → q x = true) : ∀ (l : List Int), l.Pairwise (· < ·) → ∀ x, l.find? p = some x → ∃ y, l.find? q = some y ∧ y ≤ x
  | [], _, x, hx => by simp at hx
  | a :: r, hs, x, hx => by
    obtain ⟨h1, h2⟩ := List.pairwise_cons.1 hs
    rw [List.find?_cons] at hx
    rw [List.find?_cons]
    cases hq : q a
    · cases hp : p a
      · rw [hp] at hx
        exact find_weaker h r h2 x hx
      · rw [h a hp] at hq; cases hq
    · refine ⟨a, rfl, ?_⟩
      cases hp : p a
      · rw [hp] at hx
        exact Int.le_of_lt (h1 x (List.mem_of_find?_eq_some hx))
      · rw [hp] at hx
        injection hx with hx
        omega
/-- With a smaller limit the step is no greater. -/
theorem fnS_less (s l f t lim lim' : Int) (h : fnS s l f t lim ≠ 0) (hl : lim' ≤ lim) : fnS s l f t lim' ≠ 0 ∧ fnS s l f t lim' ≤ fnS s l f t lim := by
  obtain ⟨h1, -, -⟩ := fnS_facts s l f t lim h
  obtain ⟨y, hy, hle⟩ := find_weaker (p := stOk s l f t lim) (q := stOk s l f t lim') (fun x hx => by
    unfold stOk at *
    rw [Bool.and_eq_true] at *
    refine ⟨hx.1, decide_eq_true ?_⟩
    rcases of_decide_eq_true hx.2 with h | h
    · exact .inl h
    · exact .inr (by omega)) usual usual_sorted _ h1
  have e : fnS s l f t lim' = y := by unfold fnS; rw [hy]; rfl
  rw [e]
  exact ⟨by have := usual_pos y (List.mem_of_find?_eq_some hy); omega, hle⟩

/-- The chosen graduation. -/
def chG (s l lim : Int) : List Pt := [(1000, 2000, fnS s l 1000 2000 lim), (2000, 5000, fnS s l 2000 5000 lim), (5000, 10000, fnS s l 5000 10000 lim)]
def okC (s l lim : Int) : Bool := (sc s && ln l) && decide (0 ≤ lim ∧ lim ≤ 100000)
def chC (s l lim : Int) : Int := if okC s l lim = false then 2 else if fnS s l 1000 2000 lim = 0 ∨ fnS s l 2000 5000 lim = 0 ∨ fnS s l 5000 10000 lim = 0 then 4 else 0
theorem chC_ok {s l lim : Int} (h : chC s l lim = 0) : okC s l lim = true ∧ fnS s l 1000 2000 lim ≠ 0 ∧ fnS s l 2000 5000 lim ≠ 0 ∧ fnS s l 5000 10000 lim ≠ 0 := by
  unfold chC at h
  split at h
  · omega
  split at h
  · omega
  rename_i h1 h2
  exact ⟨by simpa using h1, fun e => h2 (.inl e), fun e => h2 (.inr (.inl e)), fun e => h2 (.inr (.inr e))⟩
/-- It is valid. -/
theorem chG_gd {s l lim : Int} (h : chC s l lim = 0) : gd (chG s l lim) = true := by
  obtain ⟨-, h1, h2, h3⟩ := chC_ok h
  obtain ⟨-, a1, a2⟩ := fnS_facts _ _ _ _ _ h1
  obtain ⟨-, b1, b2⟩ := fnS_facts _ _ _ _ _ h2
  obtain ⟨-, c1, c2⟩ := fnS_facts _ _ _ _ _ h3
  refine (gd_iff _).2 ⟨by simp [chG], ?_⟩
  unfold chG gdE gdE gdE gdE
  generalize fnS s l 1000 2000 lim = x at *
  generalize fnS s l 2000 5000 lim = y at *
  generalize fnS s l 5000 10000 lim = z at *
  have p1 : ptOk 1000 (1000, 2000, x) = true := (ptOk_iff _ _).2 ⟨rfl, (by decide : (1000 : Int) + 1 ≤ 2000), (by decide : (2000 : Int) ≤ 10000), a1.1, a2⟩
  have p2 : ptOk 2000 (2000, 5000, y) = true := (ptOk_iff _ _).2 ⟨rfl, (by decide : (2000 : Int) + 1 ≤ 5000), (by decide : (5000 : Int) ≤ 10000), b1.1, b2⟩
  have p3 : ptOk 5000 (5000, 10000, z) = true := (ptOk_iff _ _).2 ⟨rfl, (by decide : (5000 : Int) + 1 ≤ 10000), (by decide : (10000 : Int) ≤ 10000), c1.1, c2⟩
  rw [if_pos p1, if_pos p2, if_pos p3]
/-- Its parts' steps are the finest ones, and with half of the limit they are no greater. -/
theorem chG_steps {s l lim : Int} (h : chC s l lim = 0) (f t : Int) (hft : (f = 1000 ∧ t = 2000) ∨ (f = 2000 ∧ t = 5000) ∨ (f = 5000 ∧ t = 10000)) :
    fnR s l f t lim = (fnS s l f t lim, 0) ∧ ∃ y, fnR s l f t (lim.tdiv 2) = (y, 0) ∧ y ≤ fnS s l f t lim := by
  obtain ⟨h0, h1, h2, h3⟩ := chC_ok h
  unfold okC at h0
  rw [Bool.and_eq_true] at h0
  obtain ⟨hs, hl⟩ := h0
  have hl := of_decide_eq_true hl
  have hd : 0 ≤ lim.tdiv 2 ∧ lim.tdiv 2 ≤ lim := by
    rw [Int.tdiv_eq_ediv_of_nonneg hl.1]
    exact ⟨Int.ediv_nonneg hl.1 (by decide), Int.ediv_le_self _ hl.1⟩
  have hne : fnS s l f t lim ≠ 0 := by
    rcases hft with ⟨rfl, rfl⟩ | ⟨rfl, rfl⟩ | ⟨rfl, rfl⟩
    · exact h1
    · exact h2
    · exact h3
  obtain ⟨k1, k2⟩ := fnS_less s l f t lim (lim.tdiv 2) hne hd.2
  have ok : ∀ m, 0 ≤ m → m ≤ 100000 → okF s l f t m = true := fun m m1 m2 => by
    unfold okF
    rw [hs, Bool.true_and]
    refine decide_eq_true ?_
    omega
  exact ⟨fnR_ok _ _ _ _ _ (ok lim hl.1 hl.2) hne, _, fnR_ok _ _ _ _ _ (ok _ hd.1 (Int.le_trans hd.2 hl.2)) k1, k2⟩

/-- The marks in a range. -/
def inR (f t n : Int) : Bool := decide (f ≤ n ∧ n ≤ t)
def mrL (g : List Pt) (f t : Int) : List Int := (mks g).filter (inR f t)
def mrC (g : List Pt) (f t : Int) : Int := if gd g = false then 1 else if inR 1000 9999 f = false ∨ inR 1000 9999 t = false then 2 else if 200 < (mrL g f t).length then 3 else 0
theorem mrL_facts (g : List Pt) (f t : Int) (h : gd g = true) : (mrL g f t).Pairwise (· < ·) ∧ ∀ n ∈ mrL g f t, isM g n = true ∧ f ≤ n ∧ n ≤ t := by
  obtain ⟨-, h2⟩ := (gd_iff g).1 h
  refine ⟨(mks_sorted g _ _ h2).filter _, fun n hn => ?_⟩
  obtain ⟨h3, h4⟩ := List.mem_filter.1 hn
  exact ⟨(isM_mem g _ _ h2 n).2 h3, of_decide_eq_true h4⟩
theorem mrL_all (g : List Pt) (h : gd g = true) : mrL g 1000 9999 = mks g := by
  obtain ⟨-, h2⟩ := (gd_iff g).1 h
  refine List.filter_eq_self.2 (fun n hn => ?_)
  have := (mks_bd g _ _ h2).2 n hn
  exact decide_eq_true (by omega)
/-- As many marks as counted. -/
theorem mr_count (g : List Pt) (h : gd g = true) (hc : cntM g ≤ 200) : mrC g 1000 9999 = 0 ∧ ((mrL g 1000 9999).length : Int) = cntM g := by
  obtain ⟨-, h2⟩ := (gd_iff g).1 h
  have hl := (cntM_len g _ _ h2).1
  rw [mrL_all g h]
  refine ⟨?_, hl.symm⟩
  unfold mrC
  rw [if_neg (by rw [h]; simp), if_neg (by decide), mrL_all g h, if_neg (by omega)]
end Go.Proofs.Ytlimfpdibohioaa
