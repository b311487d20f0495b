/- Plain mathematics, merged. -/
import Derived.Test.YtphebmbapllinaaDoorMB
/- Plain mathematics of chapter 13: chains of terms. No program is imported here. -/
namespace Go.Proofs.YtphebmbapllinaaDoor
set_option linter.unusedSimpArgs false
set_option linter.unusedVariables false

/-- A term: its figure, and whether it divides. -/
abbrev Tm : Type := Int × Int × Bool
def tmF (m : Tm) : Bool := fg m.1 m.2.1
/-- The first term divides. -/
def tm0 (cs : List Tm) : Bool := match cs with
  | [] => false
  | m :: _ => m.2.2
def chnB (cs : List Tm) : Bool := decide (1 ≤ cs.length ∧ cs.length ≤ 6) && (!tm0 cs && cs.all tmF)
theorem chnB_iff (cs : List Tm) : chnB cs = true ↔ (1 ≤ cs.length ∧ cs.length ≤ 6) ∧ tm0 cs = false ∧ cs.all tmF = true := by
  unfold chnB
  rw [Bool.and_eq_true, Bool.and_eq_true, decide_eq_true_eq, Bool.not_eq_true']
theorem chnB_len {cs : List Tm} (h : ¬ (1 ≤ cs.length ∧ cs.length ≤ 6)) : chnB cs = false := by
  unfold chnB; rw [decide_eq_false h]; rfl
theorem chnB_div {cs : List Tm} (h : tm0 cs = true) : chnB cs = false := by
  unfold chnB; rw [h]; simp
theorem chnB_bad {cs : List Tm} {i : Nat} {m : Tm} (h : cs[i]? = some m) (hb : tmF m = false) : chnB cs = false := by
  unfold chnB
  have : cs.all tmF = false := by rw [List.all_eq_false]; exact ⟨m, List.mem_of_getElem? h, by rw [hb]; simp⟩
  rw [this]; simp
theorem chnB_tf (cs : List Tm) : chnB cs = true ∨ chnB cs = false := by cases chnB cs <;> simp
theorem chnB_fg {cs : List Tm} (h : chnB cs = true) {i : Nat} {m : Tm} (hm : cs[i]? = some m) : fg m.1 m.2.1 = true := List.all_eq_true.1 ((chnB_iff cs).1 h).2.2 m (List.mem_of_getElem? hm)

/-- A term is added to a logarithm. -/
def tmA (s : Int × Int) (m : Tm) : Int × Int := if m.2.2 = true then (s.1 - (flg m.1 m.2.1).2, s.2 - (flg m.1 m.2.1).1) else (s.1 + (flg m.1 m.2.1).1, s.2 + (flg m.1 m.2.1).2)
theorem tmA_div (s : Int × Int) (d t : Int) : tmA s (d, t, true) = (s.1 - (flg d t).2, s.2 - (flg d t).1) := if_pos rfl
theorem tmA_mul (s : Int × Int) (d t : Int) : tmA s (d, t, false) = (s.1 + (flg d t).1, s.2 + (flg d t).2) := if_neg (by simp)
def chLg (cs : List Tm) : Int × Int := cs.foldl tmA (0, 0)
theorem chLg_nil : chLg [] = (0, 0) := rfl
theorem chLg_snoc (cs : List Tm) (m : Tm) : chLg (cs ++ [m]) = tmA (chLg cs) m := by unfold chLg; rw [List.foldl_append]; rfl
theorem chLg_take {cs : List Tm} {k : Nat} {m : Tm} (h : cs[k]? = some m) : chLg (cs.take (k + 1)) = tmA (chLg (cs.take k)) m := by
  obtain ⟨h1, e⟩ := List.getElem?_eq_some_iff.1 h
  rw [List.take_succ_eq_append_getElem h1, e, chLg_snoc]
theorem chLg_one (d t : Int) : chLg [(d, t, false)] = flg d t := by
  show tmA (0, 0) (d, t, false) = _
  rw [tmA_mul]
  simp
theorem tmA_bd {s : Int × Int} {m : Tm} (h : fg m.1 m.2.1 = true) {B : Int} (h1 : -B ≤ s.1 ∧ s.1 ≤ B) (h2 : -B ≤ s.2 ∧ s.2 ≤ B) : (-(B + 40000000) ≤ (tmA s m).1 ∧ (tmA s m).1 ≤ B + 40000000) ∧ (-(B + 40000000) ≤ (tmA s m).2 ∧ (tmA s m).2 ≤ B + 40000000) := by
  have := flg_bd m.1 m.2.1 h
  obtain ⟨d, t, b⟩ := m
  cases b
  · rw [tmA_mul]; simp only at *; omega
  · rw [tmA_div]; simp only at *; omega
theorem chLg_bd (cs : List Tm) (h : cs.all tmF = true) : (-(40000000 * cs.length) ≤ (chLg cs).1 ∧ (chLg cs).1 ≤ 40000000 * cs.length) ∧ (-(40000000 * cs.length) ≤ (chLg cs).2 ∧ (chLg cs).2 ≤ 40000000 * cs.length) := by
  have go : ∀ (cs : List Tm), (∀ m ∈ cs, tmF m = true) → ∀ (s : Int × Int) (B : Int), (-B ≤ s.1 ∧ s.1 ≤ B) → (-B ≤ s.2 ∧ s.2 ≤ B) → (-(B + 40000000 * cs.length) ≤ (cs.foldl tmA s).1 ∧ (cs.foldl tmA s).1 ≤ B + 40000000 * cs.length) ∧ (-(B + 40000000 * cs.length) ≤ (cs.foldl tmA s).2 ∧ (cs.foldl tmA s).2 ≤ B + 40000000 * cs.length) := by
    intro cs
    induction cs with
    | nil => intro _ s B h1 h2; simp only [List.foldl_nil, List.length_nil]; omega
    | cons m r ih =>
      intro hm s B h1 h2
      obtain ⟨a1, a2⟩ := tmA_bd (m := m) (hm m (by simp)) h1 h2
      have := ih (fun x hx => hm x (by simp [hx])) _ _ a1 a2
      rw [List.foldl_cons, List.length_cons]
      omega
  have := go cs (fun m hm => List.all_eq_true.1 h m hm) (0, 0) 0 (by omega) (by omega)
  unfold chLg
  omega
theorem all_take {α : Type} {f : α → Bool} {cs : List α} (h : cs.all f = true) (k : Nat) : (cs.take k).all f = true := by
  rw [List.all_eq_true] at *
  exact fun x hx => h x (List.mem_of_mem_take hx)
theorem chLg_bdt {cs : List Tm} (h : chnB cs = true) (k : Nat) : (-240000000 ≤ (chLg (cs.take k)).1 ∧ (chLg (cs.take k)).1 ≤ 240000000) ∧ (-240000000 ≤ (chLg (cs.take k)).2 ∧ (chLg (cs.take k)).2 ≤ 240000000) := by
  obtain ⟨⟨h1, h2⟩, -, h3⟩ := (chnB_iff cs).1 h
  have := chLg_bd (cs.take k) (all_take h3 k)
  have hl : (cs.take k).length ≤ 6 := by rw [List.length_take]; omega
  omega
def clR (cs : List Tm) : (Int × Int) × Int := if chnB cs = true then (chLg cs, 0) else ((0, 0), 1)
theorem clR_ok {cs : List Tm} (h : chnB cs = true) : clR cs = (chLg cs, 0) := if_pos h
theorem clR_no {cs : List Tm} (h : chnB cs = false) : clR cs = ((0, 0), 1) := if_neg (by rw [h]; simp)
/-- The lower bound is not above the upper one. -/
theorem chLg_le (cs : List Tm) (h : cs.all tmF = true) : (chLg cs).1 ≤ (chLg cs).2 := by
  have go : ∀ (cs : List Tm), (∀ m ∈ cs, tmF m = true) → ∀ (s : Int × Int), s.1 ≤ s.2 → (cs.foldl tmA s).1 ≤ (cs.foldl tmA s).2 := by
    intro cs
    induction cs with
    | nil => intro _ s h1; exact h1
    | cons m r ih =>
      intro hm s h1
      rw [List.foldl_cons]
      refine ih (fun x hx => hm x (by simp [hx])) _ ?_
      have h2 := flg_width m.1 m.2.1 (hm m (by simp))
      obtain ⟨d, t, b⟩ := m
      cases b
      · rw [tmA_mul]; simp only at *; omega
      · rw [tmA_div]; simp only at *; omega
  exact go cs (fun m hm => List.all_eq_true.1 h m hm) (0, 0) (Int.le_refl _)
def csR13 (cs : List Tm) : Sp := if chnB cs = true then spU (chLg cs).1 (chLg cs).2 else ⟨0, 0, 0, 0, 1⟩
theorem csR13_ok {cs : List Tm} (h : chnB cs = true) : csR13 cs = spU (chLg cs).1 (chLg cs).2 := if_pos h
theorem csR13_no {cs : List Tm} (h : chnB cs = false) : csR13 cs = ⟨0, 0, 0, 0, 1⟩ := if_neg (by rw [h]; simp)

/-- A term is applied to a figure. -/
def tmX (f : Int × Int) (m : Tm) : (Int × Int) × Int := if m.2.2 = true then diR f.1 f.2 m.1 m.2.1 else muR f.1 f.2 m.1 m.2.1
theorem tmX_div (f : Int × Int) (d t : Int) : tmX f (d, t, true) = diR f.1 f.2 d t := if_pos rfl
theorem tmX_mul (f : Int × Int) (d t : Int) : tmX f (d, t, false) = muR f.1 f.2 d t := if_neg (by simp)
def cfS (f : Int × Int) : List Tm → (Int × Int) × Int
  | [] => (f, 0)
  | m :: r => if (tmX f m).2 = 0 then cfS (tmX f m).1 r else ((0, 0), (tmX f m).2)
theorem cfS_nil (f : Int × Int) : cfS f [] = (f, 0) := rfl
theorem cfS_ok (f : Int × Int) (m : Tm) (r : List Tm) (h : (tmX f m).2 = 0) : cfS f (m :: r) = cfS (tmX f m).1 r := if_pos h
theorem cfS_no (f : Int × Int) (m : Tm) (r : List Tm) (h : (tmX f m).2 ≠ 0) : cfS f (m :: r) = ((0, 0), (tmX f m).2) := if_neg h
/-- The first term's figure. -/
def hdF (cs : List Tm) : Int × Int := match cs with
  | [] => (0, 0)
  | m :: _ => (m.1, m.2.1)
def cfR (cs : List Tm) : (Int × Int) × Int := if chnB cs = true then cfS (hdF cs) (cs.drop 1) else ((0, 0), 1)
theorem cfR_ok {cs : List Tm} (h : chnB cs = true) : cfR cs = cfS (hdF cs) (cs.drop 1) := if_pos h
theorem cfR_no {cs : List Tm} (h : chnB cs = false) : cfR cs = ((0, 0), 1) := if_neg (by rw [h]; simp)
theorem dropT_at {cs : List Tm} {k : Nat} {m : Tm} (h : cs[k]? = some m) : cs.drop k = m :: cs.drop (k + 1) := by
  obtain ⟨h1, e⟩ := List.getElem?_eq_some_iff.1 h
  rw [List.drop_eq_getElem_cons h1, e]

/-- Two terms exchanged. -/
def swL (cs : List Tm) (a b : Nat) : List Tm := (cs.set a (cs.getD b (0, 0, false))).set b (cs.getD a (0, 0, false))
def swC (cs : List Tm) (a b : Int) : Int :=
  if chnB cs = false then 1 else if ¬ ((0 ≤ a ∧ a < cs.length) ∧ (0 ≤ b ∧ b < cs.length)) then 2 else if chnB (swL cs a.toNat b.toNat) = false then 5 else 0
def swR (cs : List Tm) (a b : Int) : List Tm × Int := if swC cs a b = 0 then (swL cs a.toNat b.toNat, 0) else ([], swC cs a b)
theorem swR_inv {cs : List Tm} {a b : Int} (h : chnB cs = false) : swR cs a b = ([], 1) := by
  have : swC cs a b = 1 := if_pos h
  unfold swR; rw [this]; rfl
theorem swR_rng {cs : List Tm} {a b : Int} (h : chnB cs = true) (h2 : ¬ ((0 ≤ a ∧ a < cs.length) ∧ (0 ≤ b ∧ b < cs.length))) : swR cs a b = ([], 2) := by
  have : swC cs a b = 2 := by unfold swC; rw [if_neg (by rw [h]; simp), if_pos h2]
  unfold swR; rw [this]; rfl
theorem swR_st {cs : List Tm} {i j : Nat} (h : chnB cs = true) (hi : i < cs.length) (hj : j < cs.length) (h2 : chnB (swL cs i j) = false) : swR cs i j = ([], 5) := by
  have : swC cs i j = 5 := by
    unfold swC
    rw [if_neg (by rw [h]; simp), if_neg (by omega), if_pos (by simpa using h2)]
  unfold swR; rw [this]; rfl
theorem swR_ok {cs : List Tm} {i j : Nat} (h : chnB cs = true) (hi : i < cs.length) (hj : j < cs.length) (h2 : chnB (swL cs i j) = true) : swR cs i j = (swL cs i j, 0) := by
  have : swC cs i j = 0 := by
    unfold swC
    rw [if_neg (by rw [h]; simp), if_neg (by omega), if_neg (by simp [h2])]
  unfold swR; rw [this]; simp
theorem swL_len (cs : List Tm) (a b : Nat) : (swL cs a b).length = cs.length := by unfold swL; simp

/-- Terms with Divide and those without it in turns. -/
def ilv : List Tm → List Tm → List Tm
  | [], ys => ys
  | x :: xs, [] => x :: xs
  | x :: xs, y :: ys => x :: y :: ilv xs ys
theorem ilv_nil (ys : List Tm) : ilv [] ys = ys := by cases ys <;> rfl
theorem ilv_nil' (xs : List Tm) : ilv xs [] = xs := by cases xs <;> rfl
theorem ilv_len : ∀ xs ys : List Tm, (ilv xs ys).length = xs.length + ys.length
  | [], ys => by rw [ilv_nil]; simp
  | x :: xs, [] => by rw [ilv_nil']; simp
  | x :: xs, y :: ys => by
    show (x :: y :: ilv xs ys).length = _
    simp only [List.length_cons, ilv_len xs ys]; omega
def dvs (cs : List Tm) : List Tm := (cs.drop 1).filter fun m => m.2.2
def mls (cs : List Tm) : List Tm := (cs.drop 1).filter fun m => !m.2.2
def soL (cs : List Tm) : List Tm := cs.take 1 ++ ilv (dvs cs) (mls cs)
def soR (cs : List Tm) : List Tm × Int := if chnB cs = true then (soL cs, 0) else ([], 1)
theorem soR_ok {cs : List Tm} (h : chnB cs = true) : soR cs = (soL cs, 0) := if_pos h
theorem soR_no {cs : List Tm} (h : chnB cs = false) : soR cs = ([], 1) := if_neg (by rw [h]; simp)
/-- k pairs are laid. -/
def prs (xs ys : List Tm) : Nat → List Tm
  | 0 => []
  | k + 1 => prs xs ys k ++ [xs.getD k (0, 0, false), ys.getD k (0, 0, false)]
theorem prs_len (xs ys : List Tm) : ∀ k, (prs xs ys k).length = 2 * k
  | 0 => rfl
  | k + 1 => by show (prs xs ys k ++ _).length = _; rw [List.length_append, prs_len xs ys k]; simp; omega
theorem prs_cons (x y : Tm) (xs ys : List Tm) : ∀ k, prs (x :: xs) (y :: ys) (k + 1) = x :: y :: prs xs ys k
  | 0 => rfl
  | k + 1 => by
    show prs (x :: xs) (y :: ys) (k + 1) ++ _ = _
    rw [prs_cons x y xs ys k]
    rfl
/-- What the program does: pairs, then the rests. -/
theorem ilv_prs (xs ys : List Tm) : ilv xs ys = prs xs ys (min xs.length ys.length) ++ (xs.drop (min xs.length ys.length) ++ ys.drop (min xs.length ys.length)) := by
  induction xs generalizing ys with
  | nil => rw [ilv_nil]; simp [prs]
  | cons x xs ih =>
    cases ys with
    | nil => rw [ilv_nil']; simp [prs]
    | cons y ys =>
      rw [List.length_cons, List.length_cons, show min (xs.length + 1) (ys.length + 1) = min xs.length ys.length + 1 by omega, prs_cons]
      show x :: y :: ilv xs ys = _
      rw [ih ys]
      rfl
/-- What the model does: k rounds. -/
def rnd (xs ys : List Tm) (k : Nat) : List Tm := xs[k]?.toList ++ ys[k]?.toList
def rnds (xs ys : List Tm) : Nat → List Tm
  | 0 => []
  | k + 1 => rnds xs ys k ++ rnd xs ys k
theorem rnds_cons (x y : Tm) (xs ys : List Tm) : ∀ k, rnds (x :: xs) (y :: ys) (k + 1) = x :: y :: rnds xs ys k
  | 0 => rfl
  | k + 1 => by
    show rnds (x :: xs) (y :: ys) (k + 1) ++ _ = _
    rw [rnds_cons x y xs ys k]
    rfl
theorem rnds_nil (ys : List Tm) : ∀ k, rnds [] ys k = ys.take k
  | 0 => by simp [rnds]
  | k + 1 => by
    show rnds [] ys k ++ rnd [] ys k = _
    rw [rnds_nil ys k, List.take_add_one]
    rfl
theorem rnds_nil' (xs : List Tm) : ∀ k, rnds xs [] k = xs.take k
  | 0 => by simp [rnds]
  | k + 1 => by
    show rnds xs [] k ++ rnd xs [] k = _
    rw [rnds_nil' xs k, List.take_add_one]
    unfold rnd
    simp
theorem ilv_rnds (xs ys : List Tm) (k : Nat) (h1 : xs.length ≤ k) (h2 : ys.length ≤ k) : rnds xs ys k = ilv xs ys := by
  induction xs generalizing ys k with
  | nil => rw [rnds_nil, ilv_nil, List.take_of_length_le h2]
  | cons x xs ih =>
    cases ys with
    | nil => rw [rnds_nil', ilv_nil', List.take_of_length_le h1]
    | cons y ys =>
      cases k with
      | zero => simp at h1
      | succ k =>
        rw [rnds_cons, ih ys k (by simp at h1; omega) (by simp at h2; omega)]
        rfl
theorem rnds_len (xs ys : List Tm) (k : Nat) : (rnds xs ys k).length ≤ 2 * k := by
  induction k with
  | zero => simp [rnds]
  | succ k ih =>
    show (rnds xs ys k ++ rnd xs ys k).length ≤ _
    rw [List.length_append]
    have h : (rnd xs ys k).length ≤ 2 := by
      unfold rnd
      rw [List.length_append]
      have h1 : ∀ o : Option Tm, o.toList.length ≤ 1 := fun o => by cases o <;> simp
      have := h1 xs[k]?
      have := h1 ys[k]?
      omega
    omega
theorem fltT_len (cs : List Tm) : (dvs cs).length + (mls cs).length = cs.length - 1 := by
  unfold dvs mls
  have : ∀ l : List Tm, (l.filter fun m => m.2.2).length + (l.filter fun m => !m.2.2).length = l.length := by
    intro l
    induction l with
    | nil => rfl
    | cons m r ih =>
      obtain ⟨d, t, b⟩ := m
      cases b <;> simp_all <;> omega
  rw [this, List.length_drop]
theorem soL_len {cs : List Tm} (h : 1 ≤ cs.length) : (soL cs).length = cs.length := by
  unfold soL
  rw [List.length_append, ilv_len, fltT_len, List.length_take]; omega
/-- Terms of one kind, of the first k behind the first one. -/
def wth (b : Bool) (l : List Tm) : List Tm := l.filter fun m => m.2.2 == b
theorem wth_div (cs : List Tm) : wth true (cs.drop 1) = dvs cs := by
  unfold wth dvs
  congr 1; funext m; cases m.2.2 <;> rfl
theorem wth_mul (cs : List Tm) : wth false (cs.drop 1) = mls cs := by
  unfold wth mls
  congr 1; funext m; cases m.2.2 <;> rfl
theorem wth_snoc {b : Bool} {l : List Tm} {k : Nat} {m : Tm} (h : l[k]? = some m) : wth b (l.take (k + 1)) = wth b (l.take k) ++ (if m.2.2 == b then [m] else []) := by
  obtain ⟨h1, e⟩ := List.getElem?_eq_some_iff.1 h
  rw [List.take_succ_eq_append_getElem h1, e]
  unfold wth
  rw [List.filter_append]
  congr 1
  cases hc : (m.2.2 == b) <;> simp [List.filter, hc]
theorem wth_len (b : Bool) (l : List Tm) : (wth b l).length ≤ l.length := List.length_filter_le _ _

/-- Joined chains. -/
def flp (b : Bool) (m : Tm) : Tm := (m.1, m.2.1, m.2.2 != b)
def joL (cs ds : List Tm) (b : Bool) : List Tm := cs ++ ds.map (flp b)
def joC (cs ds : List Tm) : Int := if (chnB cs && chnB ds) = false then 1 else if 6 < cs.length + ds.length then 3 else 0
def joR (cs ds : List Tm) (b : Bool) : List Tm × Int := if joC cs ds = 0 then (joL cs ds b, 0) else ([], joC cs ds)
theorem joR_inv {cs ds : List Tm} (b : Bool) (h : chnB cs = false ∨ chnB ds = false) : joR cs ds b = ([], 1) := by
  have : joC cs ds = 1 := if_pos (by rcases h with h | h <;> rw [h] <;> simp)
  unfold joR; rw [this]; rfl
theorem joR_long {cs ds : List Tm} (b : Bool) (h : chnB cs = true) (h1 : chnB ds = true) (h2 : 6 < cs.length + ds.length) : joR cs ds b = ([], 3) := by
  have : joC cs ds = 3 := by unfold joC; rw [if_neg (by rw [h, h1]; simp), if_pos h2]
  unfold joR; rw [this]; rfl
theorem joR_ok {cs ds : List Tm} (b : Bool) (h : chnB cs = true) (h1 : chnB ds = true) (h2 : cs.length + ds.length ≤ 6) : joR cs ds b = (joL cs ds b, 0) := by
  have : joC cs ds = 0 := by unfold joC; rw [if_neg (by rw [h, h1]; simp), if_neg (by omega)]
  unfold joR; rw [this]; rfl
end Go.Proofs.YtphebmbapllinaaDoor

/- Plain mathematics of chapter 13: texts of chains, taken apart at their signs. No program is imported here. -/
namespace Go.Proofs.YtphebmbapllinaaDoor
set_option linter.unusedSimpArgs false
set_option linter.unusedVariables false

/-- A sign: times or divided by. -/
def isSg (c : UInt8) : Bool := c == 42 || c == 47
theorem isSg_iff (c : UInt8) : isSg c = true ↔ c = 42 ∨ c = 47 := by unfold isSg; simp
/-- The parts of a text: each with the sign before it. -/
def prtS (b : Bool) (cur : List UInt8) : List UInt8 → List (Bool × List UInt8)
  | [] => [(b, cur)]
  | c :: r => if isSg c = true then (b, cur) :: prtS (c == 47) [] r else prtS b (cur ++ [c]) r
theorem prtS_nil (b : Bool) (cur : List UInt8) : prtS b cur [] = [(b, cur)] := rfl
theorem prtS_sg (b : Bool) (cur : List UInt8) (c : UInt8) (r : List UInt8) (h : isSg c = true) : prtS b cur (c :: r) = (b, cur) :: prtS (c == 47) [] r := if_pos h
theorem prtS_no (b : Bool) (cur : List UInt8) (c : UInt8) (r : List UInt8) (h : isSg c = false) : prtS b cur (c :: r) = prtS b (cur ++ [c]) r := if_neg (by rw [h]; simp)
theorem prtS_run (b : Bool) (cur a r : List UInt8) (h : ∀ c ∈ a, isSg c = false) : prtS b cur (a ++ r) = prtS b (cur ++ a) r := by
  induction a generalizing cur with
  | nil => simp
  | cons c a ih =>
    rw [List.cons_append, prtS_no _ _ _ _ (h c (by simp)), ih _ (fun x hx => h x (by simp [hx]))]
    congr 1; simp
theorem prtS_pos (b : Bool) (cur l : List UInt8) : 1 ≤ (prtS b cur l).length := by
  induction l generalizing b cur with
  | nil => simp [prtS_nil]
  | cons c r ih =>
    cases h : isSg c
    · rw [prtS_no _ _ _ _ h]; exact ih _ _
    · rw [prtS_sg _ _ _ _ h]; simp
section
variable (f : List UInt8 → (Int × Int) × Int)
/-- A part that is the text of a figure; the term of a part. -/
def okP (p : Bool × List UInt8) : Bool := decide ((f p.2).2 = 0)
def tmP (p : Bool × List UInt8) : Tm := ((f p.2).1.1, (f p.2).1.2, p.1)
def rcP (n : Nat) (ps : List (Bool × List UInt8)) : Option (List Tm) := if ps.all (okP f) = true ∧ ps.length ≤ n then some (ps.map (tmP f)) else none
theorem rcP_bad {n : Nat} {ps : List (Bool × List UInt8)} {p : Bool × List UInt8} (h : p ∈ ps) (hb : okP f p = false) : rcP f n ps = none := by
  unfold rcP
  rw [if_neg]
  intro hc
  have := List.all_eq_true.1 hc.1 p h
  rw [hb] at this; cases this
theorem rcP_long {n : Nat} {ps : List (Bool × List UInt8)} (h : n < ps.length) : rcP f n ps = none := by
  unfold rcP
  rw [if_neg (by omega)]
theorem rcP_ok {n : Nat} {ps : List (Bool × List UInt8)} (h : ps.all (okP f) = true) (h2 : ps.length ≤ n) : rcP f n ps = some (ps.map (tmP f)) := if_pos ⟨h, h2⟩
theorem rcP_cons {n : Nat} {p : Bool × List UInt8} {ps : List (Bool × List UInt8)} (hp : okP f p = true) : rcP f (n + 1) (p :: ps) = (rcP f n ps).map (tmP f p :: ·) := by
  unfold rcP
  by_cases h : ps.all (okP f) = true ∧ ps.length ≤ n
  · rw [if_pos h, if_pos]
    · rfl
    · rw [List.all_cons, hp, h.1, List.length_cons]
      exact ⟨rfl, by omega⟩
  · rw [if_neg h, if_neg]
    · rfl
    · intro hc
      rw [List.all_cons, hp, Bool.true_and, List.length_cons] at hc
      exact h ⟨hc.1, by omega⟩
theorem rcP_zero (ps : List (Bool × List UInt8)) (h : 1 ≤ ps.length) : rcP f 0 ps = none := rcP_long f (by omega)
end
/-- What is read of a text. -/
def rcO (f : List UInt8 → (Int × Int) × Int) (s : List UInt8) : Option (List Tm) := rcP f 6 (prtS false [] s)

/-- The text of a term, with its sign; of a chain. -/
def sgn (b : Bool) : UInt8 := if b = true then 47 else 42
theorem sgn_sg (b : Bool) : isSg (sgn b) = true := by cases b <;> decide
theorem sgn_47 (b : Bool) : (sgn b == 47) = b := by cases b <;> decide
section
variable (g : Int → Int → List UInt8)
def tmS (m : Tm) : List UInt8 := sgn m.2.2 :: g m.1 m.2.1
def ctS (cs : List Tm) : List UInt8 := ((cs.map (tmS g)).flatten).drop 1
theorem ctS_snoc (cs : List Tm) (m : Tm) (h : cs ≠ []) : ctS g (cs ++ [m]) = ctS g cs ++ tmS g m := by
  unfold ctS
  rw [List.map_append, List.flatten_append]
  cases cs with
  | nil => exact absurd rfl h
  | cons x r =>
    rw [List.map_cons, List.flatten_cons]
    simp [tmS]
theorem ctS_one (m : Tm) : ctS g [m] = g m.1 m.2.1 := by
  unfold ctS
  simp [tmS]
/-- A chain's text is taken apart into its terms. -/
theorem prtS_text (hg : ∀ d t, ∀ c ∈ g d t, isSg c = false) (b : Bool) (cur : List UInt8) : ∀ (cs : List Tm), prtS b cur ((cs.map (tmS g)).flatten) = (b, cur) :: cs.map fun m => (m.2.2, g m.1 m.2.1)
  | [] => rfl
  | m :: r => by
    rw [List.map_cons, List.flatten_cons]
    show prtS b cur (sgn m.2.2 :: (g m.1 m.2.1 ++ _)) = _
    rw [prtS_sg _ _ _ _ (sgn_sg _), sgn_47, prtS_run _ _ _ _ (hg m.1 m.2.1), List.nil_append, prtS_text hg m.2.2 (g m.1 m.2.1) r]
    rfl
theorem prtS_chain (hg : ∀ d t, ∀ c ∈ g d t, isSg c = false) (cs : List Tm) (h : chnB cs = true) : prtS false [] (ctS g cs) = cs.map fun m => (m.2.2, g m.1 m.2.1) := by
  cases cs with
  | nil => exact absurd ((chnB_iff _).1 h).1.1 (by simp)
  | cons m r =>
    have h0 : m.2.2 = false := ((chnB_iff _).1 h).2.1
    have e : ctS g (m :: r) = g m.1 m.2.1 ++ (r.map (tmS g)).flatten := by
      unfold ctS
      simp [tmS]
    rw [e, prtS_run _ _ _ _ (hg m.1 m.2.1), List.nil_append, prtS_text g hg, List.map_cons, h0]
end
/-- Reading a chain's text gives the chain. -/
theorem rcO_text (f : List UInt8 → (Int × Int) × Int) (g : Int → Int → List UInt8) (hg : ∀ d t, ∀ c ∈ g d t, isSg c = false) (hf : ∀ d t, fg d t = true → f (g d t) = ((d, t), 0)) (cs : List Tm) (h : chnB cs = true) : rcO f (ctS g cs) = some cs := by
  unfold rcO
  rw [prtS_chain g hg cs h]
  obtain ⟨⟨h1, h2⟩, -, h3⟩ := (chnB_iff cs).1 h
  have hz : ∀ m ∈ cs, f (g m.1 m.2.1) = ((m.1, m.2.1), 0) := fun m hm => hf _ _ (List.all_eq_true.1 h3 m hm)
  rw [rcP_ok]
  · rw [List.map_map]
    congr 1
    refine (List.map_congr_left fun m hm => ?_).trans (List.map_id cs)
    show tmP f (m.2.2, g m.1 m.2.1) = m
    unfold tmP
    rw [hz m hm]
  · rw [List.all_eq_true]
    intro p hp
    obtain ⟨m, hm, rfl⟩ := List.mem_map.1 hp
    unfold okP
    rw [hz m hm]; rfl
  · rw [List.length_map]; exact h2
/-- What was read is a chain, and its text is what was read. -/
theorem prtS_join (b : Bool) (cur l : List UInt8) (hc : ∀ c ∈ cur, isSg c = false) : ((prtS b cur l).map fun p => sgn p.1 :: p.2).flatten = sgn b :: (cur ++ l) := by
  induction l generalizing b cur with
  | nil => simp [prtS_nil]
  | cons c r ih =>
    cases h : isSg c
    · rw [prtS_no _ _ _ _ h, ih b (cur ++ [c]) (by intro x hx; rcases List.mem_append.1 hx with hx | hx; exact hc x hx; simp at hx; rw [hx]; exact h)]
      simp
    · rw [prtS_sg _ _ _ _ h, List.map_cons, List.flatten_cons, ih _ [] (by intro x hx; cases hx)]
      have e : sgn (c == 47) = c := by
        rcases (isSg_iff c).1 h with rfl | rfl <;> decide
      rw [e]; simp
theorem rcO_some (f : List UInt8 → (Int × Int) × Int) (g : Int → Int → List UInt8) (hf : ∀ p, (f p).2 = 0 → fg (f p).1.1 (f p).1.2 = true ∧ p = g (f p).1.1 (f p).1.2) {s : List UInt8} {cs : List Tm} (h : rcO f s = some cs) : chnB cs = true ∧ ctS g cs = s := by
  unfold rcO rcP at h
  split at h
  · rename_i hc
    injection h with h
    have h1 := prtS_pos false [] s
    have hall : ∀ p ∈ prtS false [] s, (f p.2).2 = 0 := fun p hp => of_decide_eq_true (List.all_eq_true.1 hc.1 p hp)
    have hhd : ∀ (l cur : List UInt8), ∃ q r, prtS false cur l = (false, q) :: r := by
      intro l
      induction l with
      | nil => intro cur; exact ⟨cur, [], rfl⟩
      | cons c r ih =>
        intro cur
        cases hc : isSg c
        · rw [prtS_no _ _ _ _ hc]; exact ih _
        · rw [prtS_sg _ _ _ _ hc]; exact ⟨cur, _, rfl⟩
    have hj := prtS_join false [] s (by intro x hx; cases hx)
    refine ⟨?_, ?_⟩
    · rw [chnB_iff, ← h]
      refine ⟨⟨by rw [List.length_map]; exact h1, by rw [List.length_map]; exact hc.2⟩, ?_, ?_⟩
      · obtain ⟨q, r, e⟩ := hhd s []
        rw [e]; rfl
      · rw [List.all_eq_true]
        intro m hm
        obtain ⟨p, hp, rfl⟩ := List.mem_map.1 hm
        exact (hf p.2 (hall p hp)).1
    · rw [← h]
      unfold ctS
      rw [List.map_map]
      have e : (prtS false [] s).map (tmS g ∘ tmP f) = (prtS false [] s).map fun p => sgn p.1 :: p.2 := by
        refine List.map_congr_left fun p hp => ?_
        show sgn p.1 :: g (f p.2).1.1 (f p.2).1.2 = _
        rw [← (hf p.2 (hall p hp)).2]
      rw [e, hj]
      rfl
  · cases h

/-- What stands before the next sign, and from it on. -/
def preS (l : List UInt8) : List UInt8 := l.takeWhile fun c => !isSg c
def sufS (l : List UInt8) : List UInt8 := l.dropWhile fun c => !isSg c
theorem pre_suf (l : List UInt8) : preS l ++ sufS l = l := List.takeWhile_append_dropWhile
theorem preS_no (l : List UInt8) : ∀ c ∈ preS l, isSg c = false := by
  induction l with
  | nil => intro c hc; cases hc
  | cons x l ih =>
    intro c hc
    unfold preS at *
    rw [List.takeWhile_cons] at hc
    split at hc
    · rename_i hx
      rcases List.mem_cons.1 hc with rfl | hc
      · simpa using hx
      · exact ih c hc
    · cases hc
theorem sufS_sg {l : List UInt8} {c : UInt8} {r : List UInt8} (h : sufS l = c :: r) : isSg c = true := by
  unfold sufS at h
  induction l with
  | nil => simp at h
  | cons x l ih =>
    rw [List.dropWhile_cons] at h
    split at h
    · exact ih h
    · rename_i hx
      injection h with h1 h2
      subst h1
      simpa using hx
theorem prtS_pre (b : Bool) (l : List UInt8) : prtS b [] l = (b, preS l) :: (match sufS l with | [] => [] | c :: r => prtS (c == 47) [] r) := by
  conv => lhs; rw [← pre_suf l]
  rw [prtS_run _ _ _ _ (preS_no l), List.nil_append]
  cases h : sufS l with
  | nil => rfl
  | cons c r => rw [prtS_sg _ _ _ _ (sufS_sg h)]
/-- The program's way: term by term, n at most. -/
def rdT (f : List UInt8 → (Int × Int) × Int) : Nat → List UInt8 → Option (List Tm)
  | 0, _ => none
  | n + 1, t => match t with
    | [] => none
    | c :: r => if (f (preS r)).2 = 0 then (if sufS r = [] then some [tmP f (c == 47, preS r)] else (rdT f n (sufS r)).map (tmP f (c == 47, preS r) :: ·)) else none
theorem rdT_rcP (f : List UInt8 → (Int × Int) × Int) (n : Nat) (c : UInt8) (r : List UInt8) : rdT f n (c :: r) = rcP f n (prtS (c == 47) [] r) := by
  induction n generalizing c r with
  | zero => rw [rcP_zero f _ (prtS_pos _ _ _)]; rfl
  | succ n ih =>
    show (if (f (preS r)).2 = 0 then _ else _) = _
    rw [prtS_pre]
    by_cases hf : (f (preS r)).2 = 0
    · rw [if_pos hf]
      have hp : okP f (c == 47, preS r) = true := decide_eq_true hf
      rw [rcP_cons f hp]
      cases hs : sufS r with
      | nil =>
        rw [if_pos rfl]
        simp [rcP]
      | cons c2 r2 =>
        rw [if_neg (by simp), ih]
    · rw [if_neg hf, rcP_bad f (p := (c == 47, preS r)) (by simp) (decide_eq_false hf)]
theorem rdT_rcO (f : List UInt8 → (Int × Int) × Int) (s : List UInt8) : rdT f 6 (42 :: s) = rcO f s := by rw [rdT_rcP]; rfl
end Go.Proofs.YtphebmbapllinaaDoor

/- Plain mathematics of the laws of chapter 13: terms exchanged, sorted, joined. No program is imported here. -/
namespace Go.Proofs.YtphebmbapllinaaDoor
set_option linter.unusedSimpArgs false
set_option linter.unusedVariables false

/-- What a term adds to a logarithm. -/
def tmD (m : Tm) : Int × Int := if m.2.2 = true then (-(flg m.1 m.2.1).2, -(flg m.1 m.2.1).1) else flg m.1 m.2.1
theorem tmA_D (s : Int × Int) (m : Tm) : tmA s m = (s.1 + (tmD m).1, s.2 + (tmD m).2) := by
  obtain ⟨d, t, b⟩ := m
  cases b
  · rw [tmA_mul]; rfl
  · rw [tmA_div]; rfl
def sumT (f : Tm → Int) (cs : List Tm) : Int := (cs.map f).sum
theorem sumT_nil (f : Tm → Int) : sumT f [] = 0 := rfl
theorem sumT_cons (f : Tm → Int) (m : Tm) (r : List Tm) : sumT f (m :: r) = f m + sumT f r := by unfold sumT; rw [List.map_cons, List.sum_cons]
theorem sumT_app (f : Tm → Int) (xs ys : List Tm) : sumT f (xs ++ ys) = sumT f xs + sumT f ys := by
  induction xs with
  | nil => rw [List.nil_append, sumT_nil]; omega
  | cons x r ih => rw [List.cons_append, sumT_cons, sumT_cons, ih]; omega
theorem chLg_sum (cs : List Tm) : chLg cs = (sumT (fun m => (tmD m).1) cs, sumT (fun m => (tmD m).2) cs) := by
  have go : ∀ (cs : List Tm) (s : Int × Int), cs.foldl tmA s = (s.1 + sumT (fun m => (tmD m).1) cs, s.2 + sumT (fun m => (tmD m).2) cs) := by
    intro cs
    induction cs with
    | nil => intro s; rw [sumT_nil, sumT_nil]; simp
    | cons m r ih =>
      intro s
      rw [List.foldl_cons, ih, tmA_D, sumT_cons, sumT_cons]
      simp only [Prod.mk.injEq]
      omega
  unfold chLg
  rw [go]
  simp
theorem sumT_set (f : Tm → Int) (v : Tm) : ∀ (cs : List Tm) (i : Nat) (x : Tm), cs[i]? = some x → sumT f (cs.set i v) = sumT f cs - f x + f v
  | [], i, x, h => by simp at h
  | m :: r, 0, x, h => by
    simp at h
    subst h
    rw [List.set_cons_zero, sumT_cons, sumT_cons]; omega
  | m :: r, i + 1, x, h => by
    rw [List.set_cons_succ, sumT_cons, sumT_cons, sumT_set f v r i x (by simpa using h)]; omega
theorem getD_at {cs : List Tm} {i : Nat} {x : Tm} (h : cs[i]? = some x) (z : Tm) : cs.getD i z = x := by rw [List.getD_eq_getElem?_getD, h]; rfl
theorem swL_at {cs : List Tm} {i j : Nat} {x y : Tm} (hi : cs[i]? = some x) (hj : cs[j]? = some y) : swL cs i j = (cs.set i y).set j x := by
  unfold swL
  rw [getD_at hi, getD_at hj]
theorem sumT_sw (f : Tm → Int) {cs : List Tm} {i j : Nat} {x y : Tm} (hi : cs[i]? = some x) (hj : cs[j]? = some y) : sumT f (swL cs i j) = sumT f cs := by
  rw [swL_at hi hj]
  have h2 : (cs.set i y)[j]? = some y := by
    obtain ⟨h3, e⟩ := List.getElem?_eq_some_iff.1 hj
    by_cases h : i = j
    · subst h
      rw [List.getElem?_set_self h3]
    · rw [List.getElem?_set_ne h, hj]
  rw [sumT_set f x _ _ _ h2, sumT_set f y _ _ _ hi]
  omega
theorem chLg_sw {cs : List Tm} {i j : Nat} (hi : i < cs.length) (hj : j < cs.length) : chLg (swL cs i j) = chLg cs := by
  have h1 := List.getElem?_eq_getElem hi
  have h2 := List.getElem?_eq_getElem hj
  rw [chLg_sum, chLg_sum, sumT_sw _ h1 h2, sumT_sw _ h1 h2]
/-- Exchanged twice. -/
theorem swL_back {cs : List Tm} {i j : Nat} (hi : i < cs.length) (hj : j < cs.length) : swL (swL cs i j) i j = cs := by
  have h1 := List.getElem?_eq_getElem hi
  have h2 := List.getElem?_eq_getElem hj
  have e1 : swL cs i j = (cs.set i cs[j]).set j cs[i] := swL_at h1 h2
  have q1 : (swL cs i j)[i]? = some cs[j] := by
    rw [e1]
    by_cases h : i = j
    · subst h; rw [List.getElem?_set_self (by simp; omega)]
    · rw [List.getElem?_set_ne (fun e => h e.symm), List.getElem?_set_self hi]
  have q2 : (swL cs i j)[j]? = some cs[i] := by
    rw [e1, List.getElem?_set_self (by simp; omega)]
  rw [swL_at q1 q2, e1]
  apply List.ext_getElem?
  intro k
  by_cases hk : k = j
  · subst hk
    rw [List.getElem?_set_self (by simp; omega)]
    exact h2.symm
  · rw [List.getElem?_set_ne (fun e => hk e.symm)]
    by_cases hk2 : k = i
    · subst hk2
      rw [List.getElem?_set_self (by simp; omega)]
      exact h1.symm
    · rw [List.getElem?_set_ne (fun e => hk2 e.symm), List.getElem?_set_ne (fun e => hk e.symm), List.getElem?_set_ne (fun e => hk2 e.symm)]
/-- Sorted. -/
theorem sumT_ilv (f : Tm → Int) : ∀ xs ys : List Tm, sumT f (ilv xs ys) = sumT f xs + sumT f ys
  | [], ys => by rw [ilv_nil, sumT_nil]; omega
  | x :: xs, [] => by rw [ilv_nil', sumT_nil]; omega
  | x :: xs, y :: ys => by
    show sumT f (x :: y :: ilv xs ys) = _
    rw [sumT_cons, sumT_cons, sumT_ilv f xs ys, sumT_cons, sumT_cons]; omega
theorem sumT_flt (f : Tm → Int) (l : List Tm) : sumT f (l.filter fun m => m.2.2) + sumT f (l.filter fun m => !m.2.2) = sumT f l := by
  induction l with
  | nil => rfl
  | cons m r ih =>
    obtain ⟨d, t, b⟩ := m
    rw [sumT_cons]
    cases b
    · rw [List.filter_cons_of_neg (by simp), List.filter_cons_of_pos (by simp), sumT_cons]; omega
    · rw [List.filter_cons_of_pos (by simp), List.filter_cons_of_neg (by simp), sumT_cons]; omega
theorem chLg_so (cs : List Tm) : chLg (soL cs) = chLg cs := by
  have h : ∀ f, sumT f (soL cs) = sumT f cs := fun f => by
    unfold soL dvs mls
    rw [sumT_app, sumT_ilv, sumT_flt, ← sumT_app, List.take_append_drop]
  rw [chLg_sum, chLg_sum, h, h]
theorem all_ilv (p : Tm → Bool) : ∀ xs ys : List Tm, (ilv xs ys).all p = (xs.all p && ys.all p)
  | [], ys => by rw [ilv_nil]; simp
  | x :: xs, [] => by rw [ilv_nil']; simp
  | x :: xs, y :: ys => by
    show (x :: y :: ilv xs ys).all p = _
    rw [List.all_cons, List.all_cons, all_ilv p xs ys, List.all_cons, List.all_cons]
    cases p x <;> cases p y <;> simp
theorem all_flt (p q : Tm → Bool) (l : List Tm) (h : l.all p = true) : (l.filter q).all p = true := by
  rw [List.all_eq_true] at *
  intro x hx
  exact h x (List.mem_filter.1 hx).1
theorem soL_ch {cs : List Tm} (h : chnB cs = true) : chnB (soL cs) = true := by
  obtain ⟨⟨h1, h2⟩, h3, h4⟩ := (chnB_iff cs).1 h
  rw [chnB_iff, soL_len h1]
  refine ⟨⟨h1, h2⟩, ?_, ?_⟩
  · cases cs with
    | nil => simp at h1
    | cons m r => exact h3
  · unfold soL dvs mls
    have hd : (cs.drop 1).all tmF = true := by
      rw [List.all_eq_true] at *
      exact fun x hx => h4 x (List.mem_of_mem_drop hx)
    rw [List.all_append, all_take h4, all_ilv, all_flt _ _ _ hd, all_flt _ _ _ hd]
    rfl
/-- Joined. -/
theorem chLg_jo (cs ds : List Tm) (b : Bool) : chLg (joL cs ds b) = if b = true then ((chLg cs).1 - (chLg ds).2, (chLg cs).2 - (chLg ds).1) else ((chLg cs).1 + (chLg ds).1, (chLg cs).2 + (chLg ds).2) := by
  have hm : ∀ ds : List Tm, sumT (fun m => (tmD m).1) (ds.map (flp true)) = -sumT (fun m => (tmD m).2) ds ∧ sumT (fun m => (tmD m).2) (ds.map (flp true)) = -sumT (fun m => (tmD m).1) ds := by
    intro ds
    induction ds with
    | nil => exact ⟨rfl, rfl⟩
    | cons m r ih =>
      obtain ⟨d, t, b⟩ := m
      rw [List.map_cons, sumT_cons, sumT_cons, sumT_cons, sumT_cons, ih.1, ih.2]
      cases b
      · have e1 : (tmD (flp true (d, t, false))).1 = -(flg d t).2 := rfl
        have e2 : (tmD (flp true (d, t, false))).2 = -(flg d t).1 := rfl
        have e3 : (tmD (d, t, false)).1 = (flg d t).1 := rfl
        have e4 : (tmD (d, t, false)).2 = (flg d t).2 := rfl
        rw [e1, e2, e3, e4]; omega
      · have e1 : (tmD (flp true (d, t, true))).1 = (flg d t).1 := rfl
        have e2 : (tmD (flp true (d, t, true))).2 = (flg d t).2 := rfl
        have e3 : (tmD (d, t, true)).1 = -(flg d t).2 := rfl
        have e4 : (tmD (d, t, true)).2 = -(flg d t).1 := rfl
        rw [e1, e2, e3, e4]; omega
  have hf : ∀ ds : List Tm, ds.map (flp false) = ds := fun ds => by
    refine (List.map_congr_left fun m _ => ?_).trans (List.map_id ds)
    obtain ⟨d, t, b⟩ := m
    cases b <;> rfl
  unfold joL
  rw [chLg_sum (cs ++ _), sumT_app, sumT_app, chLg_sum cs, chLg_sum ds]
  cases b
  · rw [if_neg (by simp), hf]
  · rw [if_pos rfl, (hm ds).1, (hm ds).2]
    simp only [Prod.mk.injEq]
    omega
theorem joL_len (cs ds : List Tm) (b : Bool) : (joL cs ds b).length = cs.length + ds.length := by unfold joL; rw [List.length_append, List.length_map]
theorem joL_ch {cs ds : List Tm} (b : Bool) (h : chnB cs = true) (h1 : chnB ds = true) (h2 : cs.length + ds.length ≤ 6) : chnB (joL cs ds b) = true := by
  obtain ⟨⟨a1, a2⟩, a3, a4⟩ := (chnB_iff cs).1 h
  obtain ⟨⟨b1, b2⟩, b3, b4⟩ := (chnB_iff ds).1 h1
  rw [chnB_iff, joL_len]
  refine ⟨⟨by omega, h2⟩, ?_, ?_⟩
  · cases cs with
    | nil => simp at a1
    | cons m r => exact a3
  · unfold joL
    rw [List.all_append, a4, Bool.true_and, List.all_eq_true]
    intro m hm
    obtain ⟨x, hx, rfl⟩ := List.mem_map.1 hm
    exact List.all_eq_true.1 b4 x hx
end Go.Proofs.YtphebmbapllinaaDoor
