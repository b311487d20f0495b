/- Plain mathematics, merged. -/
import Derived.Test.YtphebmbapllinaaDoorMF
/- Plain mathematics of chapter 12: moves and what they do to a setting. No program is imported here. -/
namespace Go.Proofs.YtphebmbapllinaaDoor
set_option linter.unusedSimpArgs false
set_option linter.unusedVariables false

/-- A move: its kind, its scale, its figure. -/
abbrev Mv : Type := Int × Int × Int × Int
/-- Kinds that look for a figure. -/
def mvF (k : Int) : Bool := decide (0 ≤ k ∧ k ≤ 2)
def mvP (k : Int) : Bool := decide (3 ≤ k ∧ k ≤ 6)
def mvB (m : Mv) : Bool := (mvF m.1 && (lsc m.2.1 && fg m.2.2.1 m.2.2.2)) || (mvP m.1 && (m.2.1 == 0 && (m.2.2.1 == 0 && m.2.2.2 == 0)))
theorem mvF_iff (k : Int) : mvF k = true ↔ 0 ≤ k ∧ k ≤ 2 := by unfold mvF; simp
theorem mvP_iff (k : Int) : mvP k = true ↔ 3 ≤ k ∧ k ≤ 6 := by unfold mvP; simp
theorem mvF_P {k : Int} (h : mvF k = true) : mvP k = false := by
  cases hc : mvP k
  · rfl
  · have := (mvF_iff k).1 h; have := (mvP_iff k).1 hc; omega
theorem mv_kinds (k : Int) : (mvF k = true ∧ mvP k = false) ∨ (mvF k = false ∧ mvP k = true) ∨ (mvF k = false ∧ mvP k = false ∧ (k < 0 ∨ 6 < k)) := by
  cases hf : mvF k
  · cases hp : mvP k
    · refine .inr (.inr ⟨rfl, rfl, ?_⟩)
      have h1 : ¬ (0 ≤ k ∧ k ≤ 2) := fun h => by rw [(mvF_iff k).2 h] at hf; cases hf
      have h2 : ¬ (3 ≤ k ∧ k ≤ 6) := fun h => by rw [(mvP_iff k).2 h] at hp; cases hp
      omega
    · exact .inr (.inl ⟨rfl, rfl⟩)
  · exact .inl ⟨rfl, mvF_P hf⟩
theorem mvB_fig {k s d t : Int} (h : mvF k = true) : mvB (k, s, d, t) = (lsc s && fg d t) := by unfold mvB; simp only [h, mvF_P h]; simp
theorem mvB_pl {k s d t : Int} (h : mvF k = false) (h2 : mvP k = true) : mvB (k, s, d, t) = (s == 0 && (d == 0 && t == 0)) := by unfold mvB; simp only [h, h2]; simp
theorem mvB_no {k s d t : Int} (h : mvF k = false) (h2 : mvP k = false) : mvB (k, s, d, t) = false := by unfold mvB; simp only [h, h2]; simp
theorem mvB_cases {k s d t : Int} (h : mvB (k, s, d, t) = true) : ((k = 0 ∨ k = 1 ∨ k = 2) ∧ lsc s = true ∧ fg d t = true) ∨ ((k = 3 ∨ k = 4 ∨ k = 5 ∨ k = 6) ∧ s = 0 ∧ d = 0 ∧ t = 0) := by
  rcases mv_kinds k with ⟨h1, h2⟩ | ⟨h1, h2⟩ | ⟨h1, h2, -⟩
  · rw [mvB_fig h1, Bool.and_eq_true] at h
    have := (mvF_iff k).1 h1
    exact .inl ⟨by omega, h.1, h.2⟩
  · rw [mvB_pl h1 h2] at h
    have := (mvP_iff k).1 h2
    simp at h
    exact .inr ⟨by omega, h.1, h.2.1, h.2.2⟩
  · rw [mvB_no h1 h2] at h; cases h
theorem mvB_tf (m : Mv) : mvB m = true ∨ mvB m = false := by cases mvB m <;> simp
/-- The code of moves. -/
def mvC (ms : List Mv) : Int := if ms.all mvB = false then 1 else if 30 < ms.length then 3 else 0
theorem mvC_bad {ms : List Mv} {i : Nat} {m : Mv} (h : ms[i]? = some m) (hb : mvB m = false) : mvC ms = 1 := by
  unfold mvC
  rw [if_pos]
  rw [List.all_eq_false]
  exact ⟨m, List.mem_of_getElem? h, by rw [hb]; simp⟩
theorem mvC_ok {ms : List Mv} (h : ms.all mvB = true) (hl : ms.length ≤ 30) : mvC ms = 0 := by
  unfold mvC; rw [if_neg (by rw [h]; simp), if_neg (by omega)]
theorem mvC_long {ms : List Mv} (h : ms.all mvB = true) (hl : 30 < ms.length) : mvC ms = 3 := by
  unfold mvC; rw [if_neg (by rw [h]; simp), if_pos hl]
theorem mvC_cases (ms : List Mv) : (ms.all mvB = false ∧ mvC ms = 1) ∨ (ms.all mvB = true ∧ 30 < ms.length ∧ mvC ms = 3) ∨ (ms.all mvB = true ∧ ms.length ≤ 30 ∧ mvC ms = 0) := by
  cases h : ms.all mvB
  · refine .inl ⟨rfl, ?_⟩; unfold mvC; rw [if_pos h]
  · by_cases hl : 30 < ms.length
    · exact .inr (.inl ⟨rfl, hl, mvC_long h hl⟩)
    · exact .inr (.inr ⟨rfl, by omega, mvC_ok h (by omega)⟩)
theorem mvC_zero {ms : List Mv} (h : mvC ms = 0) : ms.all mvB = true ∧ ms.length ≤ 30 := by
  rcases mvC_cases ms with ⟨-, e⟩ | ⟨-, -, e⟩ | ⟨h1, h2, -⟩
  · omega
  · omega
  · exact ⟨h1, h2⟩
theorem all_at {α : Type} {f : α → Bool} {ms : List α} (h : ms.all f = true) {i : Nat} {m : α} (hm : ms[i]? = some m) : f m = true := List.all_eq_true.1 h m (List.mem_of_getElem? hm)
theorem all_snoc {α : Type} {f : α → Bool} {ms : List α} {k : Nat} {m : α} (hm : ms[k]? = some m) (h : (ms.take k).all f = true) (hb : f m = true) : (ms.take (k + 1)).all f = true := by
  obtain ⟨h1, e⟩ := List.getElem?_eq_some_iff.1 hm
  rw [List.take_succ_eq_append_getElem h1, e, List.all_append, h, Bool.true_and]
  simp [hb]
/-- The settings that a move leads to, valid or not; whether its scale is there. -/
def mvN (m : Mv) (a c : Int) : Int × Int :=
  if m.1 = 0 then (a, pnt m.2.1 m.2.2.1 m.2.2.2) else if m.1 = 1 then (a, a + pnt m.2.1 m.2.2.1 m.2.2.2) else if m.1 = 2 then (c - pnt m.2.1 m.2.2.1 m.2.2.2, c)
  else if m.1 = 3 then (c, c) else if m.1 = 4 then (c - 1048576, c) else if m.1 = 5 then (a, a) else (a, a + 1048576)
def mvH (xs ys : List Int) (m : Mv) : Bool := if m.1 = 0 then hasI xs m.2.1 else if m.1 = 1 ∨ m.1 = 2 then hasI ys m.2.1 else true
def mvO (xs ys : List Int) (m : Mv) (a c : Int) : Bool := mvH xs ys m && sgB (mvN m a c).1 (mvN m a c).2
theorem mvO_tf (xs ys : List Int) (m : Mv) (a c : Int) : mvO xs ys m a c = true ∨ mvO xs ys m a c = false := by cases mvO xs ys m a c <;> simp
theorem mvO_sg {xs ys : List Int} {m : Mv} {a c : Int} (h : mvO xs ys m a c = true) : sgB (mvN m a c).1 (mvN m a c).2 = true := by
  unfold mvO at h; rw [Bool.and_eq_true] at h; exact h.2
theorem mvN_0 (s d t a c : Int) : mvN (0, s, d, t) a c = (a, pnt s d t) := by simp [mvN]
theorem mvN_1 (s d t a c : Int) : mvN (1, s, d, t) a c = (a, a + pnt s d t) := by simp [mvN]
theorem mvN_2 (s d t a c : Int) : mvN (2, s, d, t) a c = (c - pnt s d t, c) := by simp [mvN]
theorem mvN_3 (s d t a c : Int) : mvN (3, s, d, t) a c = (c, c) := by simp [mvN]
theorem mvN_4 (s d t a c : Int) : mvN (4, s, d, t) a c = (c - 1048576, c) := by simp [mvN]
theorem mvN_5 (s d t a c : Int) : mvN (5, s, d, t) a c = (a, a) := by simp [mvN]
theorem mvN_6 (s d t a c : Int) : mvN (6, s, d, t) a c = (a, a + 1048576) := by simp [mvN]
theorem mvH_0 (xs ys : List Int) (s d t : Int) : mvH xs ys (0, s, d, t) = hasI xs s := by simp [mvH]
theorem mvH_1 (xs ys : List Int) (s d t : Int) : mvH xs ys (1, s, d, t) = hasI ys s := by simp [mvH]
theorem mvH_2 (xs ys : List Int) (s d t : Int) : mvH xs ys (2, s, d, t) = hasI ys s := by simp [mvH]
theorem mvH_p (xs ys : List Int) (k s d t : Int) (h : 3 ≤ k) : mvH xs ys (k, s, d, t) = true := by
  unfold mvH; rw [if_neg (by simp only; omega), if_neg (by simp only; omega)]

/-- What moves have done: the setting, how many there were, the travels. -/
structure Jy where
  a : Int
  c : Int
  n : Int
  u : Int
  v : Int
def dsM (x y : Int) : Int := if x - y < 0 then y - x else x - y
theorem dsM_nn (x y : Int) : 0 ≤ dsM x y := by unfold dsM; split <;> omega
theorem dsM_abs (x y : Int) : dsM x y = ((x - y).natAbs : Int) := by unfold dsM; split <;> omega
def jyOn (j : Jy) (p : Int × Int) : Jy := ⟨p.1, p.2, j.n + 1, j.u + dsM p.1 j.a, j.v + dsM p.2 j.c⟩
def jyRun (xs ys : List Int) (j : Jy) : List Mv → Jy × Bool
  | [] => (j, true)
  | m :: r => if mvO xs ys m j.a j.c = true then jyRun xs ys (jyOn j (mvN m j.a j.c)) r else (j, false)
theorem jyRun_nil (xs ys : List Int) (j : Jy) : jyRun xs ys j [] = (j, true) := rfl
theorem jyRun_yes {xs ys : List Int} {j : Jy} {m : Mv} {r : List Mv} (h : mvO xs ys m j.a j.c = true) : jyRun xs ys j (m :: r) = jyRun xs ys (jyOn j (mvN m j.a j.c)) r := by
  show (if mvO xs ys m j.a j.c = true then _ else _) = _
  rw [if_pos h]
theorem jyRun_no {xs ys : List Int} {j : Jy} {m : Mv} {r : List Mv} (h : mvO xs ys m j.a j.c = false) : jyRun xs ys j (m :: r) = (j, false) := by
  show (if mvO xs ys m j.a j.c = true then _ else _) = _
  rw [if_neg (by rw [h]; simp)]
theorem drop_at {α : Type} {ms : List α} {k : Nat} {m : α} (h : ms[k]? = some m) : ms.drop k = m :: ms.drop (k + 1) := by
  obtain ⟨h1, e⟩ := List.getElem?_eq_some_iff.1 h
  rw [List.drop_eq_getElem_cons h1, e]
def jy0 (a c : Int) : Jy := ⟨a, c, 0, 0, 0⟩
/-- Bounds of what moves have done after k of them. -/
def JyB (j : Jy) (k : Nat) : Prop := sgB j.a j.c = true ∧ j.n = k ∧ (0 ≤ j.u ∧ j.u ≤ 2097152 * k) ∧ (0 ≤ j.v ∧ j.v ≤ 2097152 * k)
theorem JyB.zero {a c : Int} (h : sgB a c = true) : JyB (jy0 a c) 0 := ⟨h, rfl, ⟨by show (0 : Int) ≤ 0; omega, by show (0 : Int) ≤ _; omega⟩, ⟨by show (0 : Int) ≤ 0; omega, by show (0 : Int) ≤ _; omega⟩⟩
theorem dsM_sg {a c a' c' : Int} (h : sgB a c = true) (h' : sgB a' c' = true) : dsM a' a ≤ 2097152 ∧ dsM c' c ≤ 1048576 := by
  have h1 := (sgB_iff a c).1 h
  have h2 := (sgB_iff a' c').1 h'
  unfold dsM
  constructor <;> split <;> omega
theorem JyB.on {xs ys : List Int} {j : Jy} {k : Nat} {m : Mv} (h : JyB j k) (ho : mvO xs ys m j.a j.c = true) : JyB (jyOn j (mvN m j.a j.c)) (k + 1) := by
  obtain ⟨h1, h2, h3, h4⟩ := h
  have hs := mvO_sg ho
  obtain ⟨d1, d2⟩ := dsM_sg h1 hs
  have n1 := dsM_nn (mvN m j.a j.c).1 j.a
  have n2 := dsM_nn (mvN m j.a j.c).2 j.c
  refine ⟨hs, ?_, ⟨?_, ?_⟩, ⟨?_, ?_⟩⟩
  · show j.n + 1 = _; omega
  · show 0 ≤ j.u + dsM _ _; omega
  · show j.u + dsM (mvN m j.a j.c).1 j.a ≤ _; omega
  · show 0 ≤ j.v + dsM _ _; omega
  · show j.v + dsM (mvN m j.a j.c).2 j.c ≤ _; omega

/-- The code of a rule, a setting and moves. -/
def mvS (L : Int) (xs ys : List Int) (a c : Int) (ms : List Mv) : Int := if (rlB L xs ys && sgB a c) = false then 1 else mvC ms
theorem mvS_cases (L : Int) (xs ys : List Int) (a c : Int) (ms : List Mv) : (rlB L xs ys = false ∧ mvS L xs ys a c ms = 1) ∨ (rlB L xs ys = true ∧ sgB a c = false ∧ mvS L xs ys a c ms = 1) ∨ (rlB L xs ys = true ∧ sgB a c = true ∧ mvS L xs ys a c ms = mvC ms) := by
  unfold mvS
  cases rlB L xs ys <;> cases sgB a c <;> simp
theorem mvS_zero {L : Int} {xs ys : List Int} {a c : Int} {ms : List Mv} (h : mvS L xs ys a c ms = 0) : rlB L xs ys = true ∧ sgB a c = true ∧ mvC ms = 0 := by
  rcases mvS_cases L xs ys a c ms with ⟨-, e⟩ | ⟨-, -, e⟩ | ⟨h1, h2, e⟩
  · omega
  · omega
  · exact ⟨h1, h2, by omega⟩
/-- What RunMoves, FirstImpossible, TravelOf answer. -/
def rmR (L : Int) (xs ys : List Int) (a c : Int) (ms : List Mv) : (Int × Int) × Int :=
  if mvS L xs ys a c ms ≠ 0 then ((0, 0), mvS L xs ys a c ms) else if (jyRun xs ys (jy0 a c) ms).2 = true then (((jyRun xs ys (jy0 a c) ms).1.a, (jyRun xs ys (jy0 a c) ms).1.c), 0) else ((0, 0), 5)
def fiR (L : Int) (xs ys : List Int) (a c : Int) (ms : List Mv) : Int × Int :=
  if mvS L xs ys a c ms ≠ 0 then (0, mvS L xs ys a c ms) else if (jyRun xs ys (jy0 a c) ms).2 = true then (0, 4) else ((jyRun xs ys (jy0 a c) ms).1.n, 0)
def tvR (L : Int) (xs ys : List Int) (a c : Int) (ms : List Mv) : (Int × Int) × Int :=
  if mvS L xs ys a c ms ≠ 0 then ((0, 0), mvS L xs ys a c ms) else if (jyRun xs ys (jy0 a c) ms).2 = true then (((jyRun xs ys (jy0 a c) ms).1.u, (jyRun xs ys (jy0 a c) ms).1.v), 0) else ((0, 0), 5)
theorem rmR_code {L : Int} {xs ys : List Int} {a c : Int} {ms : List Mv} (h : mvS L xs ys a c ms ≠ 0) : rmR L xs ys a c ms = ((0, 0), mvS L xs ys a c ms) := if_pos h
theorem fiR_code {L : Int} {xs ys : List Int} {a c : Int} {ms : List Mv} (h : mvS L xs ys a c ms ≠ 0) : fiR L xs ys a c ms = (0, mvS L xs ys a c ms) := if_pos h
theorem tvR_code {L : Int} {xs ys : List Int} {a c : Int} {ms : List Mv} (h : mvS L xs ys a c ms ≠ 0) : tvR L xs ys a c ms = ((0, 0), mvS L xs ys a c ms) := if_pos h
theorem rmR_run {L : Int} {xs ys : List Int} {a c : Int} {ms : List Mv} (h : mvS L xs ys a c ms = 0) {j : Jy} (e : jyRun xs ys (jy0 a c) ms = (j, true)) : rmR L xs ys a c ms = ((j.a, j.c), 0) := by
  unfold rmR; rw [if_neg (by omega), e]; rfl
theorem fiR_run {L : Int} {xs ys : List Int} {a c : Int} {ms : List Mv} (h : mvS L xs ys a c ms = 0) {j : Jy} (e : jyRun xs ys (jy0 a c) ms = (j, true)) : fiR L xs ys a c ms = (0, 4) := by
  unfold fiR; rw [if_neg (by omega), e]; rfl
theorem tvR_run {L : Int} {xs ys : List Int} {a c : Int} {ms : List Mv} (h : mvS L xs ys a c ms = 0) {j : Jy} (e : jyRun xs ys (jy0 a c) ms = (j, true)) : tvR L xs ys a c ms = ((j.u, j.v), 0) := by
  unfold tvR; rw [if_neg (by omega), e]; rfl
theorem rmR_stop {L : Int} {xs ys : List Int} {a c : Int} {ms : List Mv} (h : mvS L xs ys a c ms = 0) {j : Jy} (e : jyRun xs ys (jy0 a c) ms = (j, false)) : rmR L xs ys a c ms = ((0, 0), 5) := by
  unfold rmR; rw [if_neg (by omega), e]; rfl
theorem fiR_stop {L : Int} {xs ys : List Int} {a c : Int} {ms : List Mv} (h : mvS L xs ys a c ms = 0) {j : Jy} (e : jyRun xs ys (jy0 a c) ms = (j, false)) : fiR L xs ys a c ms = (j.n, 0) := by
  unfold fiR; rw [if_neg (by omega), e]; rfl
theorem tvR_stop {L : Int} {xs ys : List Int} {a c : Int} {ms : List Mv} (h : mvS L xs ys a c ms = 0) {j : Jy} (e : jyRun xs ys (jy0 a c) ms = (j, false)) : tvR L xs ys a c ms = ((0, 0), 5) := by
  unfold tvR; rw [if_neg (by omega), e]; rfl
/-- Moves that look for a figure. -/
def mvCt (ms : List Mv) : Int := ((ms.filter (fun m => mvF m.1)).length : Nat)
theorem mvCt_snoc {ms : List Mv} {k : Nat} {m : Mv} (hm : ms[k]? = some m) : mvCt (ms.take (k + 1)) = mvCt (ms.take k) + (if mvF m.1 = true then 1 else 0) := by
  obtain ⟨h1, e⟩ := List.getElem?_eq_some_iff.1 hm
  unfold mvCt
  rw [List.take_succ_eq_append_getElem h1, e, List.filter_append, List.length_append]
  cases hc : mvF m.1 <;> simp [hc]
theorem mvCt_bd (ms : List Mv) (k : Nat) : 0 ≤ mvCt (ms.take k) ∧ mvCt (ms.take k) ≤ k := by
  unfold mvCt
  have h1 := List.length_filter_le (fun m : Mv => mvF m.1) (ms.take k)
  have h2 : (ms.take k).length ≤ k := by rw [List.length_take]; omega
  omega
def csR (ms : List Mv) : Int × Int := if mvC ms ≠ 0 then (0, mvC ms) else (mvCt ms, 0)
theorem csR_code {ms : List Mv} (h : mvC ms ≠ 0) : csR ms = (0, mvC ms) := if_pos h
theorem csR_ok {ms : List Mv} (h : mvC ms = 0) : csR ms = (mvCt ms, 0) := if_neg (by omega)
end Go.Proofs.YtphebmbapllinaaDoor

/- Plain mathematics of chapter 12: moves in two parts, the first impossible move. No program is imported here. -/
namespace Go.Proofs.YtphebmbapllinaaDoor
set_option linter.unusedSimpArgs false
set_option linter.unusedVariables false

theorem jyRun_app (xs ys : List Int) : ∀ (l1 : List Mv) (j : Jy) (l2 : List Mv), jyRun xs ys j (l1 ++ l2) = if (jyRun xs ys j l1).2 = true then jyRun xs ys (jyRun xs ys j l1).1 l2 else jyRun xs ys j l1
  | [], j, l2 => rfl
  | m :: r, j, l2 => by
    rw [List.cons_append]
    rcases mvO_tf xs ys m j.a j.c with h | h
    · rw [jyRun_yes h, jyRun_yes h]; exact jyRun_app xs ys r _ l2
    · rw [jyRun_no h, jyRun_no h]; rfl
def jyS (j : Jy) (n u v : Int) : Jy := ⟨j.a, j.c, j.n + n, j.u + u, j.v + v⟩
theorem jyRun_shift (xs ys : List Int) (n u v : Int) : ∀ (l : List Mv) (j : Jy), jyRun xs ys (jyS j n u v) l = (jyS (jyRun xs ys j l).1 n u v, (jyRun xs ys j l).2)
  | [], j => rfl
  | m :: r, j => by
    rcases mvO_tf xs ys m j.a j.c with h | h
    · have h' : mvO xs ys m (jyS j n u v).a (jyS j n u v).c = true := h
      rw [jyRun_yes h, jyRun_yes h', ← jyRun_shift xs ys n u v r]
      congr 1
      show Jy.mk _ _ (j.n + n + 1) (j.u + u + dsM (mvN m j.a j.c).1 j.a) (j.v + v + dsM (mvN m j.a j.c).2 j.c) = Jy.mk _ _ (j.n + 1 + n) (j.u + dsM (mvN m j.a j.c).1 j.a + u) (j.v + dsM (mvN m j.a j.c).2 j.c + v)
      congr 1 <;> omega
    · have h' : mvO xs ys m (jyS j n u v).a (jyS j n u v).c = false := h
      rw [jyRun_no h, jyRun_no h']
theorem jyS_of (j : Jy) : j = jyS (jy0 j.a j.c) j.n j.u j.v := by
  obtain ⟨a, c, n, u, v⟩ := j
  show Jy.mk a c n u v = Jy.mk a c (0 + n) (0 + u) (0 + v)
  congr 1 <;> omega
theorem mvC_take {ms : List Mv} (h : mvC ms = 0) (k : Nat) : mvC (ms.take k) = 0 := by
  obtain ⟨h1, h2⟩ := mvC_zero h
  refine mvC_ok ?_ (by rw [List.length_take]; omega)
  rw [List.all_eq_true] at h1 ⊢
  exact fun x hx => h1 x (List.mem_of_mem_take hx)
theorem mvC_drop {ms : List Mv} (h : mvC ms = 0) (k : Nat) : mvC (ms.drop k) = 0 := by
  obtain ⟨h1, h2⟩ := mvC_zero h
  refine mvC_ok ?_ (by rw [List.length_drop]; omega)
  rw [List.all_eq_true] at h1 ⊢
  exact fun x hx => h1 x (List.mem_of_mem_drop hx)
theorem mvS_of {L : Int} {xs ys : List Int} {a c : Int} {ms : List Mv} (h1 : rlB L xs ys = true) (h2 : sgB a c = true) (h3 : mvC ms = 0) : mvS L xs ys a c ms = 0 := by
  unfold mvS; rw [h1, h2, if_neg (by simp)]; exact h3
theorem jyRun_sg (xs ys : List Int) : ∀ (l : List Mv) (j : Jy), sgB j.a j.c = true → sgB (jyRun xs ys j l).1.a (jyRun xs ys j l).1.c = true
  | [], j, h => h
  | m :: r, j, h => by
    rcases mvO_tf xs ys m j.a j.c with ho | ho
    · rw [jyRun_yes ho]; exact jyRun_sg xs ys r _ (mvO_sg ho)
    · rw [jyRun_no ho]; exact h
/-- Moves in two parts. -/
theorem jy_parts {xs ys : List Int} {a c : Int} {ms : List Mv} {J : Jy} (h : jyRun xs ys (jy0 a c) ms = (J, true)) (hs : sgB a c = true) (k : Nat) :
    ∃ H D : Jy, jyRun xs ys (jy0 a c) (ms.take k) = (H, true) ∧ sgB H.a H.c = true ∧ jyRun xs ys (jy0 H.a H.c) (ms.drop k) = (D, true) ∧ D.a = J.a ∧ D.c = J.c ∧ H.u + D.u = J.u ∧ H.v + D.v = J.v := by
  have h1 := jyRun_app xs ys (ms.take k) (jy0 a c) (ms.drop k)
  rw [List.take_append_drop, h] at h1
  have h3 := jyRun_sg xs ys (ms.take k) (jy0 a c) hs
  generalize hR : jyRun xs ys (jy0 a c) (ms.take k) = R at *
  obtain ⟨H, b⟩ := R
  cases b
  · rw [if_neg (by simp)] at h1; cases h1
  · rw [if_pos rfl] at h1
    have h2 := jyRun_shift xs ys H.n H.u H.v (ms.drop k) (jy0 H.a H.c)
    rw [← jyS_of H] at h2
    simp only at h1 h3
    rw [← h1] at h2
    generalize hD : jyRun xs ys (jy0 H.a H.c) (ms.drop k) = D at *
    obtain ⟨D, b⟩ := D
    simp only at h2
    have e1 : J = jyS D H.n H.u H.v := congrArg Prod.fst h2
    have e2 : true = b := congrArg Prod.snd h2
    subst e2
    refine ⟨H, D, rfl, h3, hD, ?_, ?_, ?_, ?_⟩
    · rw [e1]; rfl
    · rw [e1]; rfl
    · rw [e1]; show _ = D.u + H.u; omega
    · rw [e1]; show _ = D.v + H.v; omega
/-- The first impossible move. -/
theorem jy_stop (xs ys : List Int) : ∀ (ms : List Mv) (j J : Jy), jyRun xs ys j ms = (J, false) → ∃ k : Nat, k < ms.length ∧ J.n = j.n + k ∧ jyRun xs ys j (ms.take k) = (J, true) ∧ jyRun xs ys j (ms.take (k + 1)) = (J, false)
  | [], j, J, h => by rw [jyRun_nil] at h; cases h
  | m :: r, j, J, h => by
    rcases mvO_tf xs ys m j.a j.c with ho | ho
    · rw [jyRun_yes ho] at h
      obtain ⟨k, h1, h2, h3, h4⟩ := jy_stop xs ys r _ J h
      refine ⟨k + 1, by simp; omega, ?_, ?_, ?_⟩
      · rw [h2]; show j.n + 1 + _ = _; omega
      · rw [List.take_succ_cons, jyRun_yes ho]; exact h3
      · rw [List.take_succ_cons, jyRun_yes ho]; exact h4
    · rw [jyRun_no ho] at h
      have e : j = J := congrArg Prod.fst h
      subst e
      exact ⟨0, by simp, by simp, by rw [List.take_zero]; rfl, by rw [List.take_succ_cons, jyRun_no ho]⟩
end Go.Proofs.YtphebmbapllinaaDoor
