/- Chapter 5: scales, positions, places and distances, as functions of numbers. -/
import Derived.Test.YtgadkpkpdpphbaaDoorM05
namespace Go.Proofs.YtgadkpkpdpphbaaDoor
set_option linter.unusedVariables false
set_option linter.unusedSimpArgs false

def sc (s : Int) : Bool := decide (0 ≤ s ∧ s ≤ 5)
theorem sc_iff (s : Int) : sc s = true ↔ (0 ≤ s ∧ s ≤ 5) := by unfold sc; simp
theorem sc_not (s : Int) : sc s = false ↔ ¬ (0 ≤ s ∧ s ≤ 5) := by unfold sc; simp
theorem sc_tf (s : Int) : sc s = true ∨ sc s = false := by cases sc s <;> simp
theorem scale_cases (s : Int) (h : sc s = true) : s = 0 ∨ s = 1 ∨ s = 2 ∨ s = 3 ∨ s = 4 ∨ s = 5 := by
  have := (sc_iff s).1 h
  omega

def riR (s : Int) : Bool × Int := if sc s = true then (decide (s ≠ 3), 0) else (false, 2)
theorem riR_ok (s : Int) (h : sc s = true) : riR s = (decide (s ≠ 3), 0) := if_pos h
theorem riR_no (s : Int) (h : sc s = false) : riR s = (false, 2) := if_neg (by rw [h]; simp)

/-- How many decades a scale shows. -/
def dec (s : Int) : Int := if s = 1 then 2 else if s = 2 then 3 else 1
def deR (s : Int) : Int × Int := if sc s = true then (dec s, 0) else (0, 2)
theorem deR_ok (s : Int) (h : sc s = true) : deR s = (dec s, 0) := if_pos h
theorem deR_no (s : Int) (h : sc s = false) : deR s = (0, 2) := if_neg (by rw [h]; simp)

/-- A figure on a scale of k decades. -/
def rep (d t k : Int) : Int × Int := ((lgb false (d * 100000) + t % k * 1048576).fdiv k, cd (lgb true (d * 100000) + 1 + t % k * 1048576) k)
theorem cd_one (a : Int) : cd a 1 = a := by unfold cd; simp
theorem rep_one (d t : Int) : rep d t 1 = (lgb false (d * 100000), lgb true (d * 100000) + 1) := by
  unfold rep
  rw [Int.emod_one, cd_one, Int.zero_mul, Int.add_zero, Int.add_zero, Int.fdiv_one]
/-- A figure on the folded scale. -/
def fld (d : Int) : Int × Int :=
  if lgb false (d * 100000) - (lgb true 314200000 + 1) < 0 then (lgb false (d * 100000) - (lgb true 314200000 + 1) + 1048576, lgb true (d * 100000) + 1 - lgb false 314200000 + 1048576)
  else (lgb false (d * 100000) - (lgb true 314200000 + 1), lgb true (d * 100000) + 1 - lgb false 314200000)
theorem fld_lo (d : Int) (h : lgb false (d * 100000) - (lgb true 314200000 + 1) < 0) : fld d = (lgb false (d * 100000) - (lgb true 314200000 + 1) + 1048576, lgb true (d * 100000) + 1 - lgb false 314200000 + 1048576) := if_pos h
theorem fld_hi (d : Int) (h : ¬ lgb false (d * 100000) - (lgb true 314200000 + 1) < 0) : fld d = (lgb false (d * 100000) - (lgb true 314200000 + 1), lgb true (d * 100000) + 1 - lgb false 314200000) := if_neg h

/-- The position of a figure. -/
def psn (s d t : Int) : Int × Int :=
  if s = 1 then rep d t 2 else if s = 2 then rep d t 3
  else if s = 3 then (1048576 - (lgb true (d * 100000) + 1), 1048576 - lgb false (d * 100000))
  else if s = 4 then fld d
  else if s = 5 then (((d - 1000) * 1048576).fdiv 9000, cd ((d - 1000) * 1048576) 9000)
  else (lgb false (d * 100000), lgb true (d * 100000) + 1)
theorem psn_0 (d t : Int) : psn 0 d t = (lgb false (d * 100000), lgb true (d * 100000) + 1) := rfl
theorem psn_1 (d t : Int) : psn 1 d t = rep d t 2 := rfl
theorem psn_2 (d t : Int) : psn 2 d t = rep d t 3 := rfl
theorem psn_3 (d t : Int) : psn 3 d t = (1048576 - (lgb true (d * 100000) + 1), 1048576 - lgb false (d * 100000)) := by rw [psn, if_neg (by decide), if_neg (by decide), if_pos rfl]
theorem psn_4 (d t : Int) : psn 4 d t = fld d := by rw [psn, if_neg (by decide), if_neg (by decide), if_neg (by decide), if_pos rfl]
theorem psn_5 (d t : Int) : psn 5 d t = (((d - 1000) * 1048576).fdiv 9000, cd ((d - 1000) * 1048576) 9000) := by rw [psn, if_neg (by decide), if_neg (by decide), if_neg (by decide), if_neg (by decide), if_pos rfl]

theorem rep_bd (d t k : Int) (h : fg d t = true) (k1 : 1 ≤ k) (k2 : k ≤ 3) : 0 ≤ (rep d t k).1 ∧ (rep d t k).1 ≤ 3145728 ∧ 0 ≤ (rep d t k).2 ∧ (rep d t k).2 ≤ 3145728 ∧ (rep d t k).1 ≤ 1048576 ∧ (rep d t k).2 ≤ 1048576 := by
  obtain ⟨⟨d1, d2⟩, -⟩ := (fg_iff d t).1 h
  obtain ⟨a1, a2⟩ := lgb_bd false (d * 100000) (by omega) (by omega)
  obtain ⟨b1, b2⟩ := lgb_bd true (d * 100000) (by omega) (by omega)
  unfold rep
  rw [cd_lit _ _ (by omega), Int.fdiv_eq_ediv_of_nonneg _ (by omega)]
  rcases (show k = 1 ∨ k = 2 ∨ k = 3 by omega) with rfl | rfl | rfl <;> simp only <;> omega
theorem fld_bd (d t : Int) (h : fg d t = true) : -2 ≤ (fld d).1 ∧ (fld d).1 ≤ 1048577 ∧ -1048577 ≤ (fld d).2 ∧ (fld d).2 ≤ 2097153 := by
  obtain ⟨⟨d1, d2⟩, -⟩ := (fg_iff d t).1 h
  obtain ⟨a1, a2⟩ := lgb_bd false (d * 100000) (by omega) (by omega)
  obtain ⟨b1, b2⟩ := lgb_bd true (d * 100000) (by omega) (by omega)
  obtain ⟨p1, p2⟩ := lgb_bd false 314200000 (by omega) (by omega)
  obtain ⟨q1, q2⟩ := lgb_bd true 314200000 (by omega) (by omega)
  unfold fld
  generalize lgb true 314200000 = q at *
  generalize lgb false 314200000 = p at *
  generalize lgb false (d * 100000) = a at *
  generalize lgb true (d * 100000) = b at *
  split
  · simp only; omega
  · simp only; omega
/-- Rough bounds of a position: enough for the arithmetic behind it. -/
theorem psn_bd (s d t : Int) (h : fg d t = true) : -2000000 ≤ (psn s d t).1 ∧ (psn s d t).1 ≤ 3200000 ∧ -2000000 ≤ (psn s d t).2 ∧ (psn s d t).2 ≤ 3200000 := by
  obtain ⟨⟨d1, d2⟩, -⟩ := (fg_iff d t).1 h
  obtain ⟨a1, a2⟩ := lgb_bd false (d * 100000) (by omega) (by omega)
  obtain ⟨b1, b2⟩ := lgb_bd true (d * 100000) (by omega) (by omega)
  have r2 := rep_bd d t 2 h (by omega) (by omega)
  have r3 := rep_bd d t 3 h (by omega) (by omega)
  have f := fld_bd d t h
  unfold psn
  repeat' split
  · omega
  · omega
  · simp only; omega
  · omega
  · rw [cd_lit _ _ (by omega), Int.fdiv_eq_ediv_of_nonneg _ (by omega)]; simp only; omega
  · simp only; omega

/-- What PositionOf answers first: the code. -/
def pcd (s d t : Int) : Int := if fg d t = false then 1 else if sc s = false ∨ (s = 5 ∧ t ≠ 0) then 2 else 0
def poR (s d t : Int) : (Int × Int) × Int := if pcd s d t = 0 then (psn s d t, 0) else ((0, 0), pcd s d t)
theorem pcd_cases (s d t : Int) : (fg d t = false ∧ pcd s d t = 1) ∨ (fg d t = true ∧ sc s = false ∧ pcd s d t = 2) ∨ (fg d t = true ∧ s = 5 ∧ t ≠ 0 ∧ pcd s d t = 2) ∨ (fg d t = true ∧ sc s = true ∧ ¬ (s = 5 ∧ t ≠ 0) ∧ pcd s d t = 0) := by
  unfold pcd
  cases h1 : fg d t
  · simp
  · cases h2 : sc s
    · simp
    · by_cases h3 : s = 5 ∧ t ≠ 0
      · obtain ⟨rfl, h4⟩ := h3
        simp [h4]
      · simp [h3]
theorem poR_ok (s d t : Int) (h : pcd s d t = 0) : poR s d t = (psn s d t, 0) := if_pos h
theorem poR_no (s d t : Int) (h : pcd s d t ≠ 0) : poR s d t = ((0, 0), pcd s d t) := if_neg h

def ln (l : Int) : Bool := decide (1 ≤ l ∧ l ≤ 100000)
theorem ln_iff (l : Int) : ln l = true ↔ (1 ≤ l ∧ l ≤ 100000) := by unfold ln; simp
theorem ln_tf (l : Int) : ln l = true ∨ ln l = false := by cases ln l <;> simp
def plc (a b l : Int) : Int × Int := ((a * l).fdiv 1048576, cd (b * l) 1048576)
/-- The place of a figure: its code, its interval. -/
def qcd (s d t l : Int) : Int := if pcd s d t ≠ 0 then pcd s d t else if ln l = false then 2 else 0
def plR (s d t l : Int) : (Int × Int) × Int := if qcd s d t l = 0 then (plc (psn s d t).1 (psn s d t).2 l, 0) else ((0, 0), qcd s d t l)
theorem plR_ok (s d t l : Int) (h : qcd s d t l = 0) : plR s d t l = (plc (psn s d t).1 (psn s d t).2 l, 0) := if_pos h
theorem plR_no (s d t l : Int) (h : qcd s d t l ≠ 0) : plR s d t l = ((0, 0), qcd s d t l) := if_neg h
theorem qcd_cases (s d t l : Int) : (pcd s d t = 1 ∧ fg d t = false ∧ qcd s d t l = 1) ∨ (pcd s d t = 2 ∧ fg d t = true ∧ qcd s d t l = 2) ∨ (pcd s d t = 0 ∧ fg d t = true ∧ ln l = false ∧ qcd s d t l = 2) ∨ (pcd s d t = 0 ∧ fg d t = true ∧ ln l = true ∧ qcd s d t l = 0) := by
  unfold qcd
  rcases pcd_cases s d t with ⟨h, e⟩ | ⟨h, -, e⟩ | ⟨h, -, -, e⟩ | ⟨h, -, -, e⟩
  · simp [e, h]
  · simp [e, h]
  · simp [e, h]
  · cases hl : ln l <;> simp [e, h]
theorem mul_len (a l : Int) (a1 : -2000000 ≤ a) (a2 : a ≤ 3200000) (l1 : 1 ≤ l) (l2 : l ≤ 100000) : -200000000000 ≤ a * l ∧ a * l ≤ 320000000000 := by
  constructor
  · have h1 := Int.mul_le_mul_of_nonneg_right a1 (show 0 ≤ l by omega)
    omega
  · have h1 := Int.mul_le_mul_of_nonneg_right a2 (show 0 ≤ l by omega)
    omega
theorem plc_bd (a b l : Int) (a1 : -2000000 ≤ a) (a2 : a ≤ 3200000) (b1 : -2000000 ≤ b) (b2 : b ≤ 3200000) (l1 : 1 ≤ l) (l2 : l ≤ 100000) : -200000 ≤ (plc a b l).1 ∧ (plc a b l).1 ≤ 310000 ∧ -200000 ≤ (plc a b l).2 ∧ (plc a b l).2 ≤ 310000 := by
  have p := mul_len a l a1 a2 l1 l2
  have q := mul_len b l b1 b2 l1 l2
  unfold plc
  rw [cd_lit _ _ (by omega), Int.fdiv_eq_ediv_of_nonneg _ (by omega)]
  simp only
  omega

end Go.Proofs.YtgadkpkpdpphbaaDoor
