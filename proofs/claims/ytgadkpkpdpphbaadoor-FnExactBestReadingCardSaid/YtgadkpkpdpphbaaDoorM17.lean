/- Chapter 5: positions and places are intervals; what a distance is. -/
import Derived.Test.YtgadkpkpdpphbaaDoorM16
import Derived.Test.YtgadkpkpdpphbaaDoorM10
namespace Go.Proofs.YtgadkpkpdpphbaaDoor
set_option linter.unusedVariables false
set_option linter.unusedSimpArgs false

theorem lgb_le (x : Int) (h1 : 100000000 ≤ x) (h2 : x ≤ 999999999) : lgb false x ≤ lgb true x := by
  obtain ⟨n, rfl⟩ := Int.eq_ofNat_of_zero_le (show 0 ≤ x by omega)
  exact (lgb_width n (by omega) (by omega)).1
theorem fdiv_le_cd {a b k : Int} (h : a ≤ b) (hk : 1 ≤ k) : a.fdiv k ≤ cd b k := by
  rw [cd_lit _ _ (by omega), Int.fdiv_eq_ediv_of_nonneg _ (by omega)]
  have h1 := Int.mul_ediv_add_emod a k
  have h2 := Int.mul_ediv_add_emod (-b) k
  have h3 := Int.emod_nonneg a (show k ≠ 0 by omega)
  have h4 := Int.emod_nonneg (-b) (show k ≠ 0 by omega)
  by_cases hc : a / k ≤ -(-b / k)
  · exact hc
  · exfalso
    have h5 : 1 ≤ a / k + (-b / k) := by omega
    have h6 := Int.mul_le_mul_of_nonneg_left h5 (show 0 ≤ k by omega)
    rw [Int.mul_add] at h6
    omega
theorem rep_le (d t k : Int) (h : fg d t = true) (hk : 1 ≤ k) : (rep d t k).1 ≤ (rep d t k).2 := by
  obtain ⟨⟨d1, d2⟩, -⟩ := (fg_iff d t).1 h
  have := lgb_le (d * 100000) (by omega) (by omega)
  unfold rep
  exact fdiv_le_cd (by omega) hk
theorem fld_le (d t : Int) (h : fg d t = true) : (fld d).1 ≤ (fld d).2 := by
  obtain ⟨⟨d1, d2⟩, -⟩ := (fg_iff d t).1 h
  have h1 := lgb_le (d * 100000) (by omega) (by omega)
  have h2 := lgb_le 314200000 (by omega) (by omega)
  unfold fld
  generalize lgb true 314200000 = q at *
  generalize lgb false 314200000 = p at *
  generalize lgb false (d * 100000) = a at *
  generalize lgb true (d * 100000) = b at *
  split <;> simp only <;> omega
theorem psn_le (s d t : Int) (h : fg d t = true) : (psn s d t).1 ≤ (psn s d t).2 := by
  obtain ⟨⟨d1, d2⟩, -⟩ := (fg_iff d t).1 h
  have h1 := lgb_le (d * 100000) (by omega) (by omega)
  unfold psn
  repeat' split
  · exact rep_le d t 2 h (by omega)
  · exact rep_le d t 3 h (by omega)
  · simp only; omega
  · exact fld_le d t h
  · exact fdiv_le_cd (by omega) (by omega)
  · simp only; omega
theorem plc_le (a b l : Int) (h : a ≤ b) (h0 : 0 ≤ l) : (plc a b l).1 ≤ (plc a b l).2 := by
  unfold plc
  exact fdiv_le_cd (Int.mul_le_mul_of_nonneg_right h h0) (by omega)

/-- The place of a figure, as an interval. -/
def pl (s d t l : Int) : Int × Int := plc (psn s d t).1 (psn s d t).2 l
theorem pl_bd (s d t l : Int) (h : fg d t = true) (hl : ln l = true) : -200000 ≤ (pl s d t l).1 ∧ (pl s d t l).1 ≤ 310000 ∧ -200000 ≤ (pl s d t l).2 ∧ (pl s d t l).2 ≤ 310000 ∧ (pl s d t l).1 ≤ (pl s d t l).2 := by
  obtain ⟨p1, p2, p3, p4⟩ := psn_bd s d t h
  obtain ⟨l1, l2⟩ := (ln_iff l).1 hl
  obtain ⟨q1, q2, q3, q4⟩ := plc_bd _ _ l p1 p2 p3 p4 l1 l2
  exact ⟨q1, q2, q3, q4, plc_le _ _ l (psn_le s d t h) (by omega)⟩
theorem plR_pl (s d t l : Int) (h : qcd s d t l = 0) : plR s d t l = (pl s d t l, 0) := plR_ok s d t l h

/-- What DistanceBetween answers. -/
def dbR (s a t b u l : Int) : (Int × Int) × Int :=
  if (fg a t && fg b u) = false then ((0, 0), 1) else if qcd s a t l ≠ 0 ∨ qcd s b u l ≠ 0 then ((0, 0), 2)
  else (((pl s b u l).1 - (pl s a t l).2, (pl s b u l).2 - (pl s a t l).1), 0)
theorem dbR_in (s a t b u l : Int) (h : (fg a t && fg b u) = false) : dbR s a t b u l = ((0, 0), 1) := if_pos h
theorem dbR_rg (s a t b u l : Int) (h : (fg a t && fg b u) = true) (h1 : qcd s a t l ≠ 0 ∨ qcd s b u l ≠ 0) : dbR s a t b u l = ((0, 0), 2) := by
  unfold dbR; rw [if_neg (by rw [h]; simp), if_pos h1]
theorem dbR_ok (s a t b u l : Int) (h : (fg a t && fg b u) = true) (h1 : qcd s a t l = 0) (h2 : qcd s b u l = 0) : dbR s a t b u l = (((pl s b u l).1 - (pl s a t l).2, (pl s b u l).2 - (pl s a t l).1), 0) := by
  unfold dbR; rw [if_neg (by rw [h]; simp), if_neg (by omega)]
theorem db_cases (s a t b u l : Int) : ((fg a t && fg b u) = false ∧ (fg a t = false ∨ (fg a t = true ∧ fg b u = false))) ∨
    ((fg a t && fg b u) = true ∧ fg a t = true ∧ fg b u = true ∧ qcd s a t l = 2 ∧ (qcd s b u l = 2 ∨ qcd s b u l = 0)) ∨
    ((fg a t && fg b u) = true ∧ fg a t = true ∧ fg b u = true ∧ qcd s a t l = 0 ∧ qcd s b u l = 2) ∨
    ((fg a t && fg b u) = true ∧ fg a t = true ∧ fg b u = true ∧ qcd s a t l = 0 ∧ qcd s b u l = 0 ∧ ln l = true) := by
  cases h1 : fg a t
  · simp
  · cases h2 : fg b u
    · simp
    · rcases qcd_cases s a t l with ⟨-, h, -⟩ | ⟨-, -, e⟩ | ⟨-, -, -, e⟩ | ⟨-, -, hl, e⟩
      · rw [h1] at h; cases h
      all_goals rcases qcd_cases s b u l with ⟨-, h', -⟩ | ⟨-, -, e'⟩ | ⟨-, -, -, e'⟩ | ⟨-, -, hl', e'⟩
      all_goals first
        | (rw [h2] at h'; cases h'; done)
        | simp_all
theorem sub_iv (a b c d : Int) (a1 : -200000 ≤ a) (b2 : b ≤ 310000) (ab : a ≤ b) (c1 : -200000 ≤ c) (d2 : d ≤ 310000) (cd' : c ≤ d) : suR a b c d = ((a - d, b - c), 0) := by
  have e1 : iv a b = true := (iv_iff a b).2 ⟨by omega, by omega, ab⟩
  have e2 : iv c d = true := (iv_iff c d).2 ⟨by omega, by omega, cd'⟩
  rw [suR_ok a b c d (by rw [e1, e2]; rfl), rsi_ok]
  exact (iv_iff _ _).2 ⟨by omega, by omega, by omega⟩
theorem db_sub (s a t b u l : Int) (h1 : fg a t = true) (h2 : fg b u = true) (hl : ln l = true) :
    suR (pl s b u l).1 (pl s b u l).2 (pl s a t l).1 (pl s a t l).2 = (((pl s b u l).1 - (pl s a t l).2, (pl s b u l).2 - (pl s a t l).1), 0) := by
  obtain ⟨p1, p2, p3, p4, p5⟩ := pl_bd s a t l h1 hl
  obtain ⟨q1, q2, q3, q4, q5⟩ := pl_bd s b u l h2 hl
  exact sub_iv _ _ _ _ q1 q4 q5 p1 p4 p5
end Go.Proofs.YtgadkpkpdpphbaaDoor
