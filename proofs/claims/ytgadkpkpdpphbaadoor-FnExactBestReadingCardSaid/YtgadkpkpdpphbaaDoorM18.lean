/- Chapter 5: greater figures stand farther to the right; places lie on the rule. -/
import Derived.Test.YtgadkpkpdpphbaaDoorM17
namespace Go.Proofs.YtgadkpkpdpphbaaDoor
set_option linter.unusedVariables false
set_option linter.unusedSimpArgs false

theorem half_num (d : Nat) (h : d ≤ 9998) : 1000 * (100000000 * (d * d)) ≤ 97902850 * ((d + 524288) * (d + 524288)) := by
  have h1 : d * d ≤ 9998 * 9998 := Nat.mul_le_mul h h
  have h2 : 524288 * 524288 ≤ (d + 524288) * (d + 524288) := Nat.mul_le_mul (by omega) (by omega)
  calc 1000 * (100000000 * (d * d)) ≤ 1000 * (100000000 * (9998 * 9998)) := Nat.mul_le_mul_left _ (Nat.mul_le_mul_left _ h1)
    _ ≤ 97902850 * (524288 * 524288) := by decide
    _ ≤ _ := Nat.mul_le_mul_left _ h2
/-- Half a decade, in units. -/
def NH : Nat := 2 ^ 19
theorem NH_eq : NH = 524288 := by decide
theorem NN_half : NN = 2 * NH := by decide
/-- Neighbours are three units apart at least. -/
theorem lgb_three (d : Nat) (h1 : 1000 ≤ d) (h2 : d ≤ 9998) : lgb false (((d * 100000 : Nat) : Int)) + 3 ≤ lgb false ((((d + 1) * 100000 : Nat) : Int)) := by
  obtain ⟨n, f, b1, b2⟩ := lgb_low (d * 100000) (dig_bd d (by omega) (by omega)).1 (dig_bd d (by omega) (by omega)).2
  obtain ⟨m, e, a1, a2⟩ := lgb_low ((d + 1) * 100000) (dig_bd (d + 1) (by omega) (by omega)).1 (dig_bd (d + 1) (by omega) (by omega)).2
  have hb := bern2 d NH
  have p1 : d ^ NN = d ^ NH * d ^ NH := by rw [NN_half, pow_two_mul]
  have p2 : (d + 1) ^ NN = (d + 1) ^ NH * (d + 1) ^ NH := by rw [NN_half, pow_two_mul]
  have hz : 0 < 100000000 ^ NN := Nat.pow_pos (by omega)
  rw [e, f]
  rw [Nat.mul_pow, p1] at b1
  rw [Nat.mul_pow, p2] at a2
  clear p1 p2 b2 a1 e f
  have key : 10 ^ n * (97902850 * ((d + NH) * (d + NH))) < 10 ^ (m + 1) * (100000000 * (d * d)) := by
    rw [Nat.pow_succ]
    generalize (d + 1) ^ NH = g at *
    generalize d ^ NH = u at *
    generalize 100000 ^ NN = v at *
    generalize 100000000 ^ NN = z at *
    refine Nat.lt_of_mul_lt_mul_right (a := z) ?_
    calc 10 ^ n * (97902850 * ((d + NH) * (d + NH))) * z = (10 ^ n * z) * (97902850 * ((d + NH) * (d + NH))) := by ac_rfl
      _ ≤ (u * u * v) * (97902850 * ((d + NH) * (d + NH))) := Nat.mul_le_mul_right _ b1
      _ = (u * (d + NH)) * (u * (d + NH)) * (v * 97902850) := by ac_rfl
      _ ≤ (g * d) * (g * d) * (v * 97902850) := Nat.mul_le_mul_right _ (Nat.mul_le_mul hb hb)
      _ = (g * g * v * 97902850) * (d * d) := by ac_rfl
      _ < (10 ^ m * 10 * z * 100000000) * (d * d) := Nat.mul_lt_mul_of_pos_right a2 (Nat.mul_pos (by omega) (by omega))
      _ = 10 ^ m * 10 * (100000000 * (d * d)) * z := by ac_rfl
  rw [NH_eq] at key
  have fin : n + 3 < m + 1 := by
    refine pow_lt (Nat.lt_of_mul_lt_mul_right (a := 100000000 * (d * d)) ?_)
    calc 10 ^ (n + 3) * (100000000 * (d * d)) = 10 ^ n * (1000 * (100000000 * (d * d))) := by rw [Nat.pow_add, Nat.mul_assoc]
      _ ≤ 10 ^ n * (97902850 * ((d + 524288) * (d + 524288))) := Nat.mul_le_mul_left _ (half_num d h2)
      _ < _ := key
  omega
theorem lg3 (d : Int) (h1 : 1000 ≤ d) (h2 : d ≤ 9998) : lgb false (d * 100000) + 3 ≤ lgb false ((d + 1) * 100000) ∧ lgb true (d * 100000) + 1 < lgb false ((d + 1) * 100000) := by
  obtain ⟨n, rfl⟩ := Int.eq_ofNat_of_zero_le (show 0 ≤ d by omega)
  have a := lgb_three n (by omega) (by omega)
  have b := lgb_next n (by omega) (by omega)
  have e1 : ((n * 100000 : Nat) : Int) = (n : Int) * 100000 := by simp
  have e2 : (((n + 1) * 100000 : Nat) : Int) = ((n : Int) + 1) * 100000 := by simp
  rw [e1, e2] at a b
  exact ⟨a, b⟩
theorem lg_mono (d : Int) (h1 : 1000 ≤ d) : ∀ k : Nat, d + k ≤ 9999 → lgb false (d * 100000) ≤ lgb false ((d + k) * 100000)
  | 0, _ => by simp
  | k + 1, h => by
    have ih := lg_mono d h1 k (by omega)
    have s := (lg3 (d + k) (by omega) (by omega)).1
    have e : d + (k : Int) + 1 = d + ((k + 1 : Nat) : Int) := by omega
    rw [e] at s
    omega
theorem lg_le (d e : Int) (h1 : 1000 ≤ d) (h : d ≤ e) (h2 : e ≤ 9999) : lgb false (d * 100000) ≤ lgb false (e * 100000) := by
  have := lg_mono d h1 (e - d).toNat (by omega)
  rwa [show d + ((e - d).toNat : Int) = e by omega] at this
theorem lg_wd (d : Int) (h1 : 1000 ≤ d) (h2 : d ≤ 9999) : lgb false (d * 100000) ≤ lgb true (d * 100000) ∧ lgb true (d * 100000) ≤ lgb false (d * 100000) + 1 := by
  obtain ⟨n, rfl⟩ := Int.eq_ofNat_of_zero_le (show 0 ≤ d by omega)
  have e1 : (n : Int) * 100000 = ((n * 100000 : Nat) : Int) := by simp
  rw [e1]
  exact lgb_width (n * 100000) (dig_bd n (by omega) (by omega)).1 (dig_bd n (by omega) (by omega)).2
theorem fdiv_step (a b k : Int) (h : a + 3 ≤ b) (k1 : 1 ≤ k) (k2 : k ≤ 3) : a.fdiv k < b.fdiv k := by
  rw [Int.fdiv_eq_ediv_of_nonneg _ (by omega), Int.fdiv_eq_ediv_of_nonneg _ (by omega)]
  rcases (show k = 1 ∨ k = 2 ∨ k = 3 by omega) with rfl | rfl | rfl <;> omega
theorem fld_next (d : Int) (h1 : 1000 ≤ d) (h2 : d ≤ 9998) (h3 : d ≠ 3142) : (fld d).1 < (fld (d + 1)).1 := by
  have s := (lg3 d h1 h2).1
  have q := lg_wd 3142 (by omega) (by omega)
  have e : (3142 : Int) * 100000 = 314200000 := by decide
  have hm : d ≤ 3141 → lgb false ((d + 1) * 100000) ≤ lgb false 314200000 := fun h => by have := lg_le (d + 1) 3142 (by omega) (by omega) (by omega); rwa [e] at this
  have hM : 3143 ≤ d → lgb true 314200000 + 1 < lgb false (d * 100000) := fun h => by
    have a := (lg3 3142 (by omega) (by omega)).2
    have b := lg_le 3143 d (by omega) h (by omega)
    rw [e] at a
    exact Int.lt_of_lt_of_le a b
  rw [e] at q
  unfold fld
  generalize lgb false ((d + 1) * 100000) = x at *
  generalize lgb true ((d + 1) * 100000) = y at *
  generalize lgb false (d * 100000) = a at *
  generalize lgb true (d * 100000) = b at *
  generalize lgb true 314200000 = u at *
  generalize lgb false 314200000 = v at *
  by_cases c1 : d ≤ 3141
  · have := hm c1
    rw [if_pos (by omega), if_pos (by omega)]
    simp only; omega
  · have := hM (by omega)
    rw [if_neg (by omega), if_neg (by omega)]
    simp only; omega
/-- On a rising scale the next figure stands farther to the right. -/
theorem psn_up (s d t : Int) (h1 : 1000 ≤ d) (h2 : d ≤ 9998) (hs : s ≠ 3) (h4 : ¬ (s = 4 ∧ d = 3142)) : (psn s d t).1 < (psn s (d + 1) t).1 := by
  have a := (lg3 d h1 h2).1
  unfold psn
  rw [if_neg hs, if_neg hs]
  by_cases c1 : s = 1
  · rw [if_pos c1, if_pos c1]
    unfold rep
    exact fdiv_step _ _ 2 (by omega) (by omega) (by omega)
  rw [if_neg c1, if_neg c1]
  by_cases c2 : s = 2
  · rw [if_pos c2, if_pos c2]
    unfold rep
    exact fdiv_step _ _ 3 (by omega) (by omega) (by omega)
  rw [if_neg c2, if_neg c2]
  by_cases c4 : s = 4
  · rw [if_pos c4, if_pos c4]
    exact fld_next d h1 h2 (by omega)
  rw [if_neg c4, if_neg c4]
  by_cases c5 : s = 5
  · rw [if_pos c5, if_pos c5]
    simp only
    rw [Int.fdiv_eq_ediv_of_nonneg _ (by omega), Int.fdiv_eq_ediv_of_nonneg _ (by omega)]
    omega
  rw [if_neg c5, if_neg c5]
  simp only; omega
/-- On the falling scale it stands farther to the left. -/
theorem psn_down (d t : Int) (h1 : 1000 ≤ d) (h2 : d ≤ 9998) : (psn 3 (d + 1) t).1 < (psn 3 d t).1 := by
  have a := (lg3 d h1 h2).2
  have b := (lg_wd (d + 1) (by omega) (by omega)).1
  rw [psn_3, psn_3]
  simp only; omega
/-- The same figure on A and its root on C. -/
theorem psn_root (d t : Int) (h1 : 1000 ≤ d) (h2 : d ≤ 9999) : 2 * (psn 1 d 0).1 ≤ (psn 0 d t).1 ∧ (psn 0 d t).2 ≤ 2 * (psn 1 d 0).2 := by
  rw [psn_1, psn_0]
  unfold rep
  rw [Int.fdiv_eq_ediv_of_nonneg _ (by omega), cd_lit _ _ (by omega)]
  simp only; omega
theorem fld_on (d : Int) (h1 : 1000 ≤ d) (h2 : d ≤ 9999) : -2 ≤ (fld d).1 ∧ (fld d).2 ≤ 1048580 := by
  obtain ⟨a1, a2⟩ := lgb_bd false (d * 100000) (by omega) (by omega)
  obtain ⟨b1, b2⟩ := lgb_bd true (d * 100000) (by omega) (by omega)
  obtain ⟨p1, p2⟩ := lgb_bd false 314200000 (by omega) (by omega)
  obtain ⟨q1, q2⟩ := lgb_bd true 314200000 (by omega) (by omega)
  have w := lg_wd d h1 h2
  have q := lg_wd 3142 (by omega) (by omega)
  rw [show (3142 : Int) * 100000 = 314200000 from by decide] at q
  unfold fld
  generalize lgb true 314200000 = q at *
  generalize lgb false 314200000 = p at *
  generalize lgb false (d * 100000) = a at *
  generalize lgb true (d * 100000) = b at *
  split
  · simp only; omega
  · simp only; omega
/-- Positions lie on the scale. -/
theorem psn_on (s d t : Int) (h : fg d t = true) : -2 ≤ (psn s d t).1 ∧ (psn s d t).2 ≤ 1048580 := by
  obtain ⟨⟨d1, d2⟩, -⟩ := (fg_iff d t).1 h
  obtain ⟨a1, a2⟩ := lgb_bd false (d * 100000) (by omega) (by omega)
  obtain ⟨b1, b2⟩ := lgb_bd true (d * 100000) (by omega) (by omega)
  have r2 := rep_bd d t 2 h (by omega) (by omega)
  have r3 := rep_bd d t 3 h (by omega) (by omega)
  have f := fld_on d d1 d2
  unfold psn
  repeat' split
  · omega
  · omega
  · simp only; omega
  · omega
  · rw [cd_lit _ _ (by omega), Int.fdiv_eq_ediv_of_nonneg _ (by omega)]; simp only; omega
  · simp only; omega
/-- Places lie on the rule. -/
theorem pl_on (s d t l : Int) (h : fg d t = true) (hl : ln l = true) : -1 ≤ (pl s d t l).1 ∧ (pl s d t l).2 ≤ l + 1 ∧ (pl s d t l).1 ≤ (pl s d t l).2 := by
  obtain ⟨l1, l2⟩ := (ln_iff l).1 hl
  obtain ⟨p1, p2⟩ := psn_on s d t h
  refine ⟨?_, ?_, (pl_bd s d t l h hl).2.2.2.2⟩
  · unfold pl plc
    have := Int.mul_le_mul_of_nonneg_right p1 (show 0 ≤ l by omega)
    rw [Int.fdiv_eq_ediv_of_nonneg _ (by omega)]
    simp only; omega
  · unfold pl plc
    have := Int.mul_le_mul_of_nonneg_right p2 (show 0 ≤ l by omega)
    rw [cd_lit _ _ (by omega)]
    simp only; omega
/-- A distance the other way. -/
theorem db_back (s a t b u l : Int) (h : (dbR s a t b u l).2 = 0) : dbR s b u a t l = ((-(dbR s a t b u l).1.2, -(dbR s a t b u l).1.1), 0) := by
  rcases db_cases s a t b u l with ⟨e, -⟩ | ⟨e, -, -, e1, -⟩ | ⟨e, -, -, -, e2⟩ | ⟨e, f1, f2, e1, e2, -⟩
  · rw [dbR_in _ _ _ _ _ _ e] at h; cases h
  · rw [dbR_rg _ _ _ _ _ _ e (.inl (by omega))] at h; cases h
  · rw [dbR_rg _ _ _ _ _ _ e (.inr (by omega))] at h; cases h
  · rw [dbR_ok s a t b u l e e1 e2, dbR_ok s b u a t l (by rw [f1, f2]; rfl) e2 e1]
    simp only
    rw [show (pl s a t l).1 - (pl s b u l).2 = -((pl s b u l).2 - (pl s a t l).1) by omega, show (pl s a t l).2 - (pl s b u l).1 = -((pl s b u l).1 - (pl s a t l).2) by omega]

/-- What the law needs of PositionOf. -/
theorem po_facts (s d t : Int) (h : (poR s d t).2 = 0) : fg d t = true ∧ sc s = true ∧ ¬ (s = 5 ∧ t ≠ 0) := by
  rcases pcd_cases s d t with ⟨-, e⟩ | ⟨-, -, e⟩ | ⟨-, -, -, e⟩ | ⟨h1, h2, h3, -⟩
  · rw [poR_no _ _ _ (by omega)] at h; simp only at h; omega
  · rw [poR_no _ _ _ (by omega)] at h; simp only at h; omega
  · rw [poR_no _ _ _ (by omega)] at h; simp only at h; omega
  · exact ⟨h1, h2, h3⟩
theorem po_of (s d t : Int) (h1 : fg d t = true) (h2 : sc s = true) (h3 : ¬ (s = 5 ∧ t ≠ 0)) : poR s d t = (psn s d t, 0) := by
  rcases pcd_cases s d t with ⟨e, -⟩ | ⟨-, e, -⟩ | ⟨-, e, e', -⟩ | ⟨-, -, -, e⟩
  · rw [h1] at e; cases e
  · rw [h2] at e; cases e
  · exact absurd ⟨e, e'⟩ h3
  · exact poR_ok _ _ _ e
theorem pl_facts (s d t l : Int) (h : (plR s d t l).2 = 0) : -1 ≤ (plR s d t l).1.1 ∧ (plR s d t l).1.2 ≤ l + 1 ∧ (plR s d t l).1.1 ≤ (plR s d t l).1.2 := by
  rcases qcd_cases s d t l with ⟨-, -, e⟩ | ⟨-, -, e⟩ | ⟨-, -, -, e⟩ | ⟨-, h1, h2, e⟩
  · rw [plR_no _ _ _ _ (by omega)] at h; simp only at h; omega
  · rw [plR_no _ _ _ _ (by omega)] at h; simp only at h; omega
  · rw [plR_no _ _ _ _ (by omega)] at h; simp only at h; omega
  · rw [plR_pl s d t l e]
    exact pl_on s d t l h1 h2
end Go.Proofs.YtgadkpkpdpphbaaDoor
