/- Chapter 6: the figures of a scale from left to right: their places never become less; searches for them; which are readings. -/
import Derived.Test.YtgadkpkpdpphbaaDoorM20
import Derived.Test.YtgadkpkpdpphbaaDoorM13
namespace Go.Proofs.YtgadkpkpdpphbaaDoor
set_option linter.unusedVariables false
set_option linter.unusedSimpArgs false

theorem cntF_none (p : Nat → Bool) : ∀ n, (∀ i, i < n → p i = false) → cntF p n = n
  | 0, _ => rfl
  | n + 1, h => by rw [cntF_succ, cntF_none p n (fun i hi => h i (by omega)), h n (by omega)]; rfl
/-- The number of the first one for which a condition holds that stays true. -/
theorem cntF_at (p : Nat → Bool) : ∀ N, (∀ a b, a ≤ b → b < N → p a = true → p b = true) → ∀ i, i < N → (p i = true ↔ cntF p N ≤ i)
  | 0, _, i, h => absurd h (by omega)
  | N + 1, hm, i, hi => by
    rw [cntF_succ]
    cases hp : p N
    · have hall : ∀ j, j < N + 1 → p j = false := fun j hj => by
        cases hj2 : p j
        · rfl
        · have := hm j N (by omega) (by omega) hj2
          rw [hp] at this; cases this
      rw [cntF_none p N (fun j hj => hall j (by omega)), hall i hi]
      simp; omega
    · have c := cntF_le p N
      rcases Nat.lt_succ_iff_lt_or_eq.1 hi with h | rfl
      · have := cntF_at p N (fun a b x y z => hm a b x (by omega) z) i h
        simpa using this
      · rw [hp]; simp; omega

/-- The number (by sizes) of the figure that stands at a place from the left. -/
def onF (s : Int) (i : Nat) : Nat := if s = 3 then 899 - i else if s = 4 then (i + 215) % 900 else i
theorem onF_3 (i : Nat) : onF 3 i = 899 - i := if_pos rfl
theorem onF_4 (i : Nat) : onF 4 i = (i + 215) % 900 := by rw [onF, if_neg (by decide), if_pos rfl]
theorem onF_id (s : Int) (i : Nat) (h3 : s ≠ 3) (h4 : s ≠ 4) : onF s i = i := by rw [onF, if_neg h3, if_neg h4]
theorem figs_3 : figs 3 = 900 := by decide
theorem figs_4 : figs 4 = 900 := by decide
theorem onF_lt (s : Int) (i : Nat) (h : i < figs s) : onF s i < figs s := by
  by_cases h3 : s = 3
  · subst h3; rw [onF_3]; rw [figs_3] at *; omega
  by_cases h4 : s = 4
  · subst h4; rw [onF_4]; rw [figs_4] at *; omega
  rw [onF_id s i h3 h4]; exact h
/-- Where a figure stands from the left. -/
def offF (s : Int) (n : Nat) : Nat := if s = 3 then 899 - n else if s = 4 then (n + 685) % 900 else n
theorem offF_lt (s : Int) (n : Nat) (h : n < figs s) : offF s n < figs s := by
  unfold offF
  by_cases h3 : s = 3
  · subst h3; rw [if_pos rfl]; rw [figs_3] at *; omega
  by_cases h4 : s = 4
  · subst h4; rw [if_neg (by decide), if_pos rfl]; rw [figs_4] at *; omega
  rw [if_neg h3, if_neg h4]; exact h
theorem on_off (s : Int) (n : Nat) (h : n < figs s) : onF s (offF s n) = n := by
  unfold offF
  by_cases h3 : s = 3
  · subst h3; rw [if_pos rfl, onF_3]; rw [figs_3] at *; omega
  by_cases h4 : s = 4
  · subst h4; rw [if_neg (by decide), if_pos rfl, onF_4]; rw [figs_4] at *; omega
  rw [if_neg h3, if_neg h4, onF_id s n h3 h4]

theorem lgt_le (d e : Int) (h1 : 1000 ≤ d) (h : d ≤ e) (h2 : e ≤ 9999) : lgb true (d * 100000) ≤ lgb true (e * 100000) := by
  rcases (show d = e ∨ d + 1 ≤ e by omega) with rfl | h3
  · exact Int.le_refl _
  · have a := (lg3 d h1 (by omega)).2
    have b := lg_le (d + 1) e (by omega) h3 h2
    have c := (lg_wd e (by omega) h2).1
    omega
theorem fdiv_up (a b k : Int) (h : a ≤ b) (k1 : 1 ≤ k) : a.fdiv k ≤ b.fdiv k := by
  rw [Int.fdiv_eq_ediv_of_nonneg _ (by omega), Int.fdiv_eq_ediv_of_nonneg _ (by omega)]
  exact Int.ediv_le_ediv (by omega) h
theorem cd_up (a b k : Int) (h : a ≤ b) (k1 : 1 ≤ k) : cd a k ≤ cd b k := by
  rw [cd_lit _ _ (by omega), cd_lit _ _ (by omega)]
  have := Int.ediv_le_ediv (c := k) (by omega) (show -b ≤ -a by omega)
  omega
/-- A greater figure on a scale of k decades. -/
theorem rep_mono (d t e u k : Int) (d1 : 1000 ≤ d) (d2 : d ≤ 9999) (e1 : 1000 ≤ e) (e2 : e ≤ 9999) (t0 : 0 ≤ t) (tk : t < k) (u0 : 0 ≤ u) (uk : u < k) (h : t < u ∨ (t = u ∧ d ≤ e)) :
    (rep d t k).1 ≤ (rep e u k).1 ∧ (rep d t k).2 ≤ (rep e u k).2 := by
  have a := lgb_bd false (d * 100000) (by omega) (by omega)
  have a' := lgb_bd true (d * 100000) (by omega) (by omega)
  have b := lgb_bd false (e * 100000) (by omega) (by omega)
  have b' := lgb_bd true (e * 100000) (by omega) (by omega)
  unfold rep
  rw [Int.emod_eq_of_lt t0 tk, Int.emod_eq_of_lt u0 uk]
  rcases h with h | ⟨rfl, h⟩
  · exact ⟨fdiv_up _ _ _ (by omega) (by omega), cd_up _ _ _ (by omega) (by omega)⟩
  · have c := lg_le d e d1 h e2
    have c' := lgt_le d e d1 h e2
    exact ⟨fdiv_up _ _ _ (by omega) (by omega), cd_up _ _ _ (by omega) (by omega)⟩
theorem at_lt (i : Nat) (h : i < 900) : atD i = 1000 + 10 * (i : Int) ∧ atT i = 0 := by
  unfold atD atT
  omega
/-- The folded scale: right of its beginning, and left of it. -/
theorem fld_parts : (∀ d : Int, 3143 ≤ d → d ≤ 9999 → fld d = (lgb false (d * 100000) - (lgb true 314200000 + 1), lgb true (d * 100000) + 1 - lgb false 314200000)) ∧
    (∀ d : Int, 1000 ≤ d → d ≤ 3142 → fld d = (lgb false (d * 100000) - (lgb true 314200000 + 1) + 1048576, lgb true (d * 100000) + 1 - lgb false 314200000 + 1048576)) := by
  have q := lg_wd 3142 (by omega) (by omega)
  have e : (3142 : Int) * 100000 = 314200000 := by decide
  rw [e] at q
  constructor
  · intro d h1 h2
    refine fld_hi d ?_
    have a := (lg3 3142 (by omega) (by omega)).2
    have b := lg_le 3143 d (by omega) h1 h2
    rw [e] at a
    have a' := Int.lt_of_lt_of_le a b
    omega
  · intro d h1 h2
    refine fld_lo d ?_
    have b := lg_le d 3142 h1 h2 (by omega)
    rw [e] at b
    omega
/-- From left to right both bounds of positions never become less. -/
theorem psn_mono (s : Int) (hs : sc s = true) (i j : Nat) (h : i ≤ j) (hj : j < figs s) :
    (psn s (atD (onF s i)) (atT (onF s i))).1 ≤ (psn s (atD (onF s j)) (atT (onF s j))).1 ∧ (psn s (atD (onF s i)) (atT (onF s i))).2 ≤ (psn s (atD (onF s j)) (atT (onF s j))).2 := by
  have h0 := onF_lt s i (by omega)
  have h1 := onF_lt s j hj
  have b := figs_bd s
  have di := at_bd (onF s i) (by omega)
  have dj := at_bd (onF s j) (by omega)
  have ti := at_tens s (onF s i) h0
  have tj := at_tens s (onF s j) h1
  have f := figs_is s
  rcases scale_cases s hs with rfl | rfl | rfl | rfl | rfl | rfl
  · rw [onF_id 0 i (by decide) (by decide), onF_id 0 j (by decide) (by decide)] at *
    have e : dec 0 = 1 := rfl
    obtain ⟨x1, x2⟩ := at_lt i (by omega)
    obtain ⟨y1, y2⟩ := at_lt j (by omega)
    rw [psn_0, psn_0]
    exact ⟨lg_le _ _ (by omega) (by omega) (by omega), by have := lgt_le (atD i) (atD j) (by omega) (by omega) (by omega); simp only; omega⟩
  · rw [onF_id 1 i (by decide) (by decide), onF_id 1 j (by decide) (by decide)] at *
    have e : dec 1 = 2 := rfl
    rw [psn_1, psn_1]
    refine rep_mono _ _ _ _ _ (by omega) (by omega) (by omega) (by omega) (by omega) (by omega) (by omega) (by omega) ?_
    unfold atD atT
    omega
  · rw [onF_id 2 i (by decide) (by decide), onF_id 2 j (by decide) (by decide)] at *
    have e : dec 2 = 3 := rfl
    rw [psn_2, psn_2]
    refine rep_mono _ _ _ _ _ (by omega) (by omega) (by omega) (by omega) (by omega) (by omega) (by omega) (by omega) ?_
    unfold atD atT
    omega
  · rw [figs_3] at hj
    rw [onF_3, onF_3] at *
    obtain ⟨x1, x2⟩ := at_lt (899 - i) (by omega)
    obtain ⟨y1, y2⟩ := at_lt (899 - j) (by omega)
    rw [psn_3, psn_3]
    have a := lg_le (atD (899 - j)) (atD (899 - i)) (by omega) (by omega) (by omega)
    have c := lgt_le (atD (899 - j)) (atD (899 - i)) (by omega) (by omega) (by omega)
    simp only
    omega
  · rw [figs_4] at hj
    rw [onF_4, onF_4] at *
    obtain ⟨x1, x2⟩ := at_lt ((i + 215) % 900) (by omega)
    obtain ⟨y1, y2⟩ := at_lt ((j + 215) % 900) (by omega)
    rw [psn_4, psn_4]
    have bi := lgb_bd false (atD ((i + 215) % 900) * 100000) (by omega) (by omega)
    have bi' := lgb_bd true (atD ((i + 215) % 900) * 100000) (by omega) (by omega)
    have bj := lgb_bd false (atD ((j + 215) % 900) * 100000) (by omega) (by omega)
    have bj' := lgb_bd true (atD ((j + 215) % 900) * 100000) (by omega) (by omega)
    rcases (show j < 685 ∨ 685 ≤ i ∨ (i < 685 ∧ 685 ≤ j) by omega) with g | g | ⟨g, g'⟩
    · rw [fld_parts.1 _ (by omega) (by omega), fld_parts.1 _ (by omega) (by omega)]
      have a := lg_le (atD ((i + 215) % 900)) (atD ((j + 215) % 900)) (by omega) (by omega) (by omega)
      have c := lgt_le (atD ((i + 215) % 900)) (atD ((j + 215) % 900)) (by omega) (by omega) (by omega)
      simp only
      omega
    · rw [fld_parts.2 _ (by omega) (by omega), fld_parts.2 _ (by omega) (by omega)]
      have a := lg_le (atD ((i + 215) % 900)) (atD ((j + 215) % 900)) (by omega) (by omega) (by omega)
      have c := lgt_le (atD ((i + 215) % 900)) (atD ((j + 215) % 900)) (by omega) (by omega) (by omega)
      simp only
      omega
    · rw [fld_parts.1 _ (by omega) (by omega), fld_parts.2 _ (by omega) (by omega)]
      simp only
      omega
  · rw [onF_id 5 i (by decide) (by decide), onF_id 5 j (by decide) (by decide)] at *
    have e : dec 5 = 1 := rfl
    obtain ⟨x1, x2⟩ := at_lt i (by omega)
    obtain ⟨y1, y2⟩ := at_lt j (by omega)
    rw [psn_5, psn_5]
    exact ⟨fdiv_up _ _ _ (by omega) (by omega), cd_up _ _ _ (by omega) (by omega)⟩
/-- The bounds of the place of a figure, by its number from the left. -/
def loF (s l : Int) (i : Nat) : Int := (pl s (atD (onF s i)) (atT (onF s i)) l).1
def hiF (s l : Int) (i : Nat) : Int := (pl s (atD (onF s i)) (atT (onF s i)) l).2
theorem pl_mono (s l : Int) (hs : sc s = true) (hl : ln l = true) (i j : Nat) (h : i ≤ j) (hj : j < figs s) : loF s l i ≤ loF s l j ∧ hiF s l i ≤ hiF s l j := by
  obtain ⟨l1, l2⟩ := (ln_iff l).1 hl
  obtain ⟨a, b⟩ := psn_mono s hs i j h hj
  unfold loF hiF pl plc
  exact ⟨fdiv_up _ _ _ (Int.mul_le_mul_of_nonneg_right a (by omega)) (by omega), cd_up _ _ _ (Int.mul_le_mul_of_nonneg_right b (by omega)) (by omega)⟩
theorem plF_bd (s l : Int) (hs : sc s = true) (hl : ln l = true) (i : Nat) (hi : i < figs s) : -200000 ≤ loF s l i ∧ loF s l i ≤ 310000 ∧ -200000 ≤ hiF s l i ∧ hiF s l i ≤ 310000 ∧ loF s l i ≤ hiF s l i := by
  have h := onF_lt s i hi
  have b := figs_bd s
  exact pl_bd s _ _ l (at_fg _ (by omega)) hl

/-- How many of an interval come before n. -/
def clp (a b x : Nat) : Nat := min (max x a) b
theorem cnt_id (q : Nat → Bool) (a b : Nat) (hab : a ≤ b) : ∀ n, (∀ j, j < n → (q j = true ↔ a ≤ j ∧ j < b)) → cntQ q n = (clp a b n : Int) - a
  | 0, _ => by unfold cntQ clp; omega
  | n + 1, h => by
    have ih := cnt_id q a b hab n (fun j hj => h j (by omega))
    have hn := h n (by omega)
    unfold cntQ
    rw [ih]
    unfold clp
    cases hq : q n
    · have : ¬ (a ≤ n ∧ n < b) := fun g => by have := hn.2 g; rw [hq] at this; cases this
      rw [if_neg (by simp)]; omega
    · have := hn.1 hq
      rw [if_pos rfl]; omega
theorem cnt_rot (q : Nat → Bool) (a b : Nat) (hab : a ≤ b) (hb : b ≤ 900) : ∀ n, n ≤ 900 → (∀ j, j < n → (q j = true ↔ a ≤ (j + 685) % 900 ∧ (j + 685) % 900 < b)) →
    cntQ q n = if n ≤ 215 then (clp a b (n + 685) : Int) - clp a b 685 else ((b : Int) - clp a b 685) + (clp a b (n - 215) - a)
  | 0, _, _ => by unfold cntQ; simp
  | n + 1, hn9, h => by
    have ih := cnt_rot q a b hab hb n (by omega) (fun j hj => h j (by omega))
    have hn := h n (by omega)
    unfold cntQ
    rw [ih]
    unfold clp
    cases hq : q n
    · have : ¬ (a ≤ (n + 685) % 900 ∧ (n + 685) % 900 < b) := fun g => by have := hn.2 g; rw [hq] at this; cases this
      rw [if_neg (by simp)]
      split <;> split <;> omega
    · have := hn.1 hq
      rw [if_pos rfl]
      split <;> split <;> omega
/-- An interval of the figures, from the left: how many they are by sizes. -/
theorem cnt_on (s : Int) (q : Nat → Bool) (a b : Nat) (hab : a ≤ b) (hb : b ≤ figs s) (h : ∀ i, i < figs s → (q (onF s i) = true ↔ a ≤ i ∧ i < b)) : cntQ q (figs s) = (b : Int) - a := by
  by_cases h3 : s = 3
  · subst h3
    rw [figs_3] at *
    have h' : ∀ j, j < 900 → (q j = true ↔ 900 - b ≤ j ∧ j < 900 - a) := fun j hj => by
      have := h (899 - j) (by omega)
      rw [onF_3, show 899 - (899 - j) = j by omega] at this
      rw [this]; omega
    rw [cnt_id q (900 - b) (900 - a) (by omega) 900 h']
    unfold clp; omega
  by_cases h4 : s = 4
  · subst h4
    rw [figs_4] at *
    have h' : ∀ j, j < 900 → (q j = true ↔ a ≤ (j + 685) % 900 ∧ (j + 685) % 900 < b) := fun j hj => by
      have := h ((j + 685) % 900) (by omega)
      rw [onF_4, show ((j + 685) % 900 + 215) % 900 = j by omega] at this
      exact this
    rw [cnt_rot q a b hab hb 900 (by omega) h', if_neg (by omega)]
    unfold clp; omega
  have h' : ∀ j, j < figs s → (q j = true ↔ a ≤ j ∧ j < b) := fun j hj => by
    have := h j hj
    rwa [onF_id s j h3 h4] at this
  rw [cnt_id q a b hab _ h']
  unfold clp; omega

/-- The readings stand from a up to b. -/
def rdA (s l p e : Int) : Nat := cntF (fun i => decide (p ≤ hiF s l i + e)) (figs s)
def rdB (s l p e : Int) : Nat := cntF (fun i => decide (p < loF s l i - e)) (figs s)
theorem rd_in (s l p e : Int) (hs : sc s = true) (hl : ln l = true) (he : 0 ≤ e) (i : Nat) (hi : i < figs s) : mayN s l p e (onF s i) = true ↔ rdA s l p e ≤ i ∧ i < rdB s l p e := by
  have ha := cntF_at (fun i => decide (p ≤ hiF s l i + e)) (figs s) (fun a b x y z => by
    have := (pl_mono s l hs hl a b x y).2
    have z := of_decide_eq_true z
    exact decide_eq_true (by omega)) i hi
  have hb := cntF_at (fun i => decide (p < loF s l i - e)) (figs s) (fun a b x y z => by
    have := (pl_mono s l hs hl a b x y).1
    have z := of_decide_eq_true z
    exact decide_eq_true (by omega)) i hi
  rw [show rdA s l p e = cntF (fun i => decide (p ≤ hiF s l i + e)) (figs s) from rfl, ← ha]
  have hb' : i < rdB s l p e ↔ ¬ (p < loF s l i - e) := by
    rw [show rdB s l p e = cntF (fun i => decide (p < loF s l i - e)) (figs s) from rfl, ← Nat.not_le, ← hb]
    simp
  rw [hb']
  unfold mayN
  rw [may_iff]
  show loF s l i - e ≤ p ∧ p ≤ hiF s l i + e ↔ _
  rw [decide_eq_true_iff]
  omega
theorem rd_le (s l p e : Int) : rdA s l p e ≤ figs s ∧ rdB s l p e ≤ figs s := ⟨cntF_le _ _, cntF_le _ _⟩
/-- The number of the readings. -/
theorem rd_count (s l p e : Int) (hs : sc s = true) (hl : ln l = true) (he : 0 ≤ e) : cntN s l p e = ((rdB s l p e - rdA s l p e : Nat) : Int) := by
  obtain ⟨ha, hb⟩ := rd_le s l p e
  have h := rd_in s l p e hs hl he
  generalize rdA s l p e = a at *
  generalize rdB s l p e = b at *
  unfold cntN
  rcases Nat.lt_or_ge b a with g | g
  · rw [cnt_on s _ a a (by omega) ha (fun i hi => by rw [h i hi]; omega)]
    omega
  · rw [cnt_on s _ a b g hb (fun i hi => h i hi)]
    omega
/-- There is none. -/
theorem rd_none (s l p e : Int) (hs : sc s = true) (hl : ln l = true) (he : 0 ≤ e) (h : rdB s l p e ≤ rdA s l p e) : fstN s l p e = -1 ∧ lstN s l p e = -1 := by
  have hq : ∀ j, j < figs s → mayN s l p e j = false := fun j hj => by
    have := rd_in s l p e hs hl he (offF s j) (offF_lt s j hj)
    rw [on_off s j hj] at this
    cases hm : mayN s l p e j
    · rfl
    · have := this.1 hm; omega
  exact ⟨fstQ_none _ _ hq, lstQ_none _ _ hq⟩
/-- The least and the greatest one of those that stand there. -/
theorem rd_fst (s l p e : Int) (hs : sc s = true) (hl : ln l = true) (he : 0 ≤ e) (k : Nat) (hk : rdA s l p e ≤ k ∧ k < rdB s l p e) (h : ∀ j, rdA s l p e ≤ j → j < rdB s l p e → onF s k ≤ onF s j) : fstN s l p e = onF s k := by
  obtain ⟨ha, hb⟩ := rd_le s l p e
  refine fstQ_hit _ _ _ (onF_lt s k (by omega)) ((rd_in s l p e hs hl he k (by omega)).2 hk) (fun j hj => ?_)
  have hj2 : j < figs s := by have := onF_lt s k (by omega); omega
  have := rd_in s l p e hs hl he (offF s j) (offF_lt s j hj2)
  rw [on_off s j hj2] at this
  cases hm : mayN s l p e j
  · rfl
  · have g := this.1 hm
    have := h _ g.1 g.2
    rw [on_off s j hj2] at this
    omega
theorem rd_lst (s l p e : Int) (hs : sc s = true) (hl : ln l = true) (he : 0 ≤ e) (k : Nat) (hk : rdA s l p e ≤ k ∧ k < rdB s l p e) (h : ∀ j, rdA s l p e ≤ j → j < rdB s l p e → onF s j ≤ onF s k) : lstN s l p e = onF s k := by
  obtain ⟨ha, hb⟩ := rd_le s l p e
  refine lstQ_hit _ _ _ (onF_lt s k (by omega)) ((rd_in s l p e hs hl he k (by omega)).2 hk) (fun j hj hj2 => ?_)
  have := rd_in s l p e hs hl he (offF s j) (offF_lt s j hj2)
  rw [on_off s j hj2] at this
  cases hm : mayN s l p e j
  · rfl
  · have g := this.1 hm
    have := h _ g.1 g.2
    rw [on_off s j hj2] at this
    omega

/-- The sum of the bounds of a place. -/
def smF (s l : Int) (i : Nat) : Int := loF s l i + hiF s l i
theorem sm_mono (s l : Int) (hs : sc s = true) (hl : ln l = true) (i j : Nat) (h : i ≤ j) (hj : j < figs s) : smF s l i ≤ smF s l j := by
  have := pl_mono s l hs hl i j h hj
  unfold smF; omega
def gap (v x : Int) : Int := max (x - v) (v - x)
/-- Where the sums reach a number. -/
def nxF (s l v : Int) : Nat := cntF (fun i => decide (v ≤ smF s l i)) (figs s)
/-- How near a sum comes to it: the first one that reaches it, and the one before. -/
def offR (s l v : Int) : Int :=
  let n := nxF s l v
  if n = 0 then gap v (smF s l 0) else if n < figs s then min (gap v (smF s l (n - 1))) (gap v (smF s l n)) else gap v (smF s l (n - 1))
theorem nx_at (s l v : Int) (hs : sc s = true) (hl : ln l = true) (i : Nat) (hi : i < figs s) : v ≤ smF s l i ↔ nxF s l v ≤ i := by
  have := cntF_at (fun i => decide (v ≤ smF s l i)) (figs s) (fun a b x y z => by
    have := sm_mono s l hs hl a b x y
    have z := of_decide_eq_true z
    exact decide_eq_true (by omega)) i hi
  rw [show nxF s l v = cntF (fun i => decide (v ≤ smF s l i)) (figs s) from rfl, ← this, decide_eq_true_iff]
theorem nx_le (s l v : Int) : nxF s l v ≤ figs s := cntF_le _ _
/-- No sum comes nearer, and one comes so near. -/
theorem off_least (s l v : Int) (hs : sc s = true) (hl : ln l = true) : (∀ i, i < figs s → offR s l v ≤ gap v (smF s l i)) ∧ ∃ i, i < figs s ∧ offR s l v = gap v (smF s l i) := by
  have hf := figs_bd s
  have hn := nx_le s l v
  have key : ∀ i, i < figs s → (v ≤ smF s l i ↔ nxF s l v ≤ i) := fun i hi => nx_at s l v hs hl i hi
  have mono : ∀ i j, i ≤ j → j < figs s → smF s l i ≤ smF s l j := fun i j h hj => sm_mono s l hs hl i j h hj
  unfold offR
  generalize nxF s l v = n at *
  simp only
  by_cases h0 : n = 0
  · rw [if_pos h0]
    refine ⟨fun i hi => ?_, 0, by omega, rfl⟩
    have a := (key 0 (by omega)).2 (by omega)
    have b := mono 0 i (by omega) hi
    unfold gap; omega
  rw [if_neg h0]
  have c := key (n - 1) (by omega)
  by_cases h1 : n < figs s
  · rw [if_pos h1]
    have a := (key n h1).2 (by omega)
    constructor
    · intro i hi
      rcases Nat.lt_or_ge i n with g | g
      · have := mono i (n - 1) (by omega) (by omega)
        unfold gap; omega
      · have := mono n i g hi
        unfold gap; omega
    · rcases Int.le_total (gap v (smF s l (n - 1))) (gap v (smF s l n)) with g | g
      · exact ⟨n - 1, by omega, by omega⟩
      · exact ⟨n, h1, by omega⟩
  · rw [if_neg h1]
    refine ⟨fun i hi => ?_, n - 1, by omega, rfl⟩
    have := mono i (n - 1) (by omega) (by omega)
    unfold gap; omega
/-- The nearest ones stand from a up to b. -/
def neA (s l v o : Int) : Nat := cntF (fun i => decide (v - o ≤ smF s l i)) (figs s)
def neB (s l v o : Int) : Nat := cntF (fun i => decide (v + o < smF s l i)) (figs s)
theorem ne_le (s l v o : Int) : neA s l v o ≤ figs s ∧ neB s l v o ≤ figs s := ⟨cntF_le _ _, cntF_le _ _⟩
theorem ne_in (s l v o : Int) (hs : sc s = true) (hl : ln l = true) (i : Nat) (hi : i < figs s) : gap v (smF s l i) ≤ o ↔ neA s l v o ≤ i ∧ i < neB s l v o := by
  have ha := cntF_at (fun i => decide (v - o ≤ smF s l i)) (figs s) (fun a b x y z => by
    have := sm_mono s l hs hl a b x y
    have z := of_decide_eq_true z
    exact decide_eq_true (by omega)) i hi
  have hb := cntF_at (fun i => decide (v + o < smF s l i)) (figs s) (fun a b x y z => by
    have := sm_mono s l hs hl a b x y
    have z := of_decide_eq_true z
    exact decide_eq_true (by omega)) i hi
  have hb' : i < neB s l v o ↔ ¬ (v + o < smF s l i) := by
    rw [show neB s l v o = cntF (fun i => decide (v + o < smF s l i)) (figs s) from rfl, ← Nat.not_le, ← hb]
    simp
  rw [show neA s l v o = cntF (fun i => decide (v - o ≤ smF s l i)) (figs s) from rfl, ← ha, hb', decide_eq_true_iff]
  unfold gap; omega
theorem awy_on (s l p : Int) (i : Nat) : awy s l p (onF s i) = gap (2 * p) (smF s l i) := by
  unfold awy gap smF loF hiF
  omega
/-- There is a nearest one. -/
theorem ne_some (s l v : Int) (hs : sc s = true) (hl : ln l = true) : neA s l v (offR s l v) < neB s l v (offR s l v) := by
  obtain ⟨-, i, hi, e⟩ := off_least s l v hs hl
  have := (ne_in s l v (offR s l v) hs hl i hi).1 (by omega)
  omega
/-- The least one of the nearest ones. -/
theorem ne_best (s l p : Int) (hs : sc s = true) (hl : ln l = true) (k : Nat) (hk : neA s l (2 * p) (offR s l (2 * p)) ≤ k ∧ k < neB s l (2 * p) (offR s l (2 * p)))
    (h : ∀ j, neA s l (2 * p) (offR s l (2 * p)) ≤ j → j < neB s l (2 * p) (offR s l (2 * p)) → onF s k ≤ onF s j) : bstN s l p = onF s k := by
  obtain ⟨ha, hb⟩ := ne_le s l (2 * p) (offR s l (2 * p))
  obtain ⟨hmin, -⟩ := off_least s l (2 * p) hs hl
  have hin := fun i hi => ne_in s l (2 * p) (offR s l (2 * p)) hs hl i hi
  have hkf : k < figs s := by omega
  have ek := (hin k hkf).2 hk
  generalize offR s l (2 * p) = o at *
  unfold bstN
  rw [bstQ_hit (awy s l p) (awy_nn s l p) (figs s) (onF s k) (onF_lt s k hkf) (fun j hj => ?_) (fun j hj => ?_)]
  · have e := awy_on s l p (offF s j)
    rw [on_off s j hj] at e
    rw [e, awy_on]
    exact Int.le_trans ek (hmin _ (offF_lt s j hj))
  · have hj2 : j < figs s := by have := onF_lt s k hkf; omega
    have e := awy_on s l p (offF s j)
    rw [on_off s j hj2] at e
    rw [e, awy_on]
    rcases Int.lt_or_le (gap (2 * p) (smF s l k)) (gap (2 * p) (smF s l (offF s j))) with g | g
    · exact g
    · have g' := (hin _ (offF_lt s j hj2)).1 (Int.le_trans g ek)
      have := h _ g'.1 g'.2
      rw [on_off s j hj2] at this
      omega
end Go.Proofs.YtgadkpkpdpphbaaDoor
