/- Plain mathematics, merged. -/
import Derived.Test.YtphebmbapllinaaDoorMB
/- Plain mathematics of chapter 11: figures of a scale from left to right, their points, which one is nearest to a position. No program is imported here. -/
namespace Go.Proofs.YtphebmbapllinaaDoor
set_option linter.unusedSimpArgs false
set_option linter.unusedVariables false

theorem quar_num (d : Nat) (h : d ≤ 9998) : 100000 * (100000000 * (d * d * (d * d))) ≤ 97902850 * ((d + 262144) * (d + 262144) * ((d + 262144) * (d + 262144))) := by
  have h1 : d * d ≤ 9998 * 9998 := Nat.mul_le_mul h h
  have h2 : 262144 * 262144 ≤ (d + 262144) * (d + 262144) := Nat.mul_le_mul (by omega) (by omega)
  calc 100000 * (100000000 * (d * d * (d * d))) ≤ 100000 * (100000000 * (9998 * 9998 * (9998 * 9998))) := Nat.mul_le_mul_left _ (Nat.mul_le_mul_left _ (Nat.mul_le_mul h1 h1))
    _ ≤ 97902850 * (262144 * 262144 * (262144 * 262144)) := by decide
    _ ≤ _ := Nat.mul_le_mul_left _ (Nat.mul_le_mul h2 h2)
/-- A quarter of a decade, in units. -/
def NQ : Nat := 2 ^ 18
theorem NQ_eq : NQ = 262144 := by decide
theorem NN_quar : NN = 2 * (2 * NQ) := by decide
/-- Neighbours are five units apart at least. -/
theorem lgb_five (d : Nat) (h1 : 1000 ≤ d) (h2 : d ≤ 9998) : lgb false (((d * 100000 : Nat) : Int)) + 5 ≤ lgb false ((((d + 1) * 100000 : Nat) : Int)) := by
  obtain ⟨n, f, b1, b2⟩ := lgb_low (d * 100000) (dig_bd d (by omega) (by omega)).1 (dig_bd d (by omega) (by omega)).2
  obtain ⟨m, e, a1, a2⟩ := lgb_low ((d + 1) * 100000) (dig_bd (d + 1) (by omega) (by omega)).1 (dig_bd (d + 1) (by omega) (by omega)).2
  have hb := bern2 d NQ
  have p1 : d ^ NN = d ^ NQ * d ^ NQ * (d ^ NQ * d ^ NQ) := by rw [NN_quar, pow_two_mul, pow_two_mul]
  have p2 : (d + 1) ^ NN = (d + 1) ^ NQ * (d + 1) ^ NQ * ((d + 1) ^ NQ * (d + 1) ^ NQ) := by rw [NN_quar, pow_two_mul, pow_two_mul]
  have hz : 0 < 100000000 ^ NN := Nat.pow_pos (by omega)
  rw [e, f]
  rw [Nat.mul_pow, p1] at b1
  rw [Nat.mul_pow, p2] at a2
  clear p1 p2 b2 a1 e f
  have key : 10 ^ n * (97902850 * ((d + NQ) * (d + NQ) * ((d + NQ) * (d + NQ)))) < 10 ^ (m + 1) * (100000000 * (d * d * (d * d))) := by
    rw [Nat.pow_succ]
    generalize (d + 1) ^ NQ = g at *
    generalize d ^ NQ = u at *
    generalize 100000 ^ NN = v at *
    generalize 100000000 ^ NN = z at *
    refine Nat.lt_of_mul_lt_mul_right (a := z) ?_
    calc 10 ^ n * (97902850 * ((d + NQ) * (d + NQ) * ((d + NQ) * (d + NQ)))) * z = (10 ^ n * z) * (97902850 * ((d + NQ) * (d + NQ) * ((d + NQ) * (d + NQ)))) := by ac_rfl
      _ ≤ (u * u * (u * u) * v) * (97902850 * ((d + NQ) * (d + NQ) * ((d + NQ) * (d + NQ)))) := Nat.mul_le_mul_right _ b1
      _ = ((u * (d + NQ)) * (u * (d + NQ))) * ((u * (d + NQ)) * (u * (d + NQ))) * (v * 97902850) := by ac_rfl
      _ ≤ ((g * d) * (g * d)) * ((g * d) * (g * d)) * (v * 97902850) := Nat.mul_le_mul_right _ (Nat.mul_le_mul (Nat.mul_le_mul hb hb) (Nat.mul_le_mul hb hb))
      _ = (g * g * (g * g) * v * 97902850) * (d * d * (d * d)) := by ac_rfl
      _ < (10 ^ m * 10 * z * 100000000) * (d * d * (d * d)) := Nat.mul_lt_mul_of_pos_right a2 (Nat.mul_pos (Nat.mul_pos (by omega) (by omega)) (Nat.mul_pos (by omega) (by omega)))
      _ = 10 ^ m * 10 * (100000000 * (d * d * (d * d))) * z := by ac_rfl
  rw [NQ_eq] at key
  have fin : n + 5 < m + 1 := by
    refine pow_lt (Nat.lt_of_mul_lt_mul_right (a := 100000000 * (d * d * (d * d))) ?_)
    calc 10 ^ (n + 5) * (100000000 * (d * d * (d * d))) = 10 ^ n * (100000 * (100000000 * (d * d * (d * d)))) := by rw [Nat.pow_add, Nat.mul_assoc]
      _ ≤ 10 ^ n * (97902850 * ((d + 262144) * (d + 262144) * ((d + 262144) * (d + 262144)))) := Nat.mul_le_mul_left _ (quar_num d h2)
      _ < _ := key
  omega
theorem lg5 (d : Int) (h1 : 1000 ≤ d) (h2 : d ≤ 9998) : lgb false (d * 100000) + 5 ≤ lgb false ((d + 1) * 100000) := by
  obtain ⟨n, rfl⟩ := Int.eq_ofNat_of_zero_le (show 0 ≤ d by omega)
  have a := lgb_five n (by omega) (by omega)
  have e1 : ((n * 100000 : Nat) : Int) = (n : Int) * 100000 := by simp
  have e2 : (((n + 1) * 100000 : Nat) : Int) = ((n : Int) + 1) * 100000 := by simp
  rw [e1, e2] at a
  exact a
/-- A greater figure: both bounds of its logarithm. -/
theorem lgs5 (d e : Int) (h1 : 1000 ≤ d) (h : d < e) (h2 : e ≤ 9999) : lgb false (d * 100000) + 5 ≤ lgb false (e * 100000) ∧ lgb true (d * 100000) + 4 ≤ lgb true (e * 100000) := by
  have a := lg5 d h1 (by omega)
  have b := lg_le (d + 1) e (by omega) (by omega) h2
  have c := (lg_wd e (by omega) h2).1
  have f := (lg_wd d h1 (by omega)).2
  omega
/-- The last figure ends before the decade does. -/
theorem lg_last : lgb true 999900000 ≤ 1048560 := by decide +kernel
theorem lg_top (d : Int) (h1 : 1000 ≤ d) (h2 : d ≤ 9999) : lgb false (d * 100000) ≤ 1048560 ∧ lgb true (d * 100000) ≤ 1048560 ∧ 0 ≤ lgb false (d * 100000) ∧ 0 ≤ lgb true (d * 100000) := by
  have a := lgt_le d 9999 h1 (by omega) (by omega)
  rw [show (9999 : Int) * 100000 = 999900000 from by decide] at a
  have b := (lg_wd d h1 h2).1
  have c := lgb_bd false (d * 100000) (by omega) (by omega)
  have l := lg_last
  omega

/-- The figures of a scale by sizes, with four digits. -/
def gD (n : Nat) : Int := 1000 + (n : Int) % 9000
def gT (n : Nat) : Int := (n : Int) / 9000
theorem g_bd (n : Nat) (h : n < 27000) : 1000 ≤ gD n ∧ gD n ≤ 9999 ∧ 0 ≤ gT n ∧ gT n ≤ 2 := by unfold gD gT; omega
theorem g_fg (n : Nat) (h : n < 27000) : fg (gD n) (gT n) = true := by
  have := g_bd n h
  exact (fg_iff _ _).2 ⟨by omega, by omega⟩
theorem g_rank (n : Nat) : 9000 * gT n + gD n = 1000 + (n : Int) := by unfold gD gT; omega
theorem g_lt (m n : Nat) (hm : m < 27000) (hn : n < 27000) : (10000 * gT m + gD m < 10000 * gT n + gD n) ↔ m < n := by unfold gD gT; omega
theorem g_rk (n : Nat) (h : n < 27000) : 0 ≤ 10000 * gT n + gD n ∧ 10000 * gT n + gD n ≤ 30000 := by unfold gD gT; omega
/-- How many. -/
def gN (s : Int) : Nat := 9000 * (dec s).toNat
theorem gN_is (s : Int) : (gN s : Int) = 9000 * dec s := by have := dec_bd s; unfold gN; omega
theorem gN_bd (s : Int) : 9000 ≤ gN s ∧ gN s ≤ 27000 := by have := dec_bd s; unfold gN; omega
theorem gN_3 : gN 3 = 9000 := by decide
theorem gN_4 : gN 4 = 9000 := by decide
/-- From left to right. -/
def onG (s : Int) (i : Nat) : Nat := if s = 3 then 8999 - i else if s = 4 then (i + 2143) % 9000 else i
theorem onG_3 (i : Nat) : onG 3 i = 8999 - i := if_pos rfl
theorem onG_4 (i : Nat) : onG 4 i = (i + 2143) % 9000 := by rw [onG, if_neg (by decide), if_pos rfl]
theorem onG_id (s : Int) (i : Nat) (h3 : s ≠ 3) (h4 : s ≠ 4) : onG s i = i := by rw [onG, if_neg h3, if_neg h4]
theorem onG_lt (s : Int) (i : Nat) (h : i < gN s) : onG s i < gN s := by
  by_cases h3 : s = 3
  · subst h3; rw [onG_3]; rw [gN_3] at *; omega
  by_cases h4 : s = 4
  · subst h4; rw [onG_4]; rw [gN_4] at *; omega
  rw [onG_id s i h3 h4]; exact h
def offG (s : Int) (n : Nat) : Nat := if s = 3 then 8999 - n else if s = 4 then (n + 6857) % 9000 else n
theorem offG_lt (s : Int) (n : Nat) (h : n < gN s) : offG s n < gN s := by
  unfold offG
  by_cases h3 : s = 3
  · subst h3; rw [if_pos rfl]; rw [gN_3] at *; omega
  by_cases h4 : s = 4
  · subst h4; rw [if_neg (by decide), if_pos rfl]; rw [gN_4] at *; omega
  rw [if_neg h3, if_neg h4]; exact h
theorem on_offG (s : Int) (n : Nat) (h : n < gN s) : onG s (offG s n) = n := by
  unfold offG
  by_cases h3 : s = 3
  · subst h3; rw [if_pos rfl, onG_3]; rw [gN_3] at *; omega
  by_cases h4 : s = 4
  · subst h4; rw [if_neg (by decide), if_pos rfl, onG_4]; rw [gN_4] at *; omega
  rw [if_neg h3, if_neg h4, onG_id s n h3 h4]

/-- The point of a figure. -/
def pnt (s d t : Int) : Int := ((psn s d t).1 + (psn s d t).2).fdiv 2
def ptN (s : Int) (n : Nat) : Int := pnt s (gD n) (gT n)
theorem pnt_bd (s d t : Int) (h : fg d t = true) : -2000000 ≤ pnt s d t ∧ pnt s d t ≤ 3200000 := by
  have := psn_bd s d t h
  unfold pnt
  rw [Int.fdiv_eq_ediv_of_nonneg _ (by omega)]
  omega
theorem half_lt (a b c d : Int) (h : a + b + 2 ≤ c + d) : (a + b).fdiv 2 < (c + d).fdiv 2 := by
  rw [Int.fdiv_eq_ediv_of_nonneg _ (by omega), Int.fdiv_eq_ediv_of_nonneg _ (by omega)]; omega
theorem rep_gap (a b a' b' k : Int) (k1 : 1 ≤ k) (k2 : k ≤ 3) (h1 : a + 4 ≤ a') (h2 : b + 4 ≤ b') : a.fdiv k + cd b k + 2 ≤ a'.fdiv k + cd b' k := by
  rw [cd_lit _ _ (by omega), cd_lit _ _ (by omega), Int.fdiv_eq_ediv_of_nonneg _ (by omega), Int.fdiv_eq_ediv_of_nonneg _ (by omega)]
  rcases (show k = 1 ∨ k = 2 ∨ k = 3 by omega) with rfl | rfl | rfl <;> omega
theorem rep_pt (d t e u k : Int) (d1 : 1000 ≤ d) (d2 : d ≤ 9999) (e1 : 1000 ≤ e) (e2 : e ≤ 9999) (t0 : 0 ≤ t) (tk : t < k) (u0 : 0 ≤ u) (uk : u < k) (k3 : k ≤ 3) (h : t < u ∨ (t = u ∧ d < e)) :
    (rep d t k).1 + (rep d t k).2 + 2 ≤ (rep e u k).1 + (rep e u k).2 := by
  have a := lg_top d d1 d2
  have b := lg_top e e1 e2
  unfold rep
  rw [Int.emod_eq_of_lt t0 tk, Int.emod_eq_of_lt u0 uk]
  rcases h with h | ⟨rfl, h⟩
  · exact rep_gap _ _ _ _ _ (by omega) (by omega) (by omega) (by omega)
  · have c := lgs5 d e d1 h e2
    exact rep_gap _ _ _ _ _ (by omega) (by omega) (by omega) (by omega)
theorem g_small (i : Nat) (h : i < 9000) : gD i = 1000 + (i : Int) ∧ gT i = 0 := by unfold gD gT; omega
/-- From left to right points become greater. -/
theorem pt_lt (s : Int) (hs : lsc s = true) (i j : Nat) (h : i < j) (hj : j < gN s) : ptN s (onG s i) < ptN s (onG s j) := by
  unfold ptN pnt
  refine half_lt _ _ _ _ ?_
  have h0 := onG_lt s i (by omega)
  have h1 := onG_lt s j hj
  have bN := gN_bd s
  have di := g_bd (onG s i) (by omega)
  have dj := g_bd (onG s j) (by omega)
  have f := gN_is s
  have hs' := (lsc_iff s).1 hs
  rcases (show s = 0 ∨ s = 1 ∨ s = 2 ∨ s = 3 ∨ s = 4 by omega) with rfl | rfl | rfl | rfl | rfl
  · rw [onG_id 0 i (by decide) (by decide), onG_id 0 j (by decide) (by decide)] at *
    have e : dec 0 = 1 := rfl
    obtain ⟨x1, x2⟩ := g_small i (by omega)
    obtain ⟨y1, y2⟩ := g_small j (by omega)
    rw [psn_0, psn_0]
    have c := lgs5 (gD i) (gD j) (by omega) (by omega) (by omega)
    simp only; omega
  · rw [onG_id 1 i (by decide) (by decide), onG_id 1 j (by decide) (by decide)] at *
    have e : dec 1 = 2 := rfl
    rw [psn_1, psn_1]
    refine rep_pt _ _ _ _ _ (by omega) (by omega) (by omega) (by omega) (by omega) ?_ (by omega) ?_ (by omega) ?_
    all_goals (unfold gT; (try unfold gD); omega)
  · rw [onG_id 2 i (by decide) (by decide), onG_id 2 j (by decide) (by decide)] at *
    have e : dec 2 = 3 := rfl
    rw [psn_2, psn_2]
    refine rep_pt _ _ _ _ _ (by omega) (by omega) (by omega) (by omega) (by omega) ?_ (by omega) ?_ (by omega) ?_
    all_goals (unfold gT; (try unfold gD); omega)
  · rw [gN_3] at hj
    rw [onG_3, onG_3] at *
    obtain ⟨x1, x2⟩ := g_small (8999 - i) (by omega)
    obtain ⟨y1, y2⟩ := g_small (8999 - j) (by omega)
    rw [psn_3, psn_3]
    have c := lgs5 (gD (8999 - j)) (gD (8999 - i)) (by omega) (by omega) (by omega)
    simp only; omega
  · rw [gN_4] at hj
    rw [onG_4, onG_4] at *
    obtain ⟨x1, x2⟩ := g_small ((i + 2143) % 9000) (by omega)
    obtain ⟨y1, y2⟩ := g_small ((j + 2143) % 9000) (by omega)
    rw [psn_4, psn_4]
    have bi := lg_top (gD ((i + 2143) % 9000)) (by omega) (by omega)
    have bj := lg_top (gD ((j + 2143) % 9000)) (by omega) (by omega)
    rcases (show j < 6857 ∨ 6857 ≤ i ∨ (i < 6857 ∧ 6857 ≤ j) by omega) with g | g | ⟨g, g'⟩
    · rw [fld_parts.1 _ (by omega) (by omega), fld_parts.1 _ (by omega) (by omega)]
      have a := lgs5 (gD ((i + 2143) % 9000)) (gD ((j + 2143) % 9000)) (by omega) (by omega) (by omega)
      simp only; omega
    · rw [fld_parts.2 _ (by omega) (by omega), fld_parts.2 _ (by omega) (by omega)]
      have a := lgs5 (gD ((i + 2143) % 9000)) (gD ((j + 2143) % 9000)) (by omega) (by omega) (by omega)
      simp only; omega
    · rw [fld_parts.1 _ (by omega) (by omega), fld_parts.2 _ (by omega) (by omega)]
      simp only; omega
theorem pt_le (s : Int) (hs : lsc s = true) (i j : Nat) (h : i ≤ j) (hj : j < gN s) : ptN s (onG s i) ≤ ptN s (onG s j) := by
  rcases (show i = j ∨ i < j by omega) with rfl | g
  · exact Int.le_refl _
  · exact Int.le_of_lt (pt_lt s hs i j g hj)

theorem gap_nn (v x : Int) : 0 ≤ gap v x := by unfold gap; omega
/-- The nearest one of the numbers from a up to b, the least one of several. -/
structure IsB (f : Nat → Int) (p : Int) (a b n : Nat) : Prop where
  lo : a ≤ n
  hi : n < b
  least : ∀ j, a ≤ j → j < b → gap p (f n) ≤ gap p (f j)
  first : ∀ j, a ≤ j → j < n → gap p (f n) < gap p (f j)
theorem IsB.uniq {f : Nat → Int} {p : Int} {a b m n : Nat} (h : IsB f p a b m) (h' : IsB f p a b n) : m = n := by
  rcases Nat.lt_trichotomy m n with g | g | g
  · have := h'.first m h.lo g
    have := h.least n h'.lo h'.hi
    omega
  · exact g
  · have := h.first n h'.lo g
    have := h'.least m h.lo h.hi
    omega
/-- Which figure is read: its number by sizes. -/
def rdN (s p : Int) : Nat := (bstQ (fun n => gap p (ptN s n)) (gN s)).1.toNat
theorem rdN_is (s p : Int) (n : Nat) (h : IsB (ptN s) p 0 (gN s) n) : rdN s p = n := by
  unfold rdN
  rw [bstQ_hit (fun n => gap p (ptN s n)) (fun _ => gap_nn _ _) (gN s) n h.hi (fun j hj => h.least j (by omega) hj) (fun j hj => h.first j (by omega) hj)]
  simp
theorem rdN_isB (s p : Int) : IsB (ptN s) p 0 (gN s) (rdN s p) := by
  rcases bstQ_spec (fun n => gap p (ptN s n)) (fun _ => gap_nn _ _) (gN s) with ⟨h, -⟩ | ⟨k, hk, e, h1, h2⟩
  · have := gN_bd s; omega
  · have hB : IsB (ptN s) p 0 (gN s) k := ⟨by omega, hk, fun j _ hj => h1 j hj, fun j _ hj => h2 j hj⟩
    rw [rdN_is s p k hB]; exact hB
theorem rdN_lt (s p : Int) : rdN s p < gN s := (rdN_isB s p).hi

/-- The first figure from the left whose point reaches a position. -/
def nxG (s p : Int) : Nat := cntF (fun i => decide (p ≤ ptN s (onG s i))) (gN s)
theorem nxG_le (s p : Int) : nxG s p ≤ gN s := cntF_le _ _
theorem nxG_up (s p : Int) (hs : lsc s = true) : ∀ a b, a ≤ b → b < gN s → decide (p ≤ ptN s (onG s a)) = true → decide (p ≤ ptN s (onG s b)) = true := fun a b x y z => by
  have := pt_le s hs a b x y
  have z := of_decide_eq_true z
  exact decide_eq_true (by omega)
theorem nxG_at (s p : Int) (hs : lsc s = true) (i : Nat) (hi : i < gN s) : p ≤ ptN s (onG s i) ↔ nxG s p ≤ i := by
  have := cntF_at (fun i => decide (p ≤ ptN s (onG s i))) (gN s) (nxG_up s p hs) i hi
  rw [show nxG s p = cntF (fun i => decide (p ≤ ptN s (onG s i))) (gN s) from rfl, ← this, decide_eq_true_iff]
/-- Nothing is nearer than the figure there and the one before; nothing else is as near as both. -/
theorem nxG_near (s p : Int) (hs : lsc s = true) (j : Nat) (hj : j < gN s) :
    (j = nxG s p ∨ j + 1 = nxG s p) ∨ (j < nxG s p ∧ 2 ≤ nxG s p ∧ nxG s p - 1 < gN s ∧ gap p (ptN s (onG s (nxG s p - 1))) < gap p (ptN s (onG s j))) ∨ (nxG s p < j ∧ gap p (ptN s (onG s (nxG s p))) < gap p (ptN s (onG s j))) := by
  have hn := nxG_le s p
  have key := fun i hi => nxG_at s p hs i hi
  generalize nxG s p = n at *
  by_cases h1 : j = n ∨ j + 1 = n
  · exact .inl h1
  rcases (show j < n ∨ n < j by omega) with g | g
  · refine .inr (.inl ⟨g, by omega, by omega, ?_⟩)
    have a := pt_lt s hs j (n - 1) (by omega) (by omega)
    have b := key (n - 1) (by omega)
    have c : ¬ (p ≤ ptN s (onG s (n - 1))) := fun h => by have := b.1 h; omega
    unfold gap; omega
  · refine .inr (.inr ⟨g, ?_⟩)
    have a := pt_lt s hs n j g hj
    have b := (key n (by omega)).2 (by omega)
    unfold gap; omega
/-- The key by which the program compares: the distance first, then the size. -/
def kyG (s p : Int) (i : Nat) : Int := gap p (ptN s (onG s i)) * 1048576 + (10000 * gT (onG s i) + gD (onG s i))
theorem ky_lt (s p : Int) (i j : Nat) (hi : i < gN s) (hj : j < gN s) : (kyG s p i ≤ kyG s p j) ↔ (gap p (ptN s (onG s i)) < gap p (ptN s (onG s j)) ∨ (gap p (ptN s (onG s i)) = gap p (ptN s (onG s j)) ∧ onG s i ≤ onG s j)) := by
  have b := gN_bd s
  have a1 := onG_lt s i hi
  have a2 := onG_lt s j hj
  have r1 := g_rk (onG s i) (by omega)
  have r2 := g_rk (onG s j) (by omega)
  have e := g_lt (onG s j) (onG s i) (by omega) (by omega)
  unfold kyG
  generalize gap p (ptN s (onG s i)) = x at *
  generalize gap p (ptN s (onG s j)) = y at *
  generalize 10000 * gT (onG s i) + gD (onG s i) = u at *
  generalize 10000 * gT (onG s j) + gD (onG s j) = v at *
  constructor
  · intro h
    rcases Int.lt_trichotomy x y with g | g | g
    · exact .inl g
    · exact .inr ⟨g, by
        rw [g] at h
        have : ¬ v < u := by omega
        rw [e] at this; omega⟩
    · omega
  · rintro (g | ⟨g, h⟩)
    · omega
    · have : ¬ v < u := fun q => by have := e.1 q; omega
      rw [g]; omega
/-- The one with the least key of those beside is the one that is read. -/
theorem best_of (s p : Int) (hs : lsc s = true) (k : Nat) (hk : k < gN s) (hb : k = nxG s p ∨ k + 1 = nxG s p) (h : ∀ j, j < gN s → (j = nxG s p ∨ j + 1 = nxG s p) → kyG s p k ≤ kyG s p j) : rdN s p = onG s k := by
  refine rdN_is s p _ ⟨by omega, onG_lt s k hk, fun j _ hj => ?_, fun j _ hj => ?_⟩
  · have hj' := offG_lt s j hj
    rw [← on_offG s j hj]
    generalize offG s j = i at *
    rcases nxG_near s p hs i hj' with g | ⟨g1, g2, g3, g4⟩ | ⟨g1, g2⟩
    · have := (ky_lt s p k i hk hj').1 (h i hj' g); omega
    · have := (ky_lt s p k (nxG s p - 1) hk g3).1 (h _ g3 (.inr (by omega))); omega
    · have g3 : nxG s p < gN s := by omega
      have := (ky_lt s p k (nxG s p) hk g3).1 (h _ g3 (.inl rfl)); omega
  · have hj2 : j < gN s := by have := onG_lt s k hk; omega
    have hj' := offG_lt s j hj2
    rw [← on_offG s j hj2] at hj ⊢
    generalize offG s j = i at *
    rcases nxG_near s p hs i hj' with g | ⟨g1, g2, g3, g4⟩ | ⟨g1, g2⟩
    · have := (ky_lt s p k i hk hj').1 (h i hj' g); omega
    · have := (ky_lt s p k (nxG s p - 1) hk g3).1 (h _ g3 (.inr (by omega))); omega
    · have g3 : nxG s p < gN s := by omega
      have := (ky_lt s p k (nxG s p) hk g3).1 (h _ g3 (.inl rfl)); omega

/-- The model's parts: points rise or fall by number. -/
theorem pt_rise (s : Int) (hs : lsc s = true) (h3 : s ≠ 3) (h4 : s ≠ 4) (i j : Nat) (h : i < j) (hj : j < gN s) : ptN s i < ptN s j := by
  have := pt_lt s hs i j h hj
  rwa [onG_id s i h3 h4, onG_id s j h3 h4] at this
theorem pt_fall (i j : Nat) (h : i < j) (hj : j < 9000) : ptN 3 j < ptN 3 i := by
  have := pt_lt 3 (by decide) (8999 - j) (8999 - i) (by omega) (by rw [gN_3]; omega)
  rwa [onG_3, onG_3, show 8999 - (8999 - j) = j by omega, show 8999 - (8999 - i) = i by omega] at this
theorem pt_foldA (i j : Nat) (h : i < j) (hj : j < 2143) : ptN 4 i < ptN 4 j := by
  have := pt_lt 4 (by decide) (i + 6857) (j + 6857) (by omega) (by rw [gN_4]; omega)
  rwa [onG_4, onG_4, show (i + 6857 + 2143) % 9000 = i by omega, show (j + 6857 + 2143) % 9000 = j by omega] at this
theorem pt_foldB (i j : Nat) (hi : 2143 ≤ i) (h : i < j) (hj : j < 9000) : ptN 4 i < ptN 4 j := by
  have := pt_lt 4 (by decide) (i - 2143) (j - 2143) (by omega) (by rw [gN_4]; omega)
  rwa [onG_4, onG_4, show (i - 2143 + 2143) % 9000 = i by omega, show (j - 2143 + 2143) % 9000 = j by omega] at this
/-- The nearest one stands within a window around the first one that has reached the position. -/
theorem win_best (f : Nat → Int) (p : Int) (a b h n : Nat) (hab : a < b) (hh1 : a ≤ h) (hh2 : h ≤ b) (falls : Bool)
    (hm : ∀ i j, a ≤ i → i < j → j < b → if falls then f j < f i else f i < f j)
    (lo : ∀ i, a ≤ i → i < h → if falls then p < f i else f i < p) (hi : ∀ i, h ≤ i → i < b → if falls then f i ≤ p else p ≤ f i)
    (n1 : max a (h - 3) ≤ n) (n2 : n < b) (n3 : n < h + 3) (least : ∀ j, max a (h - 3) ≤ j → j < b → j < h + 3 → gap p (f n) ≤ gap p (f j)) (first : ∀ j, max a (h - 3) ≤ j → j < n → gap p (f n) < gap p (f j)) : IsB f p a b n := by
  have far : ∀ j, a ≤ j → j < b → ¬ (max a (h - 3) ≤ j ∧ j < h + 3) → gap p (f n) < gap p (f j) := by
    intro j h1 h2 h3
    rcases (show j < h - 3 ∨ h + 3 ≤ j by omega) with g | g
    · have l1 := least (h - 1) (by omega) (by omega) (by omega)
      have m1 := hm j (h - 1) h1 (by omega) (by omega)
      have m2 := lo (h - 1) (by omega) (by omega)
      cases falls <;> simp at m1 m2 <;> (unfold gap at *; omega)
    · have l1 := least h (by omega) (by omega) (by omega)
      have m1 := hm h j (by omega) (by omega) h2
      have m2 := hi h (by omega) (by omega)
      cases falls <;> simp at m1 m2 <;> (unfold gap at *; omega)
  refine ⟨by omega, n2, fun j h1 h2 => ?_, fun j h1 h2 => ?_⟩
  · by_cases g : max a (h - 3) ≤ j ∧ j < h + 3
    · exact least j g.1 h2 g.2
    · exact Int.le_of_lt (far j h1 h2 g)
  · by_cases g : max a (h - 3) ≤ j ∧ j < h + 3
    · exact first j g.1 h2
    · exact far j h1 (by omega) g
/-- Two parts: the second one counts where it is nearer. -/
theorem two_best (f : Nat → Int) (p : Int) (a b c m n : Nat) (h1 : IsB f p a b m) (h2 : IsB f p b c n) : IsB f p a c (if gap p (f n) < gap p (f m) then n else m) := by
  have b1 := h1.lo
  have b2 := h1.hi
  have b3 := h2.lo
  have b4 := h2.hi
  by_cases g : gap p (f n) < gap p (f m)
  · rw [if_pos g]
    refine ⟨by omega, by omega, fun j x y => ?_, fun j x y => ?_⟩
    · rcases Nat.lt_or_ge j b with z | z
      · have := h1.least j x z; omega
      · exact h2.least j z y
    · rcases Nat.lt_or_ge j b with z | z
      · have := h1.least j x z; omega
      · exact h2.first j z y
  · rw [if_neg g]
    refine ⟨by omega, by omega, fun j x y => ?_, fun j x y => h1.first j x y⟩
    rcases Nat.lt_or_ge j b with z | z
    · exact h1.least j x z
    · have := h2.least j z y; omega
end Go.Proofs.YtphebmbapllinaaDoor

/- Plain mathematics of chapter 11: rules, settings, what the functions answer. No program is imported here. -/
namespace Go.Proofs.YtphebmbapllinaaDoor
set_option linter.unusedSimpArgs false
set_option linter.unusedVariables false

/-- Above a part of a rule. -/
def abv (p : Int) : Bool := decide (0 ≤ p ∧ p ≤ 1048576)
theorem abv_iff (p : Int) : abv p = true ↔ (0 ≤ p ∧ p ≤ 1048576) := by unfold abv; simp
theorem abv_tf (p : Int) : abv p = true ∨ abv p = false := by cases abv p <;> simp
/-- A setting as described. -/
def sgB (a c : Int) : Bool := decide (-1048576 ≤ a ∧ a ≤ 1048576) && abv c
theorem sgB_iff (a c : Int) : sgB a c = true ↔ (-1048576 ≤ a ∧ a ≤ 1048576) ∧ (0 ≤ c ∧ c ≤ 1048576) := by unfold sgB; rw [Bool.and_eq_true, abv_iff]; simp
theorem sgB_tf (a c : Int) : sgB a c = true ∨ sgB a c = false := by cases sgB a c <;> simp
/-- An element of a list (not as 'contains': simp has its own way with that). -/
def hasI (zs : List Int) (v : Int) : Bool := decide (v ∈ zs)
theorem hasI_iff (zs : List Int) (v : Int) : hasI zs v = true ↔ v ∈ zs := by unfold hasI; simp
theorem hasI_not (zs : List Int) (v : Int) : hasI zs v = false ↔ v ∉ zs := by unfold hasI; simp
theorem hasI_tf (zs : List Int) (v : Int) : hasI zs v = true ∨ hasI zs v = false := by cases hasI zs v <;> simp
theorem hasI_nil (v : Int) : hasI [] v = false := by unfold hasI; simp
/-- Scales of a part. -/
def okAt (zs : List Int) (i : Nat) : Bool := match zs[i]? with
  | some z => lsc z && !(hasI (zs.take i) z)
  | none => true
theorem okAt_some {zs : List Int} {i : Nat} {z : Int} (h : zs[i]? = some z) : okAt zs i = (lsc z && !(hasI (zs.take i) z)) := by unfold okAt; rw [h]
def okS (zs : List Int) : Bool := (List.range zs.length).all (okAt zs)
theorem okS_iff (zs : List Int) : okS zs = true ↔ ∀ i, i < zs.length → okAt zs i = true := by
  unfold okS
  rw [List.all_eq_true]
  exact ⟨fun h i hi => h i (List.mem_range.2 hi), fun h i hi => h i (List.mem_range.1 hi)⟩
theorem okS_bad {zs : List Int} {i : Nat} {z : Int} (h : zs[i]? = some z) (hb : lsc z = false ∨ hasI (zs.take i) z = true) : okS zs = false := by
  cases hc : okS zs
  · rfl
  · have h1 := (okS_iff zs).1 hc i (List.getElem?_eq_some_iff.1 h).1
    rw [okAt_some h] at h1
    rcases hb with g | g <;> rw [g] at h1 <;> simp at h1
theorem okS_at {zs : List Int} {i : Nat} {z : Int} (h : zs[i]? = some z) (hc : okS zs = true) : lsc z = true ∧ hasI (zs.take i) z = false := by
  have h1 := (okS_iff zs).1 hc i (List.getElem?_eq_some_iff.1 h).1
  rw [okAt_some h, Bool.and_eq_true] at h1
  exact ⟨h1.1, by simpa using h1.2⟩
def arS (zs : List Int) : Bool := decide (1 ≤ (zs.length : Int) ∧ (zs.length : Int) ≤ 6) && okS zs
theorem arS_iff (zs : List Int) : arS zs = true ↔ (1 ≤ zs.length ∧ zs.length ≤ 6) ∧ okS zs = true := by
  unfold arS; rw [Bool.and_eq_true]; simp; omega
theorem arS_len {zs : List Int} (h : ¬ (1 ≤ zs.length ∧ zs.length ≤ 6)) : arS zs = false := by
  cases hc : arS zs
  · rfl
  · exact absurd ((arS_iff zs).1 hc).1 h
theorem arS_no {zs : List Int} (h : okS zs = false) : arS zs = false := by unfold arS; rw [h, Bool.and_false]
theorem arS_mem {zs : List Int} (h : arS zs = true) {z : Int} (hz : hasI zs z = true) : lsc z = true := by
  obtain ⟨i, hi, e⟩ := List.getElem_of_mem ((hasI_iff _ _).1 hz)
  exact (okS_at (List.getElem?_eq_some_iff.2 ⟨hi, e⟩) ((arS_iff zs).1 h).2).1
/-- A rule as described. -/
def rlB (L : Int) (xs ys : List Int) : Bool := ln L && arS xs && arS ys
theorem rlB_iff (L : Int) (xs ys : List Int) : rlB L xs ys = true ↔ ln L = true ∧ arS xs = true ∧ arS ys = true := by
  unfold rlB; rw [Bool.and_eq_true, Bool.and_eq_true, and_assoc]
theorem rlB_tf (L : Int) (xs ys : List Int) : rlB L xs ys = true ∨ rlB L xs ys = false := by cases rlB L xs ys <;> simp
/-- A part's scales. -/
def onP (b : Bool) (xs ys : List Int) : List Int := if b = true then ys else xs
theorem onP_t (xs ys : List Int) : onP true xs ys = ys := rfl
theorem onP_f (xs ys : List Int) : onP false xs ys = xs := rfl
theorem onP_mem {b : Bool} {L : Int} {xs ys : List Int} {s : Int} (h : rlB L xs ys = true) (hs : hasI (onP b xs ys) s = true) : lsc s = true := by
  obtain ⟨-, h1, h2⟩ := (rlB_iff L xs ys).1 h
  cases b
  · exact arS_mem h1 hs
  · exact arS_mem h2 hs
def hsR (L : Int) (xs ys : List Int) (b : Bool) (s : Int) : Bool × Int := if rlB L xs ys = true then (hasI (onP b xs ys) s, 0) else (false, 1)
theorem hsR_ok (L : Int) (xs ys : List Int) (b : Bool) (s : Int) (h : rlB L xs ys = true) : hsR L xs ys b s = (hasI (onP b xs ys) s, 0) := if_pos h
theorem hsR_no (L : Int) (xs ys : List Int) (b : Bool) (s : Int) (h : rlB L xs ys = false) : hsR L xs ys b s = (false, 1) := if_neg (by rw [h]; simp)
/-- What PointOf answers. -/
def ptR (s d t : Int) : Int × Int := if pcd s d t = 0 then (pnt s d t, 0) else (0, pcd s d t)
theorem ptR_ok (s d t : Int) (h : pcd s d t = 0) : ptR s d t = (pnt s d t, 0) := if_pos h
theorem ptR_no (s d t : Int) (h : pcd s d t ≠ 0) : ptR s d t = (0, pcd s d t) := if_neg h
theorem ptR_po (s d t : Int) : ptR s d t = (((poR s d t).1.1 + (poR s d t).1.2).fdiv 2, (poR s d t).2) := by
  by_cases h : pcd s d t = 0
  · rw [ptR_ok _ _ _ h, poR_ok _ _ _ h]; rfl
  · rw [ptR_no _ _ _ h, poR_no _ _ _ h]; rfl
theorem ptR_lsc (s d t : Int) (hf : fg d t = true) (hs : lsc s = true) : ptR s d t = (pnt s d t, 0) := by
  refine ptR_ok _ _ _ ?_
  have h5 := (lsc_iff s).1 hs
  rcases pcd_cases s d t with ⟨h, -⟩ | ⟨-, h, -⟩ | ⟨-, h, -⟩ | ⟨-, -, -, h⟩
  · rw [hf] at h; cases h
  · rw [lsc_sc s hs] at h; cases h
  · omega
  · exact h

/-- The code of a rule, a setting and a scale of a part. -/
def rcd (L : Int) (xs ys : List Int) (a c : Int) (b : Bool) (s : Int) : Int := if (rlB L xs ys && sgB a c) = false then 1 else if hasI (onP b xs ys) s = false then 2 else 0
theorem rcd_cases (L : Int) (xs ys : List Int) (a c : Int) (b : Bool) (s : Int) : (rlB L xs ys = false ∧ rcd L xs ys a c b s = 1) ∨ (rlB L xs ys = true ∧ sgB a c = false ∧ rcd L xs ys a c b s = 1) ∨ (rlB L xs ys = true ∧ sgB a c = true ∧ hasI (onP b xs ys) s = false ∧ rcd L xs ys a c b s = 2) ∨
    (rlB L xs ys = true ∧ sgB a c = true ∧ hasI (onP b xs ys) s = true ∧ rcd L xs ys a c b s = 0) := by
  unfold rcd
  cases rlB L xs ys <;> cases sgB a c <;> cases hasI (onP b xs ys) s <;> simp
/-- Where a part begins. -/
def stP (b : Bool) (a : Int) : Int := if b = true then a else 0
theorem stP_t (a : Int) : stP true a = a := rfl
theorem stP_f (a : Int) : stP false a = 0 := rfl
/-- What is read on a part. -/
def rfC (L : Int) (xs ys : List Int) (a c : Int) (b : Bool) (s : Int) : Int := if rcd L xs ys a c b s ≠ 0 then rcd L xs ys a c b s else if abv (c - stP b a) = false then 5 else 0
def rfR (L : Int) (xs ys : List Int) (a c : Int) (b : Bool) (s : Int) : (Int × Int) × Int := if rfC L xs ys a c b s = 0 then ((gD (rdN s (c - stP b a)), gT (rdN s (c - stP b a))), 0) else ((0, 0), rfC L xs ys a c b s)
theorem rfC_cases (L : Int) (xs ys : List Int) (a c : Int) (b : Bool) (s : Int) : (rcd L xs ys a c b s ≠ 0 ∧ rfC L xs ys a c b s = rcd L xs ys a c b s) ∨ (rcd L xs ys a c b s = 0 ∧ abv (c - stP b a) = false ∧ rfC L xs ys a c b s = 5) ∨
    (rcd L xs ys a c b s = 0 ∧ abv (c - stP b a) = true ∧ rfC L xs ys a c b s = 0) := by
  unfold rfC
  by_cases h : rcd L xs ys a c b s = 0
  · rw [if_neg (by omega)]; cases abv (c - stP b a) <;> simp [h]
  · rw [if_pos h]; simp [h]
theorem rfR_ok (L : Int) (xs ys : List Int) (a c : Int) (b : Bool) (s : Int) (h : rfC L xs ys a c b s = 0) : rfR L xs ys a c b s = ((gD (rdN s (c - stP b a)), gT (rdN s (c - stP b a))), 0) := if_pos h
theorem rfR_no (L : Int) (xs ys : List Int) (a c : Int) (b : Bool) (s : Int) (h : rfC L xs ys a c b s ≠ 0) : rfR L xs ys a c b s = ((0, 0), rfC L xs ys a c b s) := if_neg h
theorem rfR_snd (L : Int) (xs ys : List Int) (a c : Int) (b : Bool) (s : Int) : (rfR L xs ys a c b s).2 = rfC L xs ys a c b s := by
  by_cases h : rfC L xs ys a c b s = 0
  · rw [rfR_ok _ _ _ _ _ _ _ h, h]
  · rw [rfR_no _ _ _ _ _ _ _ h]
/-- A setting as a result. -/
def rsS (a c : Int) : (Int × Int) × Int := if sgB a c = true then ((a, c), 0) else ((0, 0), 5)
theorem rsS_ok (a c : Int) (h : sgB a c = true) : rsS a c = ((a, c), 0) := if_pos h
theorem rsS_no (a c : Int) (h : sgB a c = false) : rsS a c = ((0, 0), 5) := if_neg (by rw [h]; simp)
def seC (L : Int) (xs ys : List Int) (a c : Int) (b : Bool) (s d t : Int) : Int := if fg d t = false then 1 else rcd L xs ys a c b s
theorem seC_cases (L : Int) (xs ys : List Int) (a c : Int) (b : Bool) (s d t : Int) : (rlB L xs ys = false ∧ seC L xs ys a c b s d t = 1) ∨ (rlB L xs ys = true ∧ sgB a c = false ∧ seC L xs ys a c b s d t = 1) ∨ (rlB L xs ys = true ∧ sgB a c = true ∧ fg d t = false ∧ seC L xs ys a c b s d t = 1) ∨ (rlB L xs ys = true ∧ sgB a c = true ∧ fg d t = true ∧ hasI (onP b xs ys) s = false ∧ seC L xs ys a c b s d t = 2) ∨
    (rlB L xs ys = true ∧ sgB a c = true ∧ fg d t = true ∧ hasI (onP b xs ys) s = true ∧ seC L xs ys a c b s d t = 0) := by
  unfold seC
  have H := rcd_cases L xs ys a c b s
  generalize hasI (onP b xs ys) s = q at *
  rcases H with ⟨h1, e⟩ | ⟨h1, h2, e⟩ | ⟨h1, h2, h3, e⟩ | ⟨h1, h2, h3, e⟩ <;> cases fg d t <;> simp [*]
/-- What SetCursor and SetSlide answer. -/
def cuR (L : Int) (xs ys : List Int) (a c : Int) (b : Bool) (s d t : Int) : (Int × Int) × Int := if seC L xs ys a c b s d t = 0 then rsS a (stP b a + pnt s d t) else ((0, 0), seC L xs ys a c b s d t)
def slR (L : Int) (xs ys : List Int) (a c s d t : Int) : (Int × Int) × Int := if seC L xs ys a c true s d t = 0 then rsS (c - pnt s d t) c else ((0, 0), seC L xs ys a c true s d t)
theorem cuR_ok (L : Int) (xs ys : List Int) (a c : Int) (b : Bool) (s d t : Int) (h : seC L xs ys a c b s d t = 0) : cuR L xs ys a c b s d t = rsS a (stP b a + pnt s d t) := if_pos h
theorem cuR_no (L : Int) (xs ys : List Int) (a c : Int) (b : Bool) (s d t : Int) (h : seC L xs ys a c b s d t ≠ 0) : cuR L xs ys a c b s d t = ((0, 0), seC L xs ys a c b s d t) := if_neg h
theorem slR_ok (L : Int) (xs ys : List Int) (a c s d t : Int) (h : seC L xs ys a c true s d t = 0) : slR L xs ys a c s d t = rsS (c - pnt s d t) c := if_pos h
theorem slR_no (L : Int) (xs ys : List Int) (a c s d t : Int) (h : seC L xs ys a c true s d t ≠ 0) : slR L xs ys a c s d t = ((0, 0), seC L xs ys a c true s d t) := if_neg h
end Go.Proofs.YtphebmbapllinaaDoor
