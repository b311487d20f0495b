/- Plain mathematics of the laws of chapter 4: figures below and above, powers and roots. No program is imported here. -/
import Derived.Test.YtgadkpkpdpphbaaDoorM13
import Derived.Test.YtgadkpkpdpphbaaDoorM07
import Derived.Test.YtgadkpkpdpphbaaDoorM08
namespace Go.Proofs.YtgadkpkpdpphbaaDoor
set_option linter.unusedSimpArgs false
set_option linter.unusedVariables false

/-- Three figures in order. -/
def btw (a s b t c u : Int) : Prop := (fg a s = true ∧ fg b t = true ∧ fg c u = true) ∧ 10000 * s + a ≤ 10000 * t + b ∧ 10000 * t + b ≤ 10000 * u + c
/-- A figure's number, and back. -/
def num (a s : Int) : Int := 9000 * s + (a - 1000)
theorem num_bd (a s : Int) (h : fg a s = true) : (-270000 ≤ num a s ∧ num a s ≤ 278999) ∧ 1000 + num a s % 9000 = a ∧ num a s / 9000 = s := by
  obtain ⟨⟨a1, a2⟩, s1, s2⟩ := (fg_iff a s).1 h
  unfold num
  omega
theorem num_fnl (a s : Int) (h : fg a s = true) : fnl (num a s) = flg a s := by
  obtain ⟨-, h1, h2⟩ := num_bd a s h
  rw [fnl_eq, h1, h2]
theorem num_of (m : Int) : num (1000 + m % 9000) (m / 9000) = m := by unfold num; omega
theorem flg_at (m : Int) : flg (1000 + m % 9000) (m / 9000) = fnl m := rfl
/-- Greater logarithms, greater numbers. -/
theorem lt_num {a b : Int} (a1 : -270000 ≤ a) (a2 : a ≤ 278999) (b1 : -270000 ≤ b) (b2 : b ≤ 278999) (h : (fnl a).2 ≤ (fnl b).1) : a < b := by
  rcases Int.lt_or_le a b with h1 | h1
  · exact h1
  · have := (fnl_mono b1 h1 a2).1
    have := fnl_wid a a1 a2
    omega
theorem below_le {u k : Int} (h1 : -270000 ≤ k) (h2 : k ≤ 278999) (h : k < ff true u) : (fnl k).2 ≤ u := by
  have := ff_lo h1 h
  rw [ovr_t] at this
  simpa using this
theorem above_ge {u k : Int} (h1 : -270000 ≤ k) (h2 : k ≤ 278999) (h : ff false u ≤ k) : u ≤ (fnl k).1 := by
  have := ff_hi h h2
  rw [ovr_f] at this
  simpa using this
theorem ff_le {l h : Int} (hl : l ≤ h) : ff true l ≤ ff false h := by
  have b1 := ff_bd true l
  have b2 := ff_bd false h
  rcases Int.lt_or_le (ff false h) (ff true l) with c | c
  · have x := below_le (u := l) b2.1 (by omega) c
    have y := above_ge (u := h) b2.1 (by omega) (Int.le_refl _)
    have := fnl_wid (ff false h) b2.1 (by omega)
    omega
  · exact c
theorem ff_mono {hi : Bool} {l h : Int} (hl : l ≤ h) : ff hi l ≤ ff hi h := by
  have b1 := ff_bd hi l
  have b2 := ff_bd hi h
  rcases Int.lt_or_le (ff hi h) (ff hi l) with c | c
  · have x := ff_lo (hi := hi) (u := l) b2.1 c
    have y := ff_hi (hi := hi) (u := h) (Int.le_refl _) (by omega)
    cases hi
    · rw [ovr_f] at x y; simp at x y; omega
    · rw [ovr_t] at x y; simp at x y; omega
  · exact c
theorem ff_near (u : Int) (h : ff false u ≤ 278999) : ff false u ≤ ff true u + 1 := by
  have b1 := ff_bd true u
  have b2 := ff_bd false u
  rcases Int.lt_or_le (ff true u + 1) (ff false u) with c | c
  · have x := ff_hi (hi := true) (u := u) (Int.le_refl _) (by omega)
    have y := ff_lo (hi := false) (u := u) (n := ff true u + 1) (by omega) c
    have s := fnl_step (ff true u) b1.1 (by omega)
    rw [ovr_t] at x
    rw [ovr_f] at y
    simp at x y
    omega
  · exact c
theorem rank_le {m n : Int} (h : m ≤ n) : 10000 * (m / 9000) + (1000 + m % 9000) ≤ 10000 * (n / 9000) + (1000 + n % 9000) := by omega

/-- The figure below. -/
theorem fb_facts (u : Int) : ((fbR u).2 ≠ 0) ∨ ((fbR u).2 = 0 ∧ flR (fbR u).1.1 (fbR u).1.2 = (flg (fbR u).1.1 (fbR u).1.2, 0) ∧ (flg (fbR u).1.1 (fbR u).1.2).2 ≤ u) := by
  cases hu : un u
  · left; rw [fbR_no u hu]; simp
  · rw [fbR_ok u hu]
    rcases nfR_cases (ff true u - 1) with ⟨⟨h1, h2⟩, h⟩ | ⟨-, h⟩
    · right
      rw [h]
      exact ⟨rfl, flR_ok _ _ (fn_fg _ h1 h2), by rw [flg_at]; exact below_le h1 h2 (by omega)⟩
    · left; rw [h]; simp
theorem fa_facts (u : Int) : ((faR u).2 ≠ 0) ∨ ((faR u).2 = 0 ∧ flR (faR u).1.1 (faR u).1.2 = (flg (faR u).1.1 (faR u).1.2, 0) ∧ u ≤ (flg (faR u).1.1 (faR u).1.2).1) := by
  cases hu : un u
  · left; rw [faR_no u hu]; simp
  · rw [faR_ok u hu]
    rcases nfR_cases (ff false u) with ⟨⟨h1, h2⟩, h⟩ | ⟨-, h⟩
    · right
      rw [h]
      exact ⟨rfl, flR_ok _ _ (fn_fg _ h1 h2), by rw [flg_at]; exact above_ge h1 h2 (Int.le_refl _)⟩
    · left; rw [h]; simp

theorem reE_le2 (n d : Int) (hd : 0 < d) (h : (n - d) * 1000000 ≤ 2100 * d) (h' : (d - n) * 1000000 ≤ 2100 * d) : reE n d ≤ 2100 := by
  unfold reE
  obtain ⟨h1, h2⟩ := cd_frac ((n - d).natAbs * 1000000) d hd
  generalize cd ((n - d).natAbs * 1000000) d = y at *
  have : y < 2101 := lt_of_mul hd (by omega)
  omega
/-- Two figures at most two numbers apart. -/
theorem re_near (m n : Int) (m1 : -270000 ≤ m) (n2 : n ≤ 278999) (h1 : m ≤ n) (h2 : n ≤ m + 2) :
    (reR (1000 + n % 9000) (n / 9000) (1000 + m % 9000) (m / 9000)).2 = 0 ∧ (reR (1000 + n % 9000) (n / 9000) (1000 + m % 9000) (m / 9000)).1 ≤ 2100 := by
  have k : reV (1000 + n % 9000) (n / 9000) (1000 + m % 9000) (m / 9000) ≤ 2100 := by
    unfold reV
    by_cases h : n / 9000 = m / 9000
    · rw [if_neg (by omega), if_neg (by omega), if_neg (by omega), show (m / 9000 - n / 9000).toNat = 0 by omega, show p10 0 = 1 from rfl, Int.mul_one]
      exact reE_le2 _ _ (by omega) (by omega) (by omega)
    · rw [if_neg (by omega), if_neg (by omega), if_pos (by omega), show (n / 9000 - m / 9000).toNat = 1 by omega, show p10 1 = 10 from rfl]
      exact reE_le2 _ _ (by omega) (by omega) (by omega)
  rw [reR_lo _ _ _ _ (fn_fg n (by omega) n2) (fn_fg m m1 (by omega)) (by omega)]
  exact ⟨rfl, k⟩
theorem ba_facts (u : Int) (h1 : (fbR u).2 = 0) (h2 : (faR u).2 = 0) :
    btw (fbR u).1.1 (fbR u).1.2 (fbR u).1.1 (fbR u).1.2 (faR u).1.1 (faR u).1.2 ∧ (reR (faR u).1.1 (faR u).1.2 (fbR u).1.1 (fbR u).1.2).2 = 0 ∧ (reR (faR u).1.1 (faR u).1.2 (fbR u).1.1 (fbR u).1.2).1 ≤ 2100 := by
  cases hu : un u
  · rw [fbR_no u hu] at h1; simp at h1
  · rw [fbR_ok u hu] at h1 ⊢
    rw [faR_ok u hu] at h2 ⊢
    rcases nfR_cases (ff true u - 1) with ⟨⟨c1, c2⟩, h⟩ | ⟨-, h⟩
    · rcases nfR_cases (ff false u) with ⟨⟨d1, d2⟩, h'⟩ | ⟨-, h'⟩
      · rw [h, h']
        have x := ff_le (Int.le_refl u)
        have y := ff_near u d2
        exact ⟨⟨⟨fn_fg _ c1 c2, fn_fg _ c1 c2, fn_fg _ d1 d2⟩, Int.le_refl _, rank_le (by omega)⟩, re_near _ _ c1 d2 (by omega) (by omega)⟩
      · rw [h'] at h2; simp at h2
    · rw [h] at h1; simp at h1

/-- What is known of a span: its two numbers. -/
theorem spU_facts (l h : Int) : ((spU l h).c ≠ 0) ∨ (∃ m n : Int, spU l h = ⟨1000 + m % 9000, m / 9000, 1000 + n % 9000, n / 9000, 0⟩ ∧ (-270000 ≤ m ∧ m ≤ 278999) ∧ (-270000 ≤ n ∧ n ≤ 278999) ∧ m = ff true l - 1 ∧ n = ff false h ∧ (fnl m).2 ≤ l ∧ h ≤ (fnl n).1) := by
  cases hu : (un l && un h)
  · left; rw [spU_no l h hu]; simp
  · rw [Bool.and_eq_true] at hu
    rw [spU_ok l h hu.1 hu.2]
    by_cases hm : (-270000 ≤ ff true l - 1 ∧ ff true l - 1 ≤ 278999) ∧ (-270000 ≤ ff false h ∧ ff false h ≤ 278999)
    · right
      exact ⟨_, _, spN_ok _ _ hm, hm.1, hm.2, rfl, rfl, below_le hm.1.1 hm.1.2 (by omega), above_ge hm.2.1 hm.2.2 (Int.le_refl _)⟩
    · left; rw [spN_no _ _ hm]; simp
/-- The ends of a span are in order. -/
theorem sp_order (l h : Int) (e : (spR l h).c = 0) : btw (spR l h).a (spR l h).s (spR l h).a (spR l h).s (spR l h).b (spR l h).t := by
  cases hi : iv l h
  · rw [spR_no l h hi] at e; simp at e
  · rw [spR_ok l h hi] at e ⊢
    have hl := ((iv_iff l h).1 hi).2.2
    rcases spU_facts l h with c | ⟨m, n, e1, ⟨m1, m2⟩, ⟨n1, n2⟩, em, en, -, -⟩
    · exact absurd e c
    · rw [e1]
      have := ff_le hl
      exact ⟨⟨fn_fg _ m1 m2, fn_fg _ m1 m2, fn_fg _ n1 n2⟩, Int.le_refl _, rank_le (by omega)⟩

/-- What is known of the span of a power. -/
theorem pw_facts (a s n d : Int) (h : (pwR a s n d).c = 0) : fg a s = true ∧ (-12 ≤ n ∧ n ≤ 12) ∧ (1 ≤ d ∧ d ≤ 12) ∧
    ∃ i j : Int, pwR a s n d = ⟨1000 + i % 9000, i / 9000, 1000 + j % 9000, j / 9000, 0⟩ ∧ (-270000 ≤ i ∧ i ≤ 278999) ∧ (-270000 ≤ j ∧ j ≤ 278999) ∧
      i = ff true (scl (flg a s).1 (flg a s).2 n d).1 - 1 ∧ j = ff false (scl (flg a s).1 (flg a s).2 n d).2 ∧ (fnl i).2 ≤ (scl (flg a s).1 (flg a s).2 n d).1 ∧ (scl (flg a s).1 (flg a s).2 n d).2 ≤ (fnl j).1 := by
  cases hf : fg a s
  · rw [pwR_no a s n d hf] at h; simp at h
  · rcases scR_facts (flg a s).1 (flg a s).2 n d with hc | ⟨hc, -, hn, hd, hv, -⟩
    · rw [pwR_bad a s n d hf hc] at h; exact absurd h hc
    · rw [pwR_ok a s n d hf hc] at h ⊢
      rw [hv] at h ⊢
      rcases spU_facts (scl (flg a s).1 (flg a s).2 n d).1 (scl (flg a s).1 (flg a s).2 n d).2 with c | ⟨m, k, e1, hm, hk, em, ek, x, y⟩
      · exact absurd h c
      · exact ⟨rfl, hn, hd, m, k, e1, hm, hk, em, ek, x, y⟩
theorem fd_mono {x y n : Int} (hn : 0 < n) (h : x ≤ y) : x.fdiv n ≤ y.fdiv n := by
  rw [Int.fdiv_eq_ediv_of_nonneg _ (by omega), Int.fdiv_eq_ediv_of_nonneg _ (by omega)]
  exact Int.ediv_le_ediv hn h
theorem cd_mono {x y n : Int} (hn : 0 < n) (h : x ≤ y) : cd x n ≤ cd y n := by
  unfold cd
  have := fd_mono hn (show -y ≤ -x by omega)
  omega
theorem pow_core (k i j i' j' i'' j'' n d : Int) (hk : -270000 ≤ k ∧ k ≤ 278999) (hi : -270000 ≤ i ∧ i ≤ 278999) (hj : -270000 ≤ j ∧ j ≤ 278999) (hi' : -270000 ≤ i' ∧ i' ≤ 278999) (hj'' : -270000 ≤ j'' ∧ j'' ≤ 278999)
    (hn : 0 < n) (hd : 0 < d) (hx : (fnl i).2 ≤ ((fnl k).1 * n).fdiv d) (hy : cd ((fnl k).2 * n) d ≤ (fnl j).1)
    (em : i' = ff true (((fnl i).1 * d).fdiv n) - 1) (en : j' = ff false (cd ((fnl i).2 * d) n)) (hx' : (fnl i').2 ≤ ((fnl i).1 * d).fdiv n)
    (em' : i'' = ff true (((fnl j).1 * d).fdiv n) - 1) (en' : j'' = ff false (cd ((fnl j).2 * d) n)) (hy'' : cd ((fnl j).2 * d) n ≤ (fnl j'').1) :
    i' ≤ j' ∧ j' ≤ j'' ∧ i' ≤ i'' ∧ i'' ≤ j'' ∧ i' < k ∧ k < j'' := by
  have wi := (fnl_wid i hi.1 hi.2).1
  have wj := (fnl_wid j hj.1 hj.2).1
  have wk := (fnl_wid k hk.1 hk.2).1
  have o0 : (fnl k).1 * n ≤ (fnl k).2 * n := Int.mul_le_mul_of_nonneg_right (Int.le_of_lt wk) (Int.le_of_lt hn)
  have f1 := (frac_pos ((fnl k).1 * n) d hd).lo
  have f2 := (frac_pos ((fnl k).2 * n) d hd).hi
  have o2 : ((fnl k).1 * n).fdiv d ≤ cd ((fnl k).2 * n) d := Int.le_of_mul_le_mul_right (Int.le_trans f1 (Int.le_trans o0 f2)) hd
  have hij : i < j := lt_num hi.1 hi.2 hj.1 hj.2 (Int.le_trans hx (Int.le_trans o2 hy))
  have hm := fnl_mono hi.1 (Int.le_of_lt hij) hj.2
  have p1 : (fnl i).1 * d ≤ (fnl j).1 * d := Int.mul_le_mul_of_nonneg_right hm.1 (Int.le_of_lt hd)
  have p2 : (fnl i).2 * d ≤ (fnl j).2 * d := Int.mul_le_mul_of_nonneg_right hm.2 (Int.le_of_lt hd)
  have p3 : (fnl i).1 * d ≤ (fnl i).2 * d := Int.mul_le_mul_of_nonneg_right (Int.le_of_lt wi) (Int.le_of_lt hd)
  have p4 : (fnl j).1 * d ≤ (fnl j).2 * d := Int.mul_le_mul_of_nonneg_right (Int.le_of_lt wj) (Int.le_of_lt hd)
  have lohi : ∀ x y : Int, x ≤ y → x.fdiv n ≤ cd y n := fun x y hxy =>
    Int.le_of_mul_le_mul_right (Int.le_trans (frac_pos x n hn).lo (Int.le_trans hxy (frac_pos y n hn).hi)) hn
  have q1 := ff_le (lohi _ _ p3)
  have q2 := ff_le (lohi _ _ p4)
  have q3 := ff_mono (hi := true) (fd_mono hn p1)
  have q4 := ff_mono (hi := false) (cd_mono hn p2)
  have r1 : (fnl i').2 ≤ (fnl k).1 := by
    have a1 : (fnl i).1 * d ≤ ((fnl k).1 * n).fdiv d * d := Int.mul_le_mul_of_nonneg_right (Int.le_trans (Int.le_of_lt wi) hx) (Int.le_of_lt hd)
    have a2 := (frac_pos ((fnl i).1 * d) n hn).lo
    exact Int.le_trans hx' (Int.le_of_mul_le_mul_right (Int.le_trans a2 (Int.le_trans a1 f1)) hn)
  have r2 : (fnl k).2 ≤ (fnl j'').1 := by
    have a1 : cd ((fnl k).2 * n) d * d ≤ (fnl j).2 * d := Int.mul_le_mul_of_nonneg_right (Int.le_trans hy (Int.le_of_lt wj)) (Int.le_of_lt hd)
    have a2 := (frac_pos ((fnl j).2 * d) n hn).hi
    exact Int.le_trans (Int.le_of_mul_le_mul_right (Int.le_trans f2 (Int.le_trans a1 a2)) hn) hy''
  have s1 := lt_num hi'.1 hi'.2 hk.1 hk.2 r1
  have s2 := lt_num hk.1 hk.2 hj''.1 hj''.2 r2
  generalize ff true (((fnl i).1 * d).fdiv n) = u1 at *
  generalize ff false (cd ((fnl i).2 * d) n) = u2 at *
  generalize ff true (((fnl j).1 * d).fdiv n) = u3 at *
  generalize ff false (cd ((fnl j).2 * d) n) = u4 at *
  clear hx hy hx' hy'' f1 f2 o0 o2 p1 p2 p3 p4 lohi r1 r2 hm wi wj wk
  omega
/-- The middle of the three ways back. -/
def rk (m : Int) : Int := 10000 * (m / 9000) + (1000 + m % 9000)
theorem rk_le {m n : Int} (h : m ≤ n) : rk m ≤ rk n := rank_le h
theorem rk_eq (m : Int) : rk m = 10000 * (m / 9000) + (1000 + m % 9000) := rfl
theorem btw_of (i j k : Int) (hi : -270000 ≤ i ∧ i ≤ 278999) (hj : -270000 ≤ j ∧ j ≤ 278999) (hk : -270000 ≤ k ∧ k ≤ 278999) (h1 : i ≤ j) (h2 : j ≤ k) :
    btw (1000 + i % 9000) (i / 9000) (1000 + j % 9000) (j / 9000) (1000 + k % 9000) (k / 9000) :=
  ⟨⟨fn_fg i hi.1 hi.2, fn_fg j hj.1 hj.2, fn_fg k hk.1 hk.2⟩, rank_le h1, rank_le h2⟩
/-- Back from a root: the figure lies between the outer ends. -/
theorem pow_back (a s n d : Int) (P Q R : Sp) (hP : pwR a s n d = P) (hQ : pwR P.a P.s d n = Q) (hR : pwR P.b P.t d n = R) (h : P.c = 0) (hn : 1 ≤ n) (h2 : Q.c = 0) (h3 : R.c = 0) :
    btw Q.a Q.s Q.b Q.t R.b R.t ∧ btw Q.a Q.s R.a R.s R.b R.t ∧ btw Q.a Q.s a s R.b R.t := by
  obtain ⟨hf, -, ⟨d1, d2⟩, i, j, e, hi, hj, -, -, hx, hy⟩ := pw_facts a s n d (by rw [hP]; exact h)
  rw [hP] at e
  subst e
  simp only at hQ hR
  obtain ⟨-, -, -, i', j', e2, hi', hj', em, en, hx', -⟩ := pw_facts _ _ d n (by rw [hQ]; exact h2)
  rw [hQ] at e2
  subst e2
  obtain ⟨-, -, -, i'', j'', e3, hi'', hj'', em', en', -, hy''⟩ := pw_facts _ _ d n (by rw [hR]; exact h3)
  rw [hR] at e3
  subst e3
  clear hP hQ hR h h2 h3
  obtain ⟨hk, k3, k4⟩ := num_bd a s hf
  have kf := num_fnl a s hf
  rw [← kf] at hx hy
  generalize num a s = k at *
  subst k3 k4
  rw [flg_at] at em en hx' em' en' hy''
  rw [scl_pos _ _ n d (by omega)] at hx hy
  rw [scl_pos _ _ d n (by omega)] at hx' hy'' em en em' en'
  obtain ⟨c1, c2, c3, c4, c5, c6⟩ := pow_core k i j i' j' i'' j'' n d hk hi hj hi' hj'' (by omega) (by omega) hx hy em en hx' em' en' hy''
  exact ⟨btw_of _ _ _ hi' hj' hj'' c1 c2, btw_of _ _ _ hi' hi'' hj'' c3 c4, btw_of _ _ _ hi' hk hj'' (Int.le_of_lt c5) (Int.le_of_lt c6)⟩
/-- The error of a span is that of its ends. -/
theorem se_facts (a s b t : Int) : ((seR a s b t).2 ≠ 0) ∨ ((seR a s b t).2 = 0 ∧ reR b t a s = seR a s b t) := by
  by_cases h : scd a s b t = 0
  · rw [seR_ok a s b t h]
    by_cases h2 : (reR b t a s).2 = 0
    · exact .inr ⟨h2, rfl⟩
    · exact .inl h2
  · left; rw [seR_no a s b t h]; exact h
end Go.Proofs.YtgadkpkpdpphbaaDoor
