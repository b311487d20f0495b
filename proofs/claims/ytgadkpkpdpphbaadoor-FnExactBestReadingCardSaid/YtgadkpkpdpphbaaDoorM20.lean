/- Chapter 6: what its laws say of the readings. -/
import Derived.Test.YtgadkpkpdpphbaaDoorM19
import Derived.Test.YtgadkpkpdpphbaaDoorM18
import Derived.Test.YtgadkpkpdpphbaaDoorM14
namespace Go.Proofs.YtgadkpkpdpphbaaDoor
set_option linter.unusedVariables false
set_option linter.unusedSimpArgs false

/-- A figure of a scale by its digits' and its tens' number. -/
theorem at_of (x y : Nat) (hx : x < 900) : atD (900 * y + x) = 1000 + 10 * x ∧ atT (900 * y + x) = y := by
  unfold atD atT
  omega
theorem at_in (s : Int) (x y : Nat) (hx : x < 900) (hy : (y : Int) < dec s) : 900 * y + x < figs s := by
  have := figs_is s
  omega
theorem dec_5 (s t : Int) (h0 : 0 ≤ t) (h : t < dec s) : ¬ (s = 5 ∧ t ≠ 0) := by
  rintro ⟨rfl, h2⟩
  have : dec 5 = 1 := rfl
  omega
theorem pl_ok (s d t l : Int) (h1 : fg d t = true) (h2 : sc s = true) (h3 : ¬ (s = 5 ∧ t ≠ 0)) (h4 : ln l = true) : plR s d t l = (pl s d t l, 0) := by
  refine plR_pl s d t l ?_
  rcases qcd_cases s d t l with ⟨-, h, -⟩ | ⟨e, -, -⟩ | ⟨-, -, h, -⟩ | ⟨-, -, -, e⟩
  · rw [h1] at h; cases h
  · rcases pcd_cases s d t with ⟨h, -⟩ | ⟨-, h, -⟩ | ⟨-, h, h', -⟩ | ⟨-, -, -, e'⟩
    · rw [h1] at h; cases h
    · rw [h2] at h; cases h
    · exact absurd ⟨h, h'⟩ h3
    · omega
  · rw [h4] at h; cases h
  · exact e

/-- The codes of the three readings. -/
theorem rd_cases (s l p e : Int) : (ok6 s l p e = false ∧ frR s l p e = ((0, 0), 2) ∧ lrR s l p e = ((0, 0), 2) ∧ crR s l p e = (0, 2)) ∨
    (ok6 s l p e = true ∧ frR s l p e = ((0, 0), 4) ∧ lrR s l p e = ((0, 0), 4) ∧ crR s l p e = (0, 0)) ∨
    (ok6 s l p e = true ∧ ∃ a b c d n : Int, frR s l p e = ((a, b), 0) ∧ lrR s l p e = ((c, d), 0) ∧ crR s l p e = (n, 0) ∧ 0 < n ∧ btw a b a b c d) := by
  rcases ok6_tf s l p e with h | h
  · rcases rd_none_or s l p e with ⟨e1, e2, e3⟩ | ⟨h1, h2, h3, h4⟩
    · exact .inr (.inl ⟨h, rdR_no _ _ h (by omega), rdR_no _ _ h (by omega), by rw [crR_ok _ _ _ _ h, e3]⟩)
    · refine .inr (.inr ⟨h, _, _, _, _, _, rdR_ok _ _ h (by omega), rdR_ok _ _ h (by omega), crR_ok _ _ _ _ h, h4, ?_⟩)
      have f1 := at_fg (fstN s l p e).toNat (by omega)
      have f2 := at_fg (lstN s l p e).toNat (by omega)
      refine ⟨⟨f1, f1, f2⟩, by omega, ?_⟩
      unfold atD atT
      omega
  · exact .inl ⟨h, rdR_rg _ _ h, rdR_rg _ _ h, crR_rg _ _ _ _ h⟩
/-- A figure of a scale is among the readings of its own place. -/
theorem own_reading (s l e : Int) (x y : Nat) (hs : sc s = true) (hl : ln l = true) (he : 0 ≤ e ∧ e ≤ 200) (hx : x < 900) (hy : (y : Int) < dec s) :
    let a := max 0 (min l (pl s (1000 + 10 * x) y l).1)
    fg (1000 + 10 * x) y = true ∧ plR s (1000 + 10 * x) y l = (pl s (1000 + 10 * x) y l, 0) ∧ mbR s (1000 + 10 * x) y l a e = (may s (1000 + 10 * x) y l a e, 0) ∧
      crR s l a e = (cntN s l a e, 0) ∧ (may s (1000 + 10 * x) y l a e = true → 0 < cntN s l a e) ∧ (a = (pl s (1000 + 10 * x) y l).1 → may s (1000 + 10 * x) y l a e = true) := by
  intro a
  have hf : fg (1000 + 10 * (x : Int)) y = true := by
    have := dec_bd s
    refine (fg_iff _ _).2 ?_
    omega
  have h5 := dec_5 s y (by omega) hy
  have ha : ok6 s l a e = true := (ok6_iff _ _ _ _).2 ⟨hs, hl, by have := (ln_iff l).1 hl; show 0 ≤ max 0 (min l _) ∧ max 0 (min l _) ≤ l; omega, he⟩
  refine ⟨hf, pl_ok _ _ _ _ hf hs h5 hl, mbR_ok _ _ _ _ _ _ hf ha h5, crR_ok _ _ _ _ ha, ?_, ?_⟩
  · intro hm
    obtain ⟨e1, e2⟩ := at_of x y hx
    rcases cntQ_zero (mayN s l a e) (figs s) with ⟨-, h⟩ | ⟨h, -⟩
    · have := h _ (at_in s x y hx hy)
      unfold mayN at this
      rw [e1, e2, hm] at this
      cases this
    · exact h
  · intro h
    have b := (pl_bd s _ _ l hf hl).2.2.2.2
    refine (may_iff _ _ _ _ _ _).2 ?_
    omega
/-- No figure of the scale stands nearer than the best one. -/
theorem best_near (s l p : Int) (x y : Nat) (h : ok6 s l p 0 = true) (hx : x < 900) (hy : (y : Int) < dec s) :
    ∃ d t : Int, brR s l p = ((d, t), 0) ∧ plR s d t l = (pl s d t l, 0) ∧ plR s (1000 + 10 * x) y l = (pl s (1000 + 10 * x) y l, 0) ∧
      max ((pl s d t l).1 + (pl s d t l).2 - 2 * p) (-((pl s d t l).1 + (pl s d t l).2 - 2 * p)) ≤ max ((pl s (1000 + 10 * x) y l).1 + (pl s (1000 + 10 * x) y l).2 - 2 * p) (-((pl s (1000 + 10 * x) y l).1 + (pl s (1000 + 10 * x) y l).2 - 2 * p)) := by
  obtain ⟨hs, hl, -, -⟩ := (ok6_iff _ _ _ _).1 h
  obtain ⟨k, hk, e, h1, -⟩ := bstN_spec s l p
  have hk2 := figs_bd s
  have hf := at_fg k (by omega)
  have ht := at_tens s k hk
  have hf2 : fg (1000 + 10 * (x : Int)) y = true := by
    have := dec_bd s
    refine (fg_iff _ _).2 ?_
    omega
  refine ⟨atD k, atT k, by rw [brR_ok _ _ _ h, e]; rfl, pl_ok _ _ _ _ hf hs (dec_5 s _ ht.1 ht.2) hl, pl_ok _ _ _ _ hf2 hs (dec_5 s _ (by omega) hy) hl, ?_⟩
  have := h1 _ (at_in s x y hx hy)
  obtain ⟨e1, e2⟩ := at_of x y hx
  unfold awy at this
  rw [e1, e2] at this
  omega
/-- What the needed length says. -/
theorem need_facts (s d t e g n : Int) (h : nlR s d t e g = (n, 0)) :
    fg d t = true ∧ ok7 s t e g = true ∧ fg (nlB d t g) t = true ∧ fg (nlA d t g).1 t = true ∧ roR d t g = (((nlA d t g).1, t), 0) ∧ 100 ≤ n ∧ n ≤ 100000 ∧
      apt s (nlA d t g).1 t (nlB d t g) t n e = true ∧ (n ≠ 100 → apt s (nlA d t g).1 t (nlB d t g) t (n - 100) e = false) := by
  unfold nlR at h
  split at h
  · cases h
  rename_i h1
  split at h
  · cases h
  rename_i h2
  split at h
  · cases h
  rename_i h3
  split at h
  · cases h
  rename_i h4
  have h1 : fg d t = true := by simpa using h1
  have h2 : ok7 s t e g = true := by simpa using h2
  obtain ⟨h3a, h3b⟩ : fg (nlB d t g) (nlA d t g).2 = true ∧ (nlA d t g).2 = t := by
    constructor
    · cases hh : fg (nlB d t g) (nlA d t g).2
      · exact absurd (.inl hh) h3
      · rfl
    · by_cases hh : (nlA d t g).2 = t
      · exact hh
      · exact absurd (.inr hh) h3
  obtain ⟨-, -, ⟨g1, g2⟩, -⟩ := (ok7_iff _ _ _ _).1 h2
  obtain ⟨hn, -⟩ := Prod.mk.inj h
  rw [h3b] at h3a
  have fa := nlA_fg h1 g1 g2 h3a
  refine ⟨h1, h2, h3a, fa, ?_, ?_⟩
  · rw [roR_ok d t g h1 g1 g2]
    show rsl (nlA d t g) = _
    have e0 : nlA d t g = ((nlA d t g).1, t) := Prod.ext rfl h3b
    rw [e0]
    exact rsl_ok _ fa
  have hsp := fstQ_spec (fun i => apt s (nlA d t g).1 t (nlB d t g) t (100 * ((i : Int) + 1)) e) 1000
  rw [← ndN] at hsp
  generalize ndN s (nlA d t g).1 t (nlB d t g) t e = z at *
  rcases hsp with ⟨e0, -⟩ | ⟨k, hk, e0, h5, h6⟩
  · omega
  · rw [e0] at hn
    refine ⟨by omega, by omega, by rw [← hn]; exact h5, fun hne => ?_⟩
    have := h6 (k - 1) (by omega)
    rw [show n - 100 = 100 * (((k - 1 : Nat) : Int) + 1) by omega]
    exact this
/-- The codes of the three readings, by parts. -/
theorem rd_parts (s l p e : Int) : (ok6 s l p e = false ∧ (frR s l p e).2 = 2 ∧ (lrR s l p e).2 = 2 ∧ (crR s l p e).2 = 2) ∨
    (ok6 s l p e = true ∧ (frR s l p e).2 = 4 ∧ (lrR s l p e).2 = 4 ∧ (crR s l p e).2 = 0 ∧ (crR s l p e).1 = 0) ∨
    (ok6 s l p e = true ∧ (frR s l p e).2 = 0 ∧ (lrR s l p e).2 = 0 ∧ (crR s l p e).2 = 0 ∧ 0 < (crR s l p e).1 ∧ btw (frR s l p e).1.1 (frR s l p e).1.2 (frR s l p e).1.1 (frR s l p e).1.2 (lrR s l p e).1.1 (lrR s l p e).1.2) := by
  rcases rd_cases s l p e with ⟨h, e1, e2, e3⟩ | ⟨h, e1, e2, e3⟩ | ⟨h, a, b, c, d, n, e1, e2, e3, hn, hb⟩
  · left; rw [e1, e2, e3]; exact ⟨h, rfl, rfl, rfl⟩
  · right; left; rw [e1, e2, e3]; exact ⟨h, rfl, rfl, rfl, rfl⟩
  · right; right; rw [e1, e2, e3]; exact ⟨h, rfl, rfl, rfl, hn, hb⟩
theorem own_bd (s l e : Int) (x : Nat) (y : Nat) (hs : sc s = true) (hl : ln l = true) (hx : x < 900) (hy : (y : Int) < dec s) : -200000 ≤ (pl s (1000 + 10 * x) y l).1 ∧ (pl s (1000 + 10 * x) y l).1 ≤ 310000 := by
  have hf : fg (1000 + 10 * (x : Int)) y = true := by
    have := dec_bd s
    refine (fg_iff _ _).2 ?_
    omega
  obtain ⟨a, b, -⟩ := pl_bd s _ _ l hf hl
  exact ⟨a, b⟩
theorem own_bd2 (s l : Int) (x : Nat) (y : Nat) (hs : sc s = true) (hl : ln l = true) (hx : x < 900) (hy : (y : Int) < dec s) : -200000 ≤ (pl s (1000 + 10 * x) y l).2 ∧ (pl s (1000 + 10 * x) y l).2 ≤ 310000 := by
  have hf : fg (1000 + 10 * (x : Int)) y = true := by
    have := dec_bd s
    refine (fg_iff _ _).2 ?_
    omega
  obtain ⟨-, -, a, b, -⟩ := pl_bd s _ _ l hf hl
  exact ⟨a, b⟩
end Go.Proofs.YtgadkpkpdpphbaaDoor
