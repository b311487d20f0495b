/- Chapter 6: readings of a point, as functions of numbers. -/
import Derived.Test.YtgadkpkpdpphbaaDoorM17
namespace Go.Proofs.YtgadkpkpdpphbaaDoor
set_option linter.unusedVariables false
set_option linter.unusedSimpArgs false

theorem all_succ {P : Nat → Prop} {n : Nat} (h : ∀ k, k < n → P k) (hn : P n) : ∀ k, k < n + 1 → P k := by
  intro k hk
  rcases Nat.lt_succ_iff_lt_or_eq.1 hk with h3 | rfl
  · exact h k h3
  · exact hn
/-- The least, the greatest and the number of those below n for which q holds. -/
def fstQ (q : Nat → Bool) : Nat → Int
  | 0 => -1
  | n + 1 => if fstQ q n < 0 ∧ q n = true then n else fstQ q n
def lstQ (q : Nat → Bool) : Nat → Int
  | 0 => -1
  | n + 1 => if q n = true then n else lstQ q n
def cntQ (q : Nat → Bool) : Nat → Int
  | 0 => 0
  | n + 1 => if q n = true then cntQ q n + 1 else cntQ q n
theorem fstQ_spec (q : Nat → Bool) : ∀ n : Nat, (fstQ q n = -1 ∧ ∀ k, k < n → q k = false) ∨ (∃ k : Nat, k < n ∧ fstQ q n = k ∧ q k = true ∧ ∀ j, j < k → q j = false)
  | 0 => .inl ⟨rfl, fun k h => absurd h (by omega)⟩
  | n + 1 => by
    unfold fstQ
    rcases fstQ_spec q n with ⟨e, h⟩ | ⟨k, hk, e, h1, h2⟩
    · rw [e]
      cases hq : q n
      · left
        rw [if_neg (by simp)]
        exact ⟨rfl, all_succ h hq⟩
      · right
        rw [if_pos ⟨by omega, rfl⟩]
        exact ⟨n, by omega, rfl, hq, h⟩
    · right
      rw [if_neg (by omega)]
      exact ⟨k, by omega, e, h1, h2⟩
theorem lstQ_spec (q : Nat → Bool) : ∀ n : Nat, (lstQ q n = -1 ∧ ∀ k, k < n → q k = false) ∨ (∃ k : Nat, k < n ∧ lstQ q n = k ∧ q k = true ∧ ∀ j, k < j → j < n → q j = false)
  | 0 => .inl ⟨rfl, fun k h => absurd h (by omega)⟩
  | n + 1 => by
    unfold lstQ
    cases hq : q n
    · rw [if_neg (by simp)]
      rcases lstQ_spec q n with ⟨e, h⟩ | ⟨k, hk, e, h1, h2⟩
      · left
        exact ⟨e, all_succ h hq⟩
      · right
        exact ⟨k, by omega, e, h1, fun j hj hn => (all_succ (P := fun j => k < j → q j = false) (fun j a b => h2 j b a) (fun _ => hq)) j hn hj⟩
    · right
      rw [if_pos rfl]
      exact ⟨n, by omega, rfl, hq, fun j h1 h2 => absurd h1 (by omega)⟩
theorem cntQ_bd (q : Nat → Bool) : ∀ n : Nat, 0 ≤ cntQ q n ∧ cntQ q n ≤ n
  | 0 => by simp [cntQ]
  | n + 1 => by
    have := cntQ_bd q n
    unfold cntQ
    split <;> omega
theorem cntQ_zero (q : Nat → Bool) : ∀ n : Nat, (cntQ q n = 0 ∧ ∀ k, k < n → q k = false) ∨ (0 < cntQ q n ∧ ∃ k, k < n ∧ q k = true)
  | 0 => .inl ⟨rfl, fun k h => absurd h (by omega)⟩
  | n + 1 => by
    have b := cntQ_bd q n
    unfold cntQ
    cases hq : q n
    · rw [if_neg (by simp)]
      rcases cntQ_zero q n with ⟨e, h⟩ | ⟨e, k, hk, h⟩
      · exact .inl ⟨e, all_succ h hq⟩
      · exact .inr ⟨e, k, by omega, h⟩
    · rw [if_pos rfl]
      exact .inr ⟨by omega, n, by omega, hq⟩
theorem fstQ_hit (q : Nat → Bool) (n k : Nat) (hk : k < n) (h1 : q k = true) (h2 : ∀ j, j < k → q j = false) : fstQ q n = k := by
  rcases fstQ_spec q n with ⟨-, h⟩ | ⟨m, hm, e, h3, h4⟩
  · rw [h k hk] at h1; cases h1
  · rcases Nat.lt_trichotomy k m with h | rfl | h
    · rw [h4 k h] at h1; cases h1
    · exact e
    · rw [h2 m h] at h3; cases h3
theorem fstQ_none (q : Nat → Bool) (n : Nat) (h : ∀ j, j < n → q j = false) : fstQ q n = -1 := by
  rcases fstQ_spec q n with ⟨e, -⟩ | ⟨m, hm, e, h3, h4⟩
  · exact e
  · rw [h m hm] at h3; cases h3
theorem lstQ_hit (q : Nat → Bool) (n k : Nat) (hk : k < n) (h1 : q k = true) (h2 : ∀ j, k < j → j < n → q j = false) : lstQ q n = k := by
  rcases lstQ_spec q n with ⟨-, h⟩ | ⟨m, hm, e, h3, h4⟩
  · rw [h k hk] at h1; cases h1
  · rcases Nat.lt_trichotomy k m with h | rfl | h
    · rw [h2 m h hm] at h3; cases h3
    · exact e
    · rw [h4 k h hk] at h1; cases h1
theorem lstQ_none (q : Nat → Bool) (n : Nat) (h : ∀ j, j < n → q j = false) : lstQ q n = -1 := by
  rcases lstQ_spec q n with ⟨e, -⟩ | ⟨m, hm, e, h3, h4⟩
  · exact e
  · rw [h m hm] at h3; cases h3
/-- All three together. -/
theorem none_or (q : Nat → Bool) (n : Nat) : (fstQ q n = -1 ∧ lstQ q n = -1 ∧ cntQ q n = 0) ∨ (0 ≤ fstQ q n ∧ fstQ q n ≤ lstQ q n ∧ lstQ q n < n ∧ 0 < cntQ q n) := by
  rcases cntQ_zero q n with ⟨e, h⟩ | ⟨e, k, hk, h⟩
  · exact .inl ⟨fstQ_none q n h, lstQ_none q n h, e⟩
  · right
    rcases fstQ_spec q n with ⟨-, h'⟩ | ⟨m, hm, em, h3, h4⟩
    · rw [h' k hk] at h; cases h
    · rcases lstQ_spec q n with ⟨-, h'⟩ | ⟨l, hl, el, h5, h6⟩
      · rw [h' k hk] at h; cases h
      · rw [em, el]
        refine ⟨by omega, ?_, by omega, e⟩
        rcases Nat.lt_or_ge l m with hlt | hge
        · rw [h4 l hlt] at h5; cases h5
        · omega

/-- The place of the least value, and that value. -/
def bstQ (g : Nat → Int) : Nat → Int × Int
  | 0 => (0, -1)
  | n + 1 => if (bstQ g n).2 < 0 ∨ g n < (bstQ g n).2 then ((n : Int), g n) else bstQ g n
theorem bstQ_spec (g : Nat → Int) (hg : ∀ k, 0 ≤ g k) : ∀ n : Nat, (n = 0 ∧ bstQ g n = (0, -1)) ∨ (∃ k : Nat, k < n ∧ bstQ g n = ((k : Int), g k) ∧ (∀ j, j < n → g k ≤ g j) ∧ ∀ j, j < k → g k < g j)
  | 0 => .inl ⟨rfl, rfl⟩
  | n + 1 => by
    right
    unfold bstQ
    rcases bstQ_spec g hg n with ⟨rfl, e⟩ | ⟨k, hk, e, h1, h2⟩
    · rw [e]
      rw [if_pos (.inl (by simp))]
      exact ⟨0, by omega, rfl, fun j hj => (show j = 0 by omega) ▸ Int.le_refl _, fun j hj => absurd hj (by omega)⟩
    · rw [e]
      have h0 := hg k
      by_cases hlt : g n < g k
      · rw [if_pos (.inr hlt)]
        refine ⟨n, by omega, rfl, fun j hj => ?_, fun j hj => ?_⟩
        · rcases Nat.lt_succ_iff_lt_or_eq.1 hj with h3 | rfl
          · exact Int.le_trans (Int.le_of_lt hlt) (h1 j h3)
          · exact Int.le_refl _
        · exact Int.lt_of_lt_of_le hlt (h1 j hj)
      · rw [if_neg (by simp only; omega)]
        refine ⟨k, by omega, rfl, fun j hj => ?_, h2⟩
        rcases Nat.lt_succ_iff_lt_or_eq.1 hj with h3 | rfl
        · exact h1 j h3
        · omega
theorem bstQ_hit (g : Nat → Int) (hg : ∀ k, 0 ≤ g k) (n k : Nat) (hk : k < n) (h1 : ∀ j, j < n → g k ≤ g j) (h2 : ∀ j, j < k → g k < g j) : bstQ g n = ((k : Int), g k) := by
  rcases bstQ_spec g hg n with ⟨rfl, -⟩ | ⟨m, hm, e, h3, h4⟩
  · omega
  · rcases Nat.lt_trichotomy k m with h | rfl | h
    · have := h4 k h; have := h1 m hm; omega
    · exact e
    · have := h2 m h; have := h3 k hk; omega

/-- The figure of a scale with a number. -/
def atD (n : Nat) : Int := 1000 + 10 * ((n : Int) % 900)
def atT (n : Nat) : Int := (n : Int) / 900
theorem at_fg (n : Nat) (h : n < 2700) : fg (atD n) (atT n) = true := by
  refine (fg_iff _ _).2 ?_
  unfold atD atT
  omega
theorem at_bd (n : Nat) (h : n < 2700) : 1000 ≤ atD n ∧ atD n ≤ 9990 ∧ 0 ≤ atT n ∧ atT n ≤ 2 := by
  unfold atD atT
  omega
/-- How many figures a scale has. -/
def figs (s : Int) : Nat := (900 * dec s).toNat
theorem dec_bd (s : Int) : 1 ≤ dec s ∧ dec s ≤ 3 := by
  unfold dec
  split
  · omega
  · split <;> omega
theorem figs_is (s : Int) : ((figs s : Nat) : Int) = 900 * dec s := by
  have := dec_bd s
  unfold figs
  omega
theorem figs_bd (s : Int) : 900 ≤ figs s ∧ figs s ≤ 2700 := by
  have := dec_bd s
  have := figs_is s
  omega
theorem at_tens (s : Int) (n : Nat) (h : n < figs s) : 0 ≤ atT n ∧ atT n < dec s := by
  have := dec_bd s
  have := figs_is s
  unfold atT
  omega

/-- A figure may be at a point. -/
def may (s d t l p e : Int) : Bool := decide ((pl s d t l).1 - e ≤ p ∧ p ≤ (pl s d t l).2 + e)
theorem may_iff (s d t l p e : Int) : may s d t l p e = true ↔ ((pl s d t l).1 - e ≤ p ∧ p ≤ (pl s d t l).2 + e) := by unfold may; simp
def mayN (s l p e : Int) (n : Nat) : Bool := may s (atD n) (atT n) l p e
/-- Scale, length, point and eye are in their ranges. -/
def ok6 (s l p e : Int) : Bool := (sc s && ln l) && (decide (0 ≤ p ∧ p ≤ l) && decide (0 ≤ e ∧ e ≤ 200))
theorem ok6_iff (s l p e : Int) : ok6 s l p e = true ↔ (sc s = true ∧ ln l = true ∧ (0 ≤ p ∧ p ≤ l) ∧ (0 ≤ e ∧ e ≤ 200)) := by
  unfold ok6; simp [and_assoc]
theorem ok6_tf (s l p e : Int) : ok6 s l p e = true ∨ ok6 s l p e = false := by cases ok6 s l p e <;> simp

/-- What MayBeAt answers. -/
def mbR (s d t l p e : Int) : Bool × Int := if fg d t = false then (false, 1) else if ok6 s l p e = false ∨ (s = 5 ∧ t ≠ 0) then (false, 2) else (may s d t l p e, 0)
theorem mbR_in (s d t l p e : Int) (h : fg d t = false) : mbR s d t l p e = (false, 1) := if_pos h
theorem mbR_rg (s d t l p e : Int) (h : fg d t = true) (h1 : ok6 s l p e = false ∨ (s = 5 ∧ t ≠ 0)) : mbR s d t l p e = (false, 2) := by unfold mbR; rw [if_neg (by rw [h]; simp), if_pos h1]
theorem mbR_ok (s d t l p e : Int) (h : fg d t = true) (h1 : ok6 s l p e = true) (h2 : ¬ (s = 5 ∧ t ≠ 0)) : mbR s d t l p e = (may s d t l p e, 0) := by unfold mbR; rw [if_neg (by rw [h]; simp), if_neg (by rw [h1]; simpa using h2)]

/-- The numbers of the first, the last and the best reading, and how many there are. -/
def fstN (s l p e : Int) : Int := fstQ (mayN s l p e) (figs s)
def lstN (s l p e : Int) : Int := lstQ (mayN s l p e) (figs s)
def cntN (s l p e : Int) : Int := cntQ (mayN s l p e) (figs s)
theorem rd_none_or (s l p e : Int) : (fstN s l p e = -1 ∧ lstN s l p e = -1 ∧ cntN s l p e = 0) ∨ (0 ≤ fstN s l p e ∧ fstN s l p e ≤ lstN s l p e ∧ lstN s l p e < 2700 ∧ 0 < cntN s l p e) := by
  have := figs_bd s
  rcases none_or (mayN s l p e) (figs s) with h | ⟨h1, h2, h3, h4⟩
  · exact .inl h
  · exact .inr ⟨h1, h2, by unfold lstN; omega, h4⟩
def rdR (ok : Bool) (n : Int) : (Int × Int) × Int := if ok = false then ((0, 0), 2) else if n < 0 then ((0, 0), 4) else ((atD n.toNat, atT n.toNat), 0)
theorem rdR_rg (ok : Bool) (n : Int) (h : ok = false) : rdR ok n = ((0, 0), 2) := if_pos h
theorem rdR_no (ok : Bool) (n : Int) (h : ok = true) (h1 : n < 0) : rdR ok n = ((0, 0), 4) := by unfold rdR; rw [if_neg (by rw [h]; simp), if_pos h1]
theorem rdR_ok (ok : Bool) (n : Int) (h : ok = true) (h1 : ¬ n < 0) : rdR ok n = ((atD n.toNat, atT n.toNat), 0) := by unfold rdR; rw [if_neg (by rw [h]; simp), if_neg h1]
def frR (s l p e : Int) : (Int × Int) × Int := rdR (ok6 s l p e) (fstN s l p e)
def lrR (s l p e : Int) : (Int × Int) × Int := rdR (ok6 s l p e) (lstN s l p e)
def crR (s l p e : Int) : Int × Int := if ok6 s l p e = false then (0, 2) else (cntN s l p e, 0)
theorem crR_rg (s l p e : Int) (h : ok6 s l p e = false) : crR s l p e = (0, 2) := if_pos h
theorem crR_ok (s l p e : Int) (h : ok6 s l p e = true) : crR s l p e = (cntN s l p e, 0) := if_neg (by rw [h]; simp)

/-- How far (doubled) a figure stands from a point. -/
def awy (s l p : Int) (n : Nat) : Int := ((pl s (atD n) (atT n) l).1 + (pl s (atD n) (atT n) l).2 - 2 * p).natAbs
theorem awy_nn (s l p : Int) (n : Nat) : 0 ≤ awy s l p n := by unfold awy; omega
def bstN (s l p : Int) : Int := (bstQ (awy s l p) (figs s)).1
def brR (s l p : Int) : (Int × Int) × Int := if ok6 s l p 0 = false then ((0, 0), 2) else ((atD (bstN s l p).toNat, atT (bstN s l p).toNat), 0)
theorem brR_rg (s l p : Int) (h : ok6 s l p 0 = false) : brR s l p = ((0, 0), 2) := if_pos h
theorem brR_ok (s l p : Int) (h : ok6 s l p 0 = true) : brR s l p = ((atD (bstN s l p).toNat, atT (bstN s l p).toNat), 0) := if_neg (by rw [h]; simp)
theorem bstN_spec (s l p : Int) : ∃ k : Nat, k < figs s ∧ bstN s l p = k ∧ (∀ j, j < figs s → awy s l p k ≤ awy s l p j) ∧ ∀ j, j < k → awy s l p k < awy s l p j := by
  have := figs_bd s
  rcases bstQ_spec (awy s l p) (awy_nn s l p) (figs s) with ⟨h, -⟩ | ⟨k, hk, e, h1, h2⟩
  · omega
  · exact ⟨k, hk, by unfold bstN; rw [e], h1, h2⟩

/-- The error of a reading. -/
def rrR (s l p e : Int) : Int × Int := if ok6 s l p e = false then (0, 2) else if fstN s l p e < 0 then (0, 4) else reR (atD (lstN s l p e).toNat) (atT (lstN s l p e).toNat) (atD (fstN s l p e).toNat) (atT (fstN s l p e).toNat)
theorem rrR_rg (s l p e : Int) (h : ok6 s l p e = false) : rrR s l p e = (0, 2) := if_pos h
theorem rrR_no (s l p e : Int) (h : ok6 s l p e = true) (h1 : fstN s l p e < 0) : rrR s l p e = (0, 4) := by unfold rrR; rw [if_neg (by rw [h]; simp), if_pos h1]
theorem rrR_ok (s l p e : Int) (h : ok6 s l p e = true) (h1 : ¬ fstN s l p e < 0) : rrR s l p e = reR (atD (lstN s l p e).toNat) (atT (lstN s l p e).toNat) (atD (fstN s l p e).toNat) (atT (fstN s l p e).toNat) := by
  unfold rrR; rw [if_neg (by rw [h]; simp), if_neg h1]

/-- Two figures are apart on a rule of some length. -/
def apt (s a t b u l e : Int) : Bool := decide ((pl s b u l).2 + e ≤ (pl s a t l).1 ∨ (pl s a t l).2 + e ≤ (pl s b u l).1)
theorem apt_iff (s a t b u l e : Int) : apt s a t b u l e = true ↔ ((pl s b u l).2 + e ≤ (pl s a t l).1 ∨ (pl s a t l).2 + e ≤ (pl s b u l).1) := by unfold apt; simp
/-- The number (from 0) of the first length at which they are. -/
def ndN (s a t b u e : Int) : Int := fstQ (fun i => apt s a t b u (100 * ((i : Int) + 1)) e) 1000
/-- The arguments of NeededLength are in their ranges. -/
def ok7 (s t e g : Int) : Bool := (sc s && decide (0 ≤ e ∧ e ≤ 200)) && (decide (1 ≤ g ∧ g ≤ 4) && decide (0 ≤ t ∧ t ≤ dec s - 1))
theorem ok7_iff (s t e g : Int) : ok7 s t e g = true ↔ (sc s = true ∧ (0 ≤ e ∧ e ≤ 200) ∧ (1 ≤ g ∧ g ≤ 4) ∧ (0 ≤ t ∧ t ≤ dec s - 1)) := by unfold ok7; simp [and_assoc]
/-- The rounded figure, and the next one's digits. -/
def nlA (d t g : Int) : Int × Int := ctR d t (p10 (4 - g).toNat)
def nlB (d t g : Int) : Int := (nlA d t g).1 + p10 (4 - g).toNat
def nlR (s d t e g : Int) : Int × Int :=
  if fg d t = false then (0, 1) else if ok7 s t e g = false then (0, 2)
  else if fg (nlB d t g) (nlA d t g).2 = false ∨ (nlA d t g).2 ≠ t then (0, 2)
  else if ndN s (nlA d t g).1 t (nlB d t g) t e < 0 then (0, 4) else (100 * (ndN s (nlA d t g).1 t (nlB d t g) t e + 1), 0)
theorem nlA_fg {d t g : Int} (h : fg d t = true) (g1 : 1 ≤ g) (g2 : g ≤ 4) (hB : fg (nlB d t g) t = true) : fg (nlA d t g).1 t = true := by
  have hu := p10_bd (4 - g).toNat (by omega)
  have b := (fg_iff _ _).1 hB
  have c := (fg_iff _ _).1 h
  refine (fg_iff _ _).2 ⟨⟨?_, ?_⟩, b.2⟩
  · unfold nlA ctR
    split
    · simp
    · simp only
      exact (nd_lit d c.1.1 c.1.2 (4 - g).toNat (by omega)).1
  · have : (nlA d t g).1 + p10 (4 - g).toNat ≤ 9999 := b.1.2
    omega
theorem nl_cases (s d t e g : Int) : (fg d t = false ∧ nlR s d t e g = (0, 1)) ∨ (fg d t = true ∧ ok7 s t e g = false ∧ nlR s d t e g = (0, 2)) ∨
    (fg d t = true ∧ ok7 s t e g = true ∧ (fg (nlB d t g) (nlA d t g).2 = false ∨ (fg (nlB d t g) (nlA d t g).2 = true ∧ (nlA d t g).2 ≠ t)) ∧ nlR s d t e g = (0, 2)) ∨
    (fg d t = true ∧ ok7 s t e g = true ∧ (nlA d t g).2 = t ∧ fg (nlB d t g) t = true ∧
      nlR s d t e g = if ndN s (nlA d t g).1 t (nlB d t g) t e < 0 then (0, 4) else (100 * (ndN s (nlA d t g).1 t (nlB d t g) t e + 1), 0)) := by
  cases h1 : fg d t
  · left; exact ⟨rfl, by unfold nlR; rw [if_pos h1]⟩
  cases h2 : ok7 s t e g
  · right; left; exact ⟨rfl, rfl, by unfold nlR; rw [if_neg (by rw [h1]; simp), if_pos h2]⟩
  cases h3 : fg (nlB d t g) (nlA d t g).2
  · right; right; left; exact ⟨rfl, rfl, .inl rfl, by unfold nlR; rw [if_neg (by rw [h1]; simp), if_neg (by rw [h2]; simp), if_pos (.inl h3)]⟩
  by_cases h4 : (nlA d t g).2 = t
  · right; right; right; exact ⟨rfl, rfl, h4, by rw [← h3, h4], by unfold nlR; rw [if_neg (by rw [h1]; simp), if_neg (by rw [h2]; simp), if_neg (by rw [h3]; simp [h4])]⟩
  · right; right; left; exact ⟨rfl, rfl, .inr ⟨rfl, h4⟩, by unfold nlR; rw [if_neg (by rw [h1]; simp), if_neg (by rw [h2]; simp), if_pos (.inr h4)]⟩
end Go.Proofs.YtgadkpkpdpphbaaDoor
