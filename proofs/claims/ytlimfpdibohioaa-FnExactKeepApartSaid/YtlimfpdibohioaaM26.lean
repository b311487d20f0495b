/- Chapter 8: ticks, as functions of numbers: heights, codes, the nearest one, how many between, the closest ones. -/
import Derived.Test.YtlimfpdibohioaaMA
namespace Go.Proofs.Ytlimfpdibohioaa
set_option linter.unusedVariables false
set_option linter.unusedSimpArgs false

abbrev Tk := Int × Int × Int
def hgt (n : Int) : Int := if n.tmod 1000 = 0 then 4 else if n.tmod 500 = 0 then 3 else if n.tmod 100 = 0 then 2 else if n.tmod 50 = 0 then 1 else 0
theorem hgt_bd (n : Int) : 0 ≤ hgt n ∧ hgt n ≤ 4 := by unfold hgt; repeat' split <;> omega

/-- A tick's place is a value. -/
def allP (zs : List Tk) : Bool := zs.all fun p => vl p.2.1
theorem allP_take {zs : List Tk} {k : Nat} {z : Tk} (h : zs[k]? = some z) (ha : allP (zs.take k) = true) (hz : vl z.2.1 = true) : allP (zs.take (k + 1)) = true := by
  obtain ⟨hk, e⟩ := List.getElem?_eq_some_iff.1 h
  unfold allP at *
  rw [List.take_succ_eq_append_getElem hk, List.all_append, ha, e]
  simp [hz]
theorem allP_bad {zs : List Tk} {k : Nat} {z : Tk} (h : zs[k]? = some z) (hz : vl z.2.1 = false) : allP zs = false := by
  unfold allP
  cases ha : zs.all fun p => vl p.2.1
  · rfl
  · rw [List.all_eq_true] at ha
    rw [ha z (List.mem_of_getElem? h)] at hz; cases hz
theorem allP_at {zs : List Tk} {k : Nat} {z : Tk} (h : zs[k]? = some z) (ha : allP zs = true) : vl z.2.1 = true := by
  unfold allP at ha
  rw [List.all_eq_true] at ha
  exact ha z (List.mem_of_getElem? h)
/-- The code of ticks and of the points that come with them. -/
def tkE (zs : List Tk) (q : Bool) : Int := if 150 < zs.length then 3 else if (q && allP zs) = true then 0 else 2
theorem tkE_cases (zs : List Tk) (q : Bool) : (150 < zs.length ∧ tkE zs q = 3) ∨ (zs.length ≤ 150 ∧ q = true ∧ allP zs = true ∧ tkE zs q = 0) ∨ (zs.length ≤ 150 ∧ (q = false ∨ allP zs = false) ∧ tkE zs q = 2) := by
  unfold tkE
  by_cases h : 150 < zs.length
  · exact .inl ⟨h, by rw [if_pos h]⟩
  · rw [if_neg h]
    cases q <;> cases allP zs
    · exact .inr (.inr ⟨by omega, .inl rfl, rfl⟩)
    · exact .inr (.inr ⟨by omega, .inl rfl, rfl⟩)
    · exact .inr (.inr ⟨by omega, .inr rfl, rfl⟩)
    · exact .inr (.inl ⟨by omega, rfl, rfl, rfl⟩)
theorem tkE_false (zs : List Tk) (h : tkE zs true = 0) : tkE zs false = 2 := by
  unfold tkE at *
  split at h
  · omega
  · rename_i h1; rw [if_neg h1]; rfl
theorem tkE_same (zs : List Tk) (q : Bool) (h : tkE zs true ≠ 0) : tkE zs q = tkE zs true := by
  unfold tkE at *
  split
  · rfl
  · rename_i h1
    rw [if_neg h1] at h
    cases hp : allP zs
    · simp
    · rw [hp] at h; exact absurd rfl h

/-- The first of the least. -/
def argm (d : Nat → Int) : Nat → Nat
  | 0 => 0
  | k + 1 => if d k < d (argm d k) then k else argm d k
theorem argm_succ (d : Nat → Int) (k : Nat) : argm d (k + 1) = if d k < d (argm d k) then k else argm d k := rfl
theorem argm_lt (d : Nat → Int) : ∀ k, 0 < k → argm d k < k
  | k + 1, _ => by
    rw [argm_succ]
    split
    · omega
    · rcases Nat.eq_zero_or_pos k with h | h
      · subst h; simp [argm]
      · have := argm_lt d k h; omega
theorem argm_le (d : Nat → Int) : ∀ k j, j < k → d (argm d k) ≤ d j
  | k + 1, j, h => by
    rw [argm_succ]
    rcases Nat.lt_or_ge j k with h1 | h1
    · have := argm_le d k j h1
      split <;> omega
    · obtain rfl : j = k := by omega
      split <;> omega
def tkP (zs : List Tk) (i : Nat) : Int := (zs.getD i (0, 0, 0)).2.1
theorem tkP_at {zs : List Tk} {k : Nat} {z : Tk} (h : zs[k]? = some z) : tkP zs k = z.2.1 := by unfold tkP; rw [List.getD_eq_getElem?_getD, h]; rfl
theorem tkP_bd {zs : List Tk} (ha : allP zs = true) (k : Nat) : -1000000000000 ≤ tkP zs k ∧ tkP zs k ≤ 1000000000000 := by
  unfold tkP
  rw [List.getD_eq_getElem?_getD]
  cases h : zs[k]? with
  | none => simp
  | some z => exact (vl_iff _).1 (allP_at h ha)
/-- How far a tick is from a point. -/
def tkD (zs : List Tk) (p : Int) (i : Nat) : Int := ((tkP zs i - p).natAbs : Int)
def ntE (zs : List Tk) (p : Int) : Int := if tkE zs (vl p) = 0 then if zs.length = 0 then 4 else 0 else tkE zs (vl p)
def ntV (zs : List Tk) (p : Int) : Int := if ntE zs p = 0 then (argm (tkD zs p) zs.length : Int) else 0
/-- How many ticks stand between two bounds. -/
def cntB (zs : List Tk) (f t : Int) : Nat → Int
  | 0 => 0
  | k + 1 => if f ≤ tkP zs k ∧ tkP zs k ≤ t then cntB zs f t k + 1 else cntB zs f t k
theorem cntB_succ (zs : List Tk) (f t : Int) (k : Nat) : cntB zs f t (k + 1) = if f ≤ tkP zs k ∧ tkP zs k ≤ t then cntB zs f t k + 1 else cntB zs f t k := rfl
theorem cntB_bd (zs : List Tk) (f t : Int) : ∀ k : Nat, 0 ≤ cntB zs f t k ∧ cntB zs f t k ≤ k
  | 0 => by simp [cntB]
  | k + 1 => by
    have := cntB_bd zs f t k
    rw [cntB_succ]
    split <;> omega
def tbE (zs : List Tk) (f t : Int) : Int := tkE zs (vl f && vl t)
def tbV (zs : List Tk) (f t : Int) : Int := if tbE zs f t = 0 then cntB zs f t zs.length else 0
/-- The closest pair: the first of the least. -/
def clJ (D : Nat → Nat → Int) (i : Nat) (s : Nat × Nat) : Nat → Nat × Nat
  | 0 => s
  | m + 1 => if D i (i + 1 + m) < D (clJ D i s m).1 (clJ D i s m).2 then (i, i + 1 + m) else clJ D i s m
theorem clJ_succ (D : Nat → Nat → Int) (i : Nat) (s : Nat × Nat) (m : Nat) : clJ D i s (m + 1) = if D i (i + 1 + m) < D (clJ D i s m).1 (clJ D i s m).2 then (i, i + 1 + m) else clJ D i s m := rfl
def clI (D : Nat → Nat → Int) (n : Nat) : Nat → Nat × Nat
  | 0 => (0, 1)
  | i + 1 => clJ D i (clI D n i) (n - (i + 1))
theorem clI_succ (D : Nat → Nat → Int) (n i : Nat) : clI D n (i + 1) = clJ D i (clI D n i) (n - (i + 1)) := rfl
theorem clJ_lt (D : Nat → Nat → Int) (n i : Nat) (s : Nat × Nat) (h : s.1 < s.2 ∧ s.2 < n) : ∀ m, i + 1 + m ≤ n → (clJ D i s m).1 < (clJ D i s m).2 ∧ (clJ D i s m).2 < n
  | 0, _ => h
  | m + 1, hm => by
    have ih := clJ_lt D n i s h m (by omega)
    rw [clJ_succ]
    split
    · exact ⟨by simp; omega, by simp; omega⟩
    · exact ih
theorem clI_lt (D : Nat → Nat → Int) (n : Nat) (hn : 2 ≤ n) : ∀ i, i ≤ n → (clI D n i).1 < (clI D n i).2 ∧ (clI D n i).2 < n
  | 0, _ => by simp [clI]; omega
  | i + 1, hi => by
    rw [clI_succ]
    exact clJ_lt D n i _ (clI_lt D n hn i (by omega)) _ (by omega)
theorem clJ_le (D : Nat → Nat → Int) (i : Nat) (s : Nat × Nat) : ∀ m, D (clJ D i s m).1 (clJ D i s m).2 ≤ D s.1 s.2 ∧ ∀ k, k < m → D (clJ D i s m).1 (clJ D i s m).2 ≤ D i (i + 1 + k)
  | 0 => ⟨by simp [clJ], fun k hk => absurd hk (by omega)⟩
  | m + 1 => by
    obtain ⟨i1, i2⟩ := clJ_le D i s m
    rw [clJ_succ]
    split
    · rename_i h
      refine ⟨by simp; omega, fun k hk => ?_⟩
      rcases Nat.lt_or_ge k m with h1 | h1
      · have := i2 k h1; simp; omega
      · obtain rfl : k = m := by omega
        simp
    · rename_i h
      refine ⟨i1, fun k hk => ?_⟩
      rcases Nat.lt_or_ge k m with h1 | h1
      · exact i2 k h1
      · obtain rfl : k = m := by omega
        omega
theorem clI_le (D : Nat → Nat → Int) (n : Nat) : ∀ i, i ≤ n → ∀ a b, a < i → a < b → b < n → D (clI D n i).1 (clI D n i).2 ≤ D a b
  | 0, _, a, b, h, _, _ => absurd h (by omega)
  | i + 1, hi, a, b, h, h2, h3 => by
    rw [clI_succ]
    obtain ⟨i1, i2⟩ := clJ_le D i (clI D n i) (n - (i + 1))
    rcases Nat.lt_or_ge a i with h1 | h1
    · have := clI_le D n i (by omega) a b h1 h2 h3
      omega
    · obtain rfl : a = i := by omega
      have := i2 (b - (a + 1)) (by omega)
      rw [show a + 1 + (b - (a + 1)) = b by omega] at this
      exact this
def Dp (zs : List Tk) (i j : Nat) : Int := ((tkP zs i - tkP zs j).natAbs : Int)
def ctE (zs : List Tk) : Int := if tkE zs true = 0 then if zs.length < 2 then 4 else 0 else tkE zs true
def ctA (zs : List Tk) : Int := if ctE zs = 0 then ((clI (Dp zs) zs.length zs.length).1 : Int) else 0
def ctB (zs : List Tk) : Int := if ctE zs = 0 then ((clI (Dp zs) zs.length zs.length).2 : Int) else 0
/-- How many numbers have a height. -/
def cHn (l : List Int) (h : Nat) : Int := ((l.filter fun n => decide (hgt n = (h : Int))).length : Int)
def cH (l : List Int) : List Int := [cHn l 0, cHn l 1, cHn l 2, cHn l 3, cHn l 4]
theorem cH_len (l : List Int) : (cH l).length = 5 := rfl
theorem cH_at (l : List Int) (k : Nat) (h : k < 5) : (cH l)[k]? = some (cHn l k) := by
  rcases (show k = 0 ∨ k = 1 ∨ k = 2 ∨ k = 3 ∨ k = 4 by omega) with rfl | rfl | rfl | rfl | rfl <;> rfl
theorem cHn_bd (l : List Int) (k : Nat) : 0 ≤ cHn l k ∧ cHn l k ≤ l.length := by
  unfold cHn
  have := List.length_filter_le (fun n => decide (hgt n = (k : Int))) l
  omega
theorem cHn_snoc (l : List Int) (y : Int) (k : Nat) : cHn (l ++ [y]) k = cHn l k + if hgt y = (k : Int) then 1 else 0 := by
  unfold cHn
  rw [List.filter_append, List.length_append]
  by_cases h : hgt y = (k : Int)
  · rw [if_pos h]; simp [h]
  · rw [if_neg h]; simp [h]
theorem cH_snoc (l : List Int) (y : Int) (k : Nat) (hk : hgt y = (k : Int)) : cH (l ++ [y]) = (cH l).set k (cHn l k + 1) := by
  have hb := hgt_bd y
  have hk5 : k < 5 := by omega
  unfold cH
  rw [cHn_snoc, cHn_snoc, cHn_snoc, cHn_snoc, cHn_snoc, hk]
  rcases (show k = 0 ∨ k = 1 ∨ k = 2 ∨ k = 3 ∨ k = 4 by omega) with rfl | rfl | rfl | rfl | rfl <;> simp
theorem cH_nil : cH [] = [0, 0, 0, 0, 0] := by unfold cH cHn; simp
end Go.Proofs.Ytlimfpdibohioaa
