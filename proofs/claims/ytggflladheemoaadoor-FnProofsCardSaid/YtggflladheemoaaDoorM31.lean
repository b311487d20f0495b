/- Chapter 9: decimals without the zeros at their ends; the ends of labels. -/
import Derived.Test.YtggflladheemoaaDoorM04
import Derived.Test.YtggflladheemoaaDoorMC
import Derived.Lib.TrimByte
namespace Go.Proofs.YtggflladheemoaaDoor
set_option linter.unusedVariables false
set_option linter.unusedSimpArgs false

/-- A number without the zeros at its end. -/
def strN (n : Nat) : Nat := if h : 0 < n ∧ n % 10 = 0 then strN (n / 10) else n
termination_by n
decreasing_by omega
theorem strN_zero {n : Nat} (h : 0 < n) (h0 : n % 10 = 0) : strN n = strN (n / 10) := by rw [strN, dif_pos ⟨h, h0⟩]
theorem strN_not {n : Nat} (h : n % 10 ≠ 0) : strN n = n := by rw [strN, dif_neg (fun k => h k.2)]
theorem strN_bd (n : Nat) (h : 0 < n) : 0 < strN n ∧ strN n ≤ n ∧ strN n % 10 ≠ 0 := by
  induction n using Nat.strongRecOn with
  | _ n ih =>
    by_cases h0 : n % 10 = 0
    · rw [strN_zero h h0]
      have := ih (n / 10) (by omega) (by omega)
      omega
    · rw [strN_not h0]; omega
theorem trim_snoc (l : List UInt8) (c : UInt8) : Lib.trimRightB (l ++ [c]) 48 = if c = 48 then Lib.trimRightB l 48 else l ++ [c] := by
  unfold Lib.trimRightB
  rw [List.reverse_append, List.reverse_cons, List.reverse_nil, List.nil_append, List.singleton_append, List.dropWhile_cons]
  by_cases h : c = 48
  · rw [if_pos h, if_pos (by simp [h])]
  · rw [if_neg h, if_neg (by simpa using h)]
    simp
theorem u8_ne {k : Nat} (h : 0 < k) (h9 : k ≤ 9) : UInt8.ofNat (48 + k) ≠ 48 := by
  intro e
  have := congrArg UInt8.toNat e
  rw [u8_of _ (by omega)] at this
  simp at this
  omega
theorem dec_last (n : Nat) : ∃ l, Lib.decDigits n = l ++ [UInt8.ofNat (48 + n % 10)] := by
  rw [Lib.decDigits]
  by_cases h : n < 10
  · rw [dif_pos h, Nat.mod_eq_of_lt h]
    exact ⟨[], rfl⟩
  · rw [dif_neg h]
    exact ⟨_, rfl⟩
theorem trim_dec (n : Nat) (h : 0 < n) : Lib.trimRightB (Lib.decDigits n) 48 = Lib.decDigits (strN n) := by
  induction n using Nat.strongRecOn with
  | _ n ih =>
    by_cases h0 : n % 10 = 0
    · have e : Lib.decDigits n = Lib.decDigits (n / 10) ++ [UInt8.ofNat (48 + n % 10)] := by
        conv => lhs; rw [Lib.decDigits]
        rw [dif_neg (by omega)]
      rw [strN_zero h h0, e, trim_snoc, h0, if_pos (show UInt8.ofNat (48 + 0) = 48 from rfl)]
      exact ih (n / 10) (by omega) (by omega)
    · obtain ⟨l, e⟩ := dec_last n
      rw [strN_not h0, e, trim_snoc, if_neg (u8_ne (by omega) (by omega))]

/-- The letters of a label. -/
def lbN (m : Int) : Nat := (Lib.decDigits (strN m.toNat)).length
theorem dec_len4 (u : Nat) (h : u ≤ 9999) : (Lib.decDigits u).length ≤ 4 := by
  rw [Lib.decDigits_length]
  by_cases h1 : u < 10
  · rw [Lib.nDigits_small h1]; omega
  rw [Lib.nDigits_big h1]
  by_cases h2 : u / 10 < 10
  · rw [Lib.nDigits_small h2]; omega
  rw [Lib.nDigits_big h2]
  by_cases h3 : u / 10 / 10 < 10
  · rw [Lib.nDigits_small h3]; omega
  rw [Lib.nDigits_big h3, Lib.nDigits_small (by omega)]
  omega
theorem lbN_bd (m : Int) (h0 : 1000 ≤ m) (h1 : m ≤ 9999) : 1 ≤ lbN m ∧ lbN m ≤ 4 := by
  have h := strN_bd m.toNat (by omega)
  have h2 := dec_len4 (strN m.toNat) (by omega)
  have h3 : (Lib.decDigits (strN m.toNat)).length ≠ 0 := fun e => dec_ne _ (List.eq_nil_of_length_eq_zero e)
  unfold lbN
  omega
/-- Ticks that can have labels. -/
def lbIs (z : Tk) : Prop := (1000 ≤ z.1 ∧ z.1 ≤ 9999) ∧ (0 ≤ z.2.1 ∧ z.2.1 ≤ 100000) ∧ (0 ≤ z.2.2 ∧ z.2.2 ≤ 4)
instance (z : Tk) : Decidable (lbIs z) := by unfold lbIs; exact inferInstance
def lfT (z : Tk) : Int := z.2.1 - 60 * (lbN z.1 : Int)
def rtT (z : Tk) : Int := z.2.1 + 60 * (lbN z.1 : Int)
def coT (y z : Tk) : Bool := decide (lfT y < rtT z ∧ lfT z < rtT y)
theorem coT_sym (y z : Tk) : coT y z = coT z y := by unfold coT; exact decide_eq_decide.2 ⟨fun h => ⟨h.2, h.1⟩, fun h => ⟨h.2, h.1⟩⟩
theorem ends_bd (z : Tk) (h : lbIs z) : -240 ≤ lfT z ∧ lfT z < rtT z ∧ rtT z ≤ 100240 := by
  obtain ⟨h1, h2, h3⟩ := h
  have := lbN_bd z.1 h1.1 h1.2
  unfold lfT rtT
  omega
/-- In the model: the greater left end against the lesser right one. -/
theorem coT_max (y z : Tk) (hy : lbIs y) (hz : lbIs z) : coT y z = decide (max (lfT y) (lfT z) < min (rtT y) (rtT z)) := by
  have := ends_bd y hy
  have := ends_bd z hz
  unfold coT
  exact decide_eq_decide.2 (by omega)
/-- The code of one tick, of ticks. -/
def allL (zs : List Tk) : Bool := zs.all fun z => decide (lbIs z)
def lbE (zs : List Tk) : Int := if 40 < zs.length then 3 else if allL zs = true then 0 else 2
theorem allL_at {zs : List Tk} (h : allL zs = true) {k : Nat} {z : Tk} (hz : zs[k]? = some z) : lbIs z := by
  unfold allL at h
  rw [List.all_eq_true] at h
  exact of_decide_eq_true (h z (List.mem_of_getElem? hz))
theorem allL_take {zs : List Tk} {k : Nat} {z : Tk} (h : zs[k]? = some z) (ha : allL (zs.take k) = true) (hz : lbIs z) : allL (zs.take (k + 1)) = true := by
  obtain ⟨hk, e⟩ := List.getElem?_eq_some_iff.1 h
  unfold allL at *
  rw [List.take_succ_eq_append_getElem hk, List.all_append, ha, e]
  simp [hz]
theorem allL_bad {zs : List Tk} {k : Nat} {z : Tk} (h : zs[k]? = some z) (hz : ¬ lbIs z) : allL zs = false := by
  cases ha : allL zs
  · rfl
  · exact absurd (allL_at ha h) hz
theorem allL_allH {zs : List Tk} (h : allL zs = true) : allH zs = true := by
  unfold allH
  rw [List.all_eq_true]
  intro z hz
  unfold allL at h
  rw [List.all_eq_true] at h
  exact decide_eq_true (of_decide_eq_true (h z hz)).2.2
theorem lbE_cases (zs : List Tk) : (40 < zs.length ∧ lbE zs = 3) ∨ (zs.length ≤ 40 ∧ allL zs = false ∧ lbE zs = 2) ∨ (zs.length ≤ 40 ∧ allL zs = true ∧ lbE zs = 0) := by
  unfold lbE
  by_cases h : 40 < zs.length
  · exact .inl ⟨h, if_pos h⟩
  · rw [if_neg h]
    cases ha : allL zs
    · exact .inr (.inl ⟨by omega, rfl, by simp⟩)
    · exact .inr (.inr ⟨by omega, rfl, by simp⟩)
theorem lbE_zero {zs : List Tk} (h : lbE zs = 0) : zs.length ≤ 40 ∧ allL zs = true := by
  rcases lbE_cases zs with ⟨-, e⟩ | ⟨-, -, e⟩ | ⟨h1, h2, -⟩
  · omega
  · omega
  · exact ⟨h1, h2⟩
/-- By number. -/
def tkN (zs : List Tk) (i : Nat) : Tk := zs.getD i (0, 0, 0)
theorem tkN_at {zs : List Tk} {k : Nat} (h : k < zs.length) : zs[k]? = some (tkN zs k) := by
  unfold tkN
  rw [List.getD_eq_getElem?_getD, List.getElem?_eq_getElem h]
  rfl
theorem tkN_is {zs : List Tk} (h : allL zs = true) {k : Nat} (hk : k < zs.length) : lbIs (tkN zs k) := allL_at h (tkN_at hk)
def rtN (zs : List Tk) (i : Nat) : Int := rtT (tkN zs i)
def lfN (zs : List Tk) (i : Nat) : Int := lfT (tkN zs i)
def woN (zs : List Tk) (i : Nat) : Int := 1 + 10 * (tkN zs i).2.2
def coN (zs : List Tk) (i k : Nat) : Bool := coT (tkN zs i) (tkN zs k)
theorem woN_bd {zs : List Tk} (h : allL zs = true) (i : Nat) : 0 ≤ woN zs i ∧ woN zs i ≤ 41 := by
  unfold woN
  rcases Nat.lt_or_ge i zs.length with h1 | h1
  · have := (tkN_is h h1).2.2
    omega
  · unfold tkN
    rw [List.getD_eq_getElem?_getD, List.getElem?_eq_none h1]
    simp
theorem fr_le {zs : List Tk} (h : allL zs = true) (i : Nat) (hi : i < zs.length) : frN (rtN zs) (lfN zs) zs.length (orA (rtN zs) zs.length i) ≤ i :=
  frN_le _ _ hi (ends_bd _ (tkN_is h (orA_lt (rtN zs) hi))).2.1
end Go.Proofs.YtggflladheemoaaDoor
