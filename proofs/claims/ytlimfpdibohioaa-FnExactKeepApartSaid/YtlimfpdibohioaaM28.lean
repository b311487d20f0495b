/- Chapter 8: which ticks stay apart: by falling heights, in their order for equal heights. -/
import Derived.Test.YtlimfpdibohioaaM26
import Derived.Test.YtlimfpdibohioaaM27
namespace Go.Proofs.Ytlimfpdibohioaa
set_option linter.unusedVariables false
set_option linter.unusedSimpArgs false

section
variable {α β : Type}
/-- An element goes between those that it need not stand before and those that it stands before. -/
theorem insA_split (q : Nat → Bool) (a : Nat) : ∀ b, (∀ j, a ≤ j → j < a + b → q j = true) → (0 < a → q (a - 1) = false) → insA q (a + b) = a
  | 0, _, h2 => by
    cases a with
    | zero => rfl
    | succ a =>
      rw [Nat.add_zero, insA_succ, if_neg (by have := h2 (by omega); simp at this; simp [this])]
  | b + 1, h1, h2 => by
    rw [← Nat.add_assoc, insA_succ, if_pos (h1 (a + b) (by omega) (by omega))]
    exact insA_split q a b (fun j hj hj2 => h1 j hj (by omega)) h2
theorem insB_split (bf : α → α → Bool) (x : α) (A B : List α) (hA : ∀ y ∈ A, bf x y = false) (hB : ∀ y ∈ B, bf x y = true) : insB bf x (A ++ B) = A ++ x :: B := by
  have e : insN bf x (A ++ B) = A.length := by
    unfold insN
    rw [List.length_append]
    refine insA_split _ _ _ (fun j h1 h2 => ?_) (fun h => ?_)
    · rw [List.getElem?_append_right h1, List.getElem?_eq_getElem (by omega)]
      exact hB _ (List.getElem_mem _)
    · rw [List.getElem?_append_left (by omega), List.getElem?_eq_getElem (by omega)]
      exact hA _ (List.getElem_mem _)
  rw [insB_eq, e]
  simp
theorem insB_map (f : α → β) (bf : α → α → Bool) (bg : β → β → Bool) (x : α) (xs : List α) (h : ∀ y ∈ xs, bg (f x) (f y) = bf x y) : insB bg (f x) (xs.map f) = (insB bf x xs).map f := by
  have e : insN bg (f x) (xs.map f) = insN bf x xs := by
    unfold insN
    rw [List.length_map]
    refine insA_congr _ (fun j hj => ?_)
    rw [List.getElem?_map, List.getElem?_eq_getElem hj]
    exact h _ (List.getElem_mem _)
  rw [insB_eq, insB_eq, e]
  simp
end

/-- The height of a tick. -/
def tkH (zs : List Tk) (i : Nat) : Int := (zs.getD i (0, 0, 0)).2.2
theorem tkH_at {zs : List Tk} {k : Nat} {z : Tk} (h : zs[k]? = some z) : tkH zs k = z.2.2 := by unfold tkH; rw [List.getD_eq_getElem?_getD, h]; rfl
def allH (zs : List Tk) : Bool := zs.all fun p => decide (0 ≤ p.2.2 ∧ p.2.2 ≤ 4)
theorem allH_take {zs : List Tk} {k : Nat} {z : Tk} (h : zs[k]? = some z) (ha : allH (zs.take k) = true) (hz : 0 ≤ z.2.2 ∧ z.2.2 ≤ 4) : allH (zs.take (k + 1)) = true := by
  obtain ⟨hk, e⟩ := List.getElem?_eq_some_iff.1 h
  unfold allH at *
  rw [List.take_succ_eq_append_getElem hk, List.all_append, ha, e]
  simp [hz]
theorem allH_bad {zs : List Tk} {k : Nat} {z : Tk} (h : zs[k]? = some z) (hz : ¬ (0 ≤ z.2.2 ∧ z.2.2 ≤ 4)) : allH zs = false := by
  cases ha : allH zs
  · rfl
  · unfold allH at ha
    rw [List.all_eq_true] at ha
    exact absurd (of_decide_eq_true (ha z (List.mem_of_getElem? h))) hz
theorem allH_at {zs : List Tk} {k : Nat} {z : Tk} (h : zs[k]? = some z) (ha : allH zs = true) : 0 ≤ z.2.2 ∧ z.2.2 ≤ 4 := by
  unfold allH at ha
  rw [List.all_eq_true] at ha
  exact of_decide_eq_true (ha z (List.mem_of_getElem? h))
theorem tkH_bd {zs : List Tk} (ha : allH zs = true) (k : Nat) : 0 ≤ tkH zs k ∧ tkH zs k ≤ 4 := by
  unfold tkH
  rw [List.getD_eq_getElem?_getD]
  cases h : zs[k]? with
  | none => simp
  | some z => exact allH_at h ha

/-- The ticks among the first ones that have a height. -/
def ofH (zs : List Tk) (h : Int) (k : Nat) : List Nat := (List.range k).filter fun i => decide (tkH zs i = h)
theorem ofH_succ (zs : List Tk) (h : Int) (k : Nat) : ofH zs h (k + 1) = ofH zs h k ++ if tkH zs k = h then [k] else [] := by
  unfold ofH
  rw [List.range_succ, List.filter_append]
  by_cases e : tkH zs k = h
  · rw [if_pos e]; simp [e]
  · rw [if_neg e]; simp [e]
theorem ofH_mem {zs : List Tk} {h : Int} {k i : Nat} : i ∈ ofH zs h k ↔ i < k ∧ tkH zs i = h := by unfold ofH; rw [List.mem_filter, List.mem_range]; simp
/-- By falling heights. -/
def byH (zs : List Tk) (k : Nat) : List Nat := ofH zs 4 k ++ (ofH zs 3 k ++ (ofH zs 2 k ++ (ofH zs 1 k ++ ofH zs 0 k)))
def bfH (zs : List Tk) (i j : Nat) : Bool := decide (tkH zs j < tkH zs i)
theorem byH_mem {zs : List Tk} (ha : allH zs = true) {k i : Nat} : i ∈ byH zs k ↔ i < k := by
  have := tkH_bd ha i
  unfold byH
  simp only [List.mem_append, ofH_mem]
  constructor
  · rintro (h | h | h | h | h) <;> exact h.1
  · intro h
    rcases (show tkH zs i = 4 ∨ tkH zs i = 3 ∨ tkH zs i = 2 ∨ tkH zs i = 1 ∨ tkH zs i = 0 by omega) with e | e | e | e | e
    · exact .inl ⟨h, e⟩
    · exact .inr (.inl ⟨h, e⟩)
    · exact .inr (.inr (.inl ⟨h, e⟩))
    · exact .inr (.inr (.inr (.inl ⟨h, e⟩)))
    · exact .inr (.inr (.inr (.inr ⟨h, e⟩)))
theorem byH_zero (zs : List Tk) : byH zs 0 = [] := rfl
/-- One more is put in its place. -/
theorem byH_succ {zs : List Tk} (ha : allH zs = true) (k : Nat) : byH zs (k + 1) = insB (bfH zs) k (byH zs k) := by
  have hb := tkH_bd ha k
  have hF : ∀ h y, y ∈ ofH zs h k → tkH zs k ≤ h → bfH zs k y = false := fun h y hy hle => by
    have := (ofH_mem.1 hy).2
    unfold bfH; exact decide_eq_false (by omega)
  have hT : ∀ h y, y ∈ ofH zs h k → h < tkH zs k → bfH zs k y = true := fun h y hy hle => by
    have := (ofH_mem.1 hy).2
    unfold bfH; exact decide_eq_true (by omega)
  rcases (show tkH zs k = 4 ∨ tkH zs k = 3 ∨ tkH zs k = 2 ∨ tkH zs k = 1 ∨ tkH zs k = 0 by omega) with e | e | e | e | e
  · have h := insB_split (bfH zs) k (ofH zs 4 k) (ofH zs 3 k ++ (ofH zs 2 k ++ (ofH zs 1 k ++ ofH zs 0 k)))
      (fun y hy => hF 4 y hy (by omega))
      (fun y hy => by
        rcases List.mem_append.1 hy with hy | hy; exact hT 3 y hy (by omega)
        rcases List.mem_append.1 hy with hy | hy; exact hT 2 y hy (by omega)
        rcases List.mem_append.1 hy with hy | hy; exact hT 1 y hy (by omega)
        exact hT 0 y hy (by omega))
    unfold byH
    rw [h, ofH_succ, ofH_succ, ofH_succ, ofH_succ, ofH_succ, e]
    simp
  · have h := insB_split (bfH zs) k (ofH zs 4 k ++ ofH zs 3 k) (ofH zs 2 k ++ (ofH zs 1 k ++ ofH zs 0 k))
      (fun y hy => by
        rcases List.mem_append.1 hy with hy | hy; exact hF 4 y hy (by omega)
        exact hF 3 y hy (by omega))
      (fun y hy => by
        rcases List.mem_append.1 hy with hy | hy; exact hT 2 y hy (by omega)
        rcases List.mem_append.1 hy with hy | hy; exact hT 1 y hy (by omega)
        exact hT 0 y hy (by omega))
    have e2 : byH zs k = (ofH zs 4 k ++ ofH zs 3 k) ++ (ofH zs 2 k ++ (ofH zs 1 k ++ ofH zs 0 k)) := by unfold byH; simp
    rw [e2, h]
    unfold byH
    rw [ofH_succ, ofH_succ, ofH_succ, ofH_succ, ofH_succ, e]
    simp
  · have h := insB_split (bfH zs) k (ofH zs 4 k ++ (ofH zs 3 k ++ ofH zs 2 k)) (ofH zs 1 k ++ ofH zs 0 k)
      (fun y hy => by
        rcases List.mem_append.1 hy with hy | hy; exact hF 4 y hy (by omega)
        rcases List.mem_append.1 hy with hy | hy; exact hF 3 y hy (by omega)
        exact hF 2 y hy (by omega))
      (fun y hy => by
        rcases List.mem_append.1 hy with hy | hy; exact hT 1 y hy (by omega)
        exact hT 0 y hy (by omega))
    have e2 : byH zs k = (ofH zs 4 k ++ (ofH zs 3 k ++ ofH zs 2 k)) ++ (ofH zs 1 k ++ ofH zs 0 k) := by unfold byH; simp
    rw [e2, h]
    unfold byH
    rw [ofH_succ, ofH_succ, ofH_succ, ofH_succ, ofH_succ, e]
    simp
  · have h := insB_split (bfH zs) k (ofH zs 4 k ++ (ofH zs 3 k ++ (ofH zs 2 k ++ ofH zs 1 k))) (ofH zs 0 k)
      (fun y hy => by
        rcases List.mem_append.1 hy with hy | hy; exact hF 4 y hy (by omega)
        rcases List.mem_append.1 hy with hy | hy; exact hF 3 y hy (by omega)
        rcases List.mem_append.1 hy with hy | hy; exact hF 2 y hy (by omega)
        exact hF 1 y hy (by omega))
      (fun y hy => hT 0 y hy (by omega))
    have e2 : byH zs k = (ofH zs 4 k ++ (ofH zs 3 k ++ (ofH zs 2 k ++ ofH zs 1 k))) ++ ofH zs 0 k := by unfold byH; simp
    rw [e2, h]
    unfold byH
    rw [ofH_succ, ofH_succ, ofH_succ, ofH_succ, ofH_succ, e]
    simp
  · have h := insB_split (bfH zs) k (byH zs k) []
      (fun y hy => by
        unfold byH at hy
        rcases List.mem_append.1 hy with hy | hy; exact hF 4 y hy (by omega)
        rcases List.mem_append.1 hy with hy | hy; exact hF 3 y hy (by omega)
        rcases List.mem_append.1 hy with hy | hy; exact hF 2 y hy (by omega)
        rcases List.mem_append.1 hy with hy | hy; exact hF 1 y hy (by omega)
        exact hF 0 y hy (by omega))
      (fun y hy => by cases hy)
    rw [List.append_nil] at h
    rw [h]
    unfold byH
    rw [ofH_succ, ofH_succ, ofH_succ, ofH_succ, ofH_succ, e]
    simp
theorem byH_len (zs : List Tk) (ha : allH zs = true) : ∀ k, (byH zs k).length = k
  | 0 => rfl
  | k + 1 => by rw [byH_succ ha, insB_len, byH_len zs ha k]
theorem byH_nodup (zs : List Tk) (ha : allH zs = true) : ∀ k, (byH zs k).Nodup
  | 0 => by rw [byH_zero]; exact List.nodup_nil
  | k + 1 => by
    rw [byH_succ ha, (insB_perm _ _ _).nodup_iff, List.nodup_cons]
    exact ⟨fun h => by have := (byH_mem ha).1 h; omega, byH_nodup zs ha k⟩

/-- Which ticks have been kept, and whether one more is apart from them. -/
def apS (zs : List Tk) (n : Nat) (d : Nat → Nat → Bool) (S : Nat → Bool) (i : Nat) : Bool := (List.range n).all fun k => !(S k && d i k)
def stS (zs : List Tk) (n : Nat) (d : Nat → Nat → Bool) (S : Nat → Bool) (i : Nat) : Nat → Bool := if apS zs n d S i = true then fun j => S j || j == i else S
def kpS (zs : List Tk) (n : Nat) (d : Nat → Nat → Bool) (L : List Nat) : Nat → Bool := L.foldl (stS zs n d) (fun _ => false)
theorem kpS_snoc (zs : List Tk) (n : Nat) (d : Nat → Nat → Bool) (L : List Nat) (i : Nat) : kpS zs n d (L ++ [i]) = stS zs n d (kpS zs n d L) i := by unfold kpS; rw [List.foldl_append]; rfl
theorem kpS_mem (zs : List Tk) (n : Nat) (d : Nat → Nat → Bool) : ∀ (L : List Nat) (j : Nat), kpS zs n d L.reverse j = true → j ∈ L
  | [], j, h => by simp [kpS] at h
  | i :: L, j, h => by
    rw [List.reverse_cons, kpS_snoc] at h
    unfold stS at h
    split at h
    · rw [Bool.or_eq_true] at h
      rcases h with h | h
      · exact List.mem_cons_of_mem _ (kpS_mem zs n d L j h)
      · rw [beq_iff_eq.1 h]; exact List.mem_cons_self ..
    · exact List.mem_cons_of_mem _ (kpS_mem zs n d L j h)
theorem kpS_in (zs : List Tk) (n : Nat) (d : Nat → Nat → Bool) (L : List Nat) (j : Nat) (h : kpS zs n d L j = true) : j ∈ L := by
  have := kpS_mem zs n d L.reverse j (by rw [List.reverse_reverse]; exact h)
  exact List.mem_reverse.1 this
theorem kpS_new (zs : List Tk) (n : Nat) (d : Nat → Nat → Bool) (L : List Nat) (m i : Nat) (hn : L.Nodup) (hi : L[m]? = some i) : kpS zs n d (L.take m) i = false := by
  cases h : kpS zs n d (L.take m) i
  · rfl
  · have h1 := kpS_in zs n d _ _ h
    obtain ⟨hm, e⟩ := List.getElem?_eq_some_iff.1 hi
    have h2 : i ∈ L.drop m := by rw [List.drop_eq_getElem_cons hm, e]; exact List.mem_cons_self ..
    rw [← List.take_append_drop m L] at hn
    exact absurd rfl ((List.nodup_append.1 hn).2.2 i h1 i h2)
theorem kpS_next (zs : List Tk) (n : Nat) (d : Nat → Nat → Bool) (L : List Nat) (m i : Nat) (hi : L[m]? = some i) : kpS zs n d (L.take (m + 1)) = stS zs n d (kpS zs n d (L.take m)) i := by
  obtain ⟨hm, e⟩ := List.getElem?_eq_some_iff.1 hi
  rw [List.take_succ_eq_append_getElem hm, e, kpS_snoc]
/-- The kept ones, in order. -/
def lsS (n : Nat) (S : Nat → Bool) : List Nat := (List.range n).filter S
theorem range_split (n i : Nat) (h : i < n) : ∃ r, List.range n = List.range i ++ i :: r ∧ ∀ y ∈ r, i < y := by
  refine ⟨(List.range n).drop (i + 1), ?_, fun y hy => ?_⟩
  · have e1 : List.range i = (List.range n).take i := by rw [List.take_range]; congr 1; omega
    have hl : i < (List.range n).length := by simpa using h
    have e2 := List.drop_eq_getElem_cons hl
    rw [List.getElem_range] at e2
    rw [e1, ← e2, List.take_append_drop]
  · obtain ⟨k, hk, e⟩ := List.mem_iff_getElem.1 hy
    rw [List.getElem_drop, List.getElem_range] at e
    omega
theorem lsS_ins (n : Nat) (S : Nat → Bool) (i : Nat) (h : i < n) (hS : S i = false) : insB (fun a b : Nat => decide (a < b)) i (lsS n S) = lsS n (fun j => S j || j == i) := by
  obtain ⟨r, e, hr⟩ := range_split n i h
  unfold lsS
  rw [e, List.filter_append, List.filter_cons_of_neg (by rw [hS]; simp), List.filter_append, List.filter_cons_of_pos (by simp)]
  have e1 : (List.range i).filter (fun j => S j || j == i) = (List.range i).filter S := by
    refine List.filter_congr (fun j hj => ?_)
    have := List.mem_range.1 hj
    rw [show (j == i) = false by simp; omega, Bool.or_false]
  have e2 : r.filter (fun j => S j || j == i) = r.filter S := by
    refine List.filter_congr (fun j hj => ?_)
    have := hr j hj
    rw [show (j == i) = false by simp; omega, Bool.or_false]
  rw [e1, e2]
  exact insB_split _ _ _ _ (fun y hy => by
    have := List.mem_range.1 (List.mem_filter.1 hy).1
    exact decide_eq_false (by omega)) (fun y hy => by
    have := hr y (List.mem_filter.1 hy).1
    exact decide_eq_true this)
/-- The program asks the kept ones alone. -/
theorem apS_ls (zs : List Tk) (n : Nat) (d : Nat → Nat → Bool) (S : Nat → Bool) (i : Nat) : apS zs n d S i = (lsS n S).all fun k => !d i k := by
  unfold apS lsS
  rw [List.all_filter]
  congr 1
  funext k
  cases S k <;> simp
/-- The model goes height by height. -/
def gH (zs : List Tk) (n : Nat) : Nat → List Nat
  | 0 => []
  | g + 1 => gH zs n g ++ ofH zs (4 - (g : Int)) n
theorem gH_succ (zs : List Tk) (n g : Nat) : gH zs n (g + 1) = gH zs n g ++ ofH zs (4 - (g : Int)) n := rfl
theorem gH_all (zs : List Tk) (n : Nat) : gH zs n 5 = byH zs n := by
  unfold byH
  simp [gH]
def sL (zs : List Tk) (n : Nat) (d : Nat → Nat → Bool) (g i : Nat) : Nat → Bool := kpS zs n d (gH zs n g ++ ofH zs (4 - (g : Int)) i)
theorem sL_zero (zs : List Tk) (n : Nat) (d : Nat → Nat → Bool) (g : Nat) : sL zs n d g 0 = kpS zs n d (gH zs n g) := by unfold sL; simp [ofH]
theorem sL_end (zs : List Tk) (n : Nat) (d : Nat → Nat → Bool) (g : Nat) : sL zs n d g n = kpS zs n d (gH zs n (g + 1)) := rfl
theorem sL_hit (zs : List Tk) (n : Nat) (d : Nat → Nat → Bool) (g i : Nat) (h : tkH zs i = 4 - (g : Int)) : sL zs n d g (i + 1) = stS zs n d (sL zs n d g i) i := by
  unfold sL
  rw [ofH_succ, if_pos h, ← List.append_assoc, kpS_snoc]
theorem sL_miss (zs : List Tk) (n : Nat) (d : Nat → Nat → Bool) (g i : Nat) (h : tkH zs i ≠ 4 - (g : Int)) : sL zs n d g (i + 1) = sL zs n d g i := by
  unfold sL
  rw [ofH_succ, if_neg h, List.append_nil]
/-- The first ones asked. -/
def apP (zs : List Tk) (d : Nat → Nat → Bool) (S : Nat → Bool) (i k : Nat) : Bool := (List.range k).all fun k => !(S k && d i k)
theorem apP_zero (zs : List Tk) (d : Nat → Nat → Bool) (S : Nat → Bool) (i : Nat) : apP zs d S i 0 = true := rfl
theorem apP_succ (zs : List Tk) (d : Nat → Nat → Bool) (S : Nat → Bool) (i k : Nat) : apP zs d S i (k + 1) = (apP zs d S i k && !(S k && d i k)) := by
  unfold apP
  rw [List.range_succ, List.all_append]
  simp
theorem lsS_succ (S : Nat → Bool) (k : Nat) : lsS (k + 1) S = lsS k S ++ if S k = true then [k] else [] := by
  unfold lsS
  rw [List.range_succ, List.filter_append]
  cases h : S k <;> simp [h]
/-- Two ticks are nearer than a distance. -/
def nrD (zs : List Tk) (d : Int) (i k : Nat) : Bool := decide (Dp zs k i < d)
theorem nrD_sym (zs : List Tk) (d : Int) (i k : Nat) : decide (Dp zs i k < d) = nrD zs d i k := by
  unfold nrD
  rw [show Dp zs i k = Dp zs k i by unfold Dp; omega]
def kaE (zs : List Tk) (d : Int) : Int := if tkE zs true = 0 then if allH zs = true ∧ (0 ≤ d ∧ d ≤ 100000) then 0 else 2 else tkE zs true
def kaL (zs : List Tk) (d : Int) : List Int := if kaE zs d = 0 then (lsS zs.length (kpS zs zs.length (nrD zs d) (byH zs zs.length))).map fun (i : Nat) => (i : Int) else []
end Go.Proofs.Ytlimfpdibohioaa
