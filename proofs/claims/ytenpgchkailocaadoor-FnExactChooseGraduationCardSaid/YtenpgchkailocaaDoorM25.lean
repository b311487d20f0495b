/- Chapter 7: the distances of marks that follow one another, in their order. -/
import Derived.Test.YtenpgchkailocaaDoorM24
namespace Go.Proofs.YtenpgchkailocaaDoor
set_option linter.unusedVariables false
set_option linter.unusedSimpArgs false

def gap1 (s l a b : Int) : List Int := if cnts s a b = true then [dst s l a b] else []
def gapF (s l : Int) : Int → List Int → List Int
  | _, [] => []
  | a, b :: r => gap1 s l a b ++ gapF s l b r
def gapsL (s l : Int) : List Int → List Int
  | [] => []
  | a :: r => gapF s l a r
def lastO : Int → List Int → Int
  | a, [] => a
  | _, b :: r => lastO b r
def lst0 : List Int → Int
  | [] => 0
  | a :: r => lastO a r
theorem lastO_snoc : ∀ (r : List Int) (a y : Int), lastO a (r ++ [y]) = y
  | [], a, y => rfl
  | b :: r, a, y => lastO_snoc r b y
theorem lst0_snoc (L : List Int) (y : Int) : lst0 (L ++ [y]) = y := by
  cases L with
  | nil => rfl
  | cons a r => exact lastO_snoc r a y
theorem gapF_append (s l : Int) : ∀ (r t : List Int) (a : Int), gapF s l a (r ++ t) = gapF s l a r ++ gapF s l (lastO a r) t
  | [], t, a => rfl
  | b :: r, t, a => by
    have e : ∀ m, gapF s l a (b :: m) = gap1 s l a b ++ gapF s l b m := fun m => rfl
    rw [List.cons_append, e, e, gapF_append s l r t b, List.append_assoc]
    rfl
theorem gapsL_nil (s l : Int) : gapsL s l [] = [] := rfl
theorem gapsL_one (s l y : Int) : gapsL s l [y] = [] := rfl
theorem gapsL_snoc (s l : Int) {L : List Int} (h : L ≠ []) (y : Int) : gapsL s l (L ++ [y]) = gapsL s l L ++ gap1 s l (lst0 L) y := by
  cases L with
  | nil => exact absurd rfl h
  | cons a r =>
    have e : ∀ m, gapsL s l (a :: m) = gapF s l a m := fun m => rfl
    rw [List.cons_append, e, e, gapF_append]
    have e2 : gapF s l (lastO a r) [y] = gap1 s l (lastO a r) y ++ [] := rfl
    rw [e2, List.append_nil]
    rfl
theorem gapsL_pre (s l : Int) {p L : List Int} (h : p <+: L) : gapsL s l p <+: gapsL s l L := by
  obtain ⟨t, rfl⟩ := h
  cases p with
  | nil => exact List.nil_prefix
  | cons a r =>
    have e : ∀ m, gapsL s l (a :: m) = gapF s l a m := fun m => rfl
    rw [List.cons_append, e, e, gapF_append]
    exact List.prefix_append _ _
theorem gap1_nn (s l a b : Int) : ∀ d ∈ gap1 s l a b, 0 ≤ d := by
  intro d hd
  unfold gap1 at hd
  split at hd
  · simp at hd; subst hd; exact dst_nn _ _ _ _
  · simp at hd
theorem gapF_nn (s l : Int) : ∀ (r : List Int) (a : Int), ∀ d ∈ gapF s l a r, 0 ≤ d
  | [], a, d, h => by simp [gapF] at h
  | b :: r, a, d, h => by
    have e : gapF s l a (b :: r) = gap1 s l a b ++ gapF s l b r := rfl
    rw [e, List.mem_append] at h
    rcases h with h | h
    · exact gap1_nn _ _ _ _ d h
    · exact gapF_nn s l r b d h
theorem gapsL_nn (s l : Int) (L : List Int) : ∀ d ∈ gapsL s l L, 0 ≤ d := by
  cases L with
  | nil => intro d h; simp [gapsL] at h
  | cons a r => exact gapF_nn s l r a
/-- The least so far; none: less than nought. -/
def lm (m d : Int) : Int := if m < 0 ∨ d < m then d else m
theorem lm_lo (m d : Int) (h : m < 0 ∨ d < m) : lm m d = d := if_pos h
theorem lm_hi (m d : Int) (h : ¬ (m < 0 ∨ d < m)) : lm m d = m := if_neg h
theorem ldS_fold (s l : Int) : ∀ (r : List Int) (m a : Int), ldS s l m a r = (gapF s l a r).foldl lm m
  | [], m, a => rfl
  | b :: r, m, a => by
    have e : gapF s l a (b :: r) = gap1 s l a b ++ gapF s l b r := rfl
    have e2 : ldS s l m a (b :: r) = ldS s l (if cnts s a b = true ∧ (m < 0 ∨ dst s l a b < m) then dst s l a b else m) b r := rfl
    rw [e, e2, List.foldl_append, ldS_fold s l r]
    congr 1
    unfold gap1
    by_cases hc : cnts s a b = true
    · rw [if_pos hc]
      simp only [List.foldl_cons, List.foldl_nil, hc, true_and]
      rfl
    · rw [if_neg hc]
      simp [hc]
def leG (G : List Int) : Int := G.foldl lm (-1)
theorem ldM_fold (s l : Int) (L : List Int) : ldM s l L = leG (gapsL s l L) := by
  cases L with
  | nil => rfl
  | cons a r => exact ldS_fold s l r (-1) a
theorem leG_nil : leG [] = -1 := rfl
theorem leG_snoc (G : List Int) (d : Int) : leG (G ++ [d]) = lm (leG G) d := by unfold leG; rw [List.foldl_append]; rfl
theorem fold_all (lim : Int) : ∀ (G : List Int) (m : Int), (∀ d ∈ G, 0 ≤ d) → ((G.foldl lm m < 0 ∨ lim ≤ G.foldl lm m) ↔ ((m < 0 ∨ lim ≤ m) ∧ ∀ d ∈ G, lim ≤ d))
  | [], m, h => by simp
  | d :: G, m, h => by
    have hd := h d (by simp)
    rw [List.foldl_cons, fold_all lim G _ (fun x hx => h x (by simp [hx]))]
    simp only [List.forall_mem_cons]
    by_cases hc : m < 0 ∨ d < m
    · rw [lm_lo m d hc]
      constructor
      · rintro ⟨h1, h2⟩; exact ⟨by omega, by omega, h2⟩
      · rintro ⟨h1, h2, h3⟩; exact ⟨by omega, h3⟩
    · rw [lm_hi m d hc]
      constructor
      · rintro ⟨h1, h2⟩; exact ⟨h1, by omega, h2⟩
      · rintro ⟨h1, h2, h3⟩; exact ⟨h1, h3⟩
/-- No distance is below the limit. -/
theorem ldM_all (s l lim : Int) (L : List Int) : (ldM s l L < 0 ∨ lim ≤ ldM s l L) ↔ ∀ d ∈ gapsL s l L, lim ≤ d := by
  rw [ldM_fold]
  unfold leG
  rw [fold_all lim _ _ (gapsL_nn s l L)]
  simp
/-- The program's pair: the least one and whether there is one. -/
def lvG (G : List Int) : Int := if leG G < 0 then 0 else leG G
def fvG (G : List Int) : Bool := decide (0 ≤ leG G)
theorem leG_ge (G : List Int) (h : ∀ d ∈ G, 0 ≤ d) : -1 ≤ leG G := by
  unfold leG
  have key : ∀ (G : List Int) (m : Int), (∀ d ∈ G, 0 ≤ d) → -1 ≤ m → -1 ≤ G.foldl lm m := by
    intro G
    induction G with
    | nil => intro m _ hm; exact hm
    | cons d G ih =>
      intro m h hm
      rw [List.foldl_cons]
      refine ih _ (fun x hx => h x (by simp [hx])) ?_
      have := h d (by simp)
      unfold lm
      split <;> omega
  exact key G _ h (by omega)
end Go.Proofs.YtenpgchkailocaaDoor
