/- Plain mathematics, merged. -/
import Derived.Test.YtphebmbapllinaaC08l
import Derived.Test.YtphebmbapllinaaLX
import Derived.Test.YtphebmbapllinaaC08f
import Derived.Deep.RegionLaw
import Derived.Test.YtphebmbapllinaaC07e
import Derived.Test.Ytphebmbapllinaa7B
import Derived.Test.YtphebmbapllinaaC05a
import Derived.Deep.RegionHeld3
import Derived.Test.Ytphebmbapllinaa7A
/- Contracts of chapter 8: a tick is put into a list of ticks, in order. -/
namespace Go.Proofs.Ytphebmbapllinaa
open Go.RowKit Go.Shelf Go.ChangeShapes Go.WideShapes Go.ChangeAt
set_option linter.unusedVariables false
set_option linter.unusedSimpArgs false

abbrev cl3 (p : P3) : List Value := [vi p.1, vi p.2.1, vi p.2.2]
theorem cl3_len (p : P3) : (cl3 p).length = 3 := rfl
theorem set_three (L R : List Value) (y0 y1 y2 x0 x1 x2 : Value) (m : Nat) (hm : L.length = m) :
    (((L ++ ([y0, y1, y2] ++ R)).set m x0).set (m + 1) x1).set (m + 2) x2 = L ++ ([x0, x1, x2] ++ R) := by
  subst hm
  rw [List.set_append_right _ _ (Nat.le_refl _), List.set_append_right _ _ (by omega), List.set_append_right _ _ (by omega),
    show L.length - L.length = 0 by omega, show L.length + 1 - L.length = 1 by omega, show L.length + 2 - L.length = 2 by omega]
  rfl
theorem at_three (L R : List Value) (y0 y1 y2 : Value) (m : Nat) (hm : L.length = m) :
    (L ++ ([y0, y1, y2] ++ R))[m]? = some y0 ∧ (L ++ ([y0, y1, y2] ++ R))[m + 1]? = some y1 ∧ (L ++ ([y0, y1, y2] ++ R))[m + 2]? = some y2 := by
  subst hm
  refine ⟨?_, ?_, ?_⟩ <;> (rw [List.getElem?_append_right (by omega)]; simp)
theorem LstG.at3 {w : World} {B : Nat} {A : Option Addr} {xs : List P3} (h : Reads w B A (xs.flatMap cl3)) {k : Nat} {p : P3} (hp : xs[k]? = some p) :
    ∃ g o : Nat, A = some ⟨g, o, none⟩ ∧ g < B ∧ w.cell? ⟨g, o + k * 3, none⟩ = some (vi p.1) ∧ w.cell? ⟨g, o + k * 3 + 1, none⟩ = some (vi p.2.1) ∧ w.cell? ⟨g, o + k * 3 + 2, none⟩ = some (vi p.2.2) :=
  Reads.at3 h hp

end Go.Proofs.Ytphebmbapllinaa

/- Contracts of chapter 8: a tick of a mark; ticks before others; a tick put into a list, in the model. -/
namespace Go.Proofs.Ytphebmbapllinaa
open Go.RowKit Go.Shelf Go.ChangeShapes Go.WideShapes Go.ChangeAt
set_option linter.unusedVariables false
set_option linter.unusedSimpArgs false

/-- Ticks before others: by places, then by marks. -/
def bfT (x y : P3) : Bool := decide (x.2.1 < y.2.1 ∨ (x.2.1 = y.2.1 ∧ x.1 < y.1))
end Go.Proofs.Ytphebmbapllinaa

/- Contracts of chapter 8: a tick put into a list, in the model. -/
namespace Go.Proofs.Ytphebmbapllinaa
open Go.RowKit Go.Shelf Go.ChangeShapes Go.WideShapes Go.ChangeAt
set_option linter.unusedVariables false
set_option linter.unusedSimpArgs false

/-- An empty list of the call's own. -/
theorem emptyT {W : World} {T : TypeId} {B b : Nat} (hB : B ≤ b) (h : W.heap[b]? = some (.cells #[] T (0, 0))) : W.ownsRow B T 3 (.slice (some ⟨b, 0, none⟩) 0 0) 0 [] :=
  ⟨rfl, .inr ⟨b, 0, #[], rfl, hB, h, Nat.le_refl _, Nat.zero_le _, rfl, rfl⟩⟩

theorem cl3_one {xs : List P3} {u : Value} (h : u ∈ xs.flatMap cl3) : u.oneCell' = true := by
  obtain ⟨z, -, hz⟩ := List.mem_flatMap.1 h
  simp only [cl3, List.mem_cons, List.not_mem_nil, or_false] at hz
  rcases hz with rfl | rfl | rfl <;> rfl
end Go.Proofs.Ytphebmbapllinaa

/- Contracts of chapter 8: the ticks of a graduation, in the model. -/
namespace Go.Proofs.Ytphebmbapllinaa
open Go.RowKit Go.Shelf Go.ChangeShapes Go.WideShapes Go.ChangeAt
set_option linter.unusedVariables false
set_option linter.unusedSimpArgs false

/-- The code of the ticks of a graduation, and the ticks. -/
def toE (zs : List P3) (s l f t : Int) : Int := if gd zs = false then 1 else if sc s = false ∨ ln l = false ∨ inR 1000 9999 f = false ∨ inR 1000 9999 t = false then 2 else if 150 < (mrL zs f t).length then 3 else 0
def tkOf (s l m : Int) : P3 := (m, mdl s l m, hgt m)
def toF (s l : Int) (ms : List Int) : List P3 := ms.foldl (fun xs m => insB bfT (tkOf s l m) xs) []
def toL (zs : List P3) (s l f t : Int) : List P3 := if toE zs s l f t = 0 then toF s l (mrL zs f t) else []
theorem toF_snoc (s l : Int) (ms : List Int) (m : Int) : toF s l (ms ++ [m]) = insB bfT (tkOf s l m) (toF s l ms) := by unfold toF; rw [List.foldl_append]; rfl
theorem toF_take (s l : Int) {ms : List Int} {k : Nat} {m : Int} (h : ms[k]? = some m) : toF s l (ms.take (k + 1)) = insB bfT (tkOf s l m) (toF s l (ms.take k)) := by
  obtain ⟨hk, e⟩ := List.getElem?_eq_some_iff.1 h
  rw [List.take_succ_eq_append_getElem hk, e, toF_snoc]
theorem toF_go_len (s l : Int) : ∀ (ms : List Int) (xs : List P3), (ms.foldl (fun xs m => insB bfT (tkOf s l m) xs) xs).length = xs.length + ms.length
  | [], xs => rfl
  | m :: ms, xs => by
    rw [List.foldl_cons, toF_go_len s l ms, insB_len, List.length_cons]
    omega
theorem toF_len (s l : Int) (ms : List Int) : (toF s l ms).length = ms.length := by
  unfold toF
  rw [toF_go_len, List.length_nil]
  omega
theorem toF_go_mem (s l : Int) (x : P3) : ∀ (ms : List Int) (xs : List P3), x ∈ ms.foldl (fun xs m => insB bfT (tkOf s l m) xs) xs → x ∈ xs ∨ x.1 ∈ ms
  | [], xs, h => .inl h
  | m :: ms, xs, h => by
    rw [List.foldl_cons] at h
    rcases toF_go_mem s l x ms _ h with h | h
    · rcases (insB_mem _ _ _ _).1 h with rfl | h
      · exact .inr (List.mem_cons_self)
      · exact .inl h
    · exact .inr (List.mem_cons_of_mem _ h)
theorem toF_mem (s l : Int) (ms : List Int) (x : P3) (h : x ∈ toF s l ms) : x.1 ∈ ms := by
  rcases toF_go_mem s l x ms [] h with h | h
  · cases h
  · exact h
/-- By places alone: the program's order, where marks come by their sizes. -/
def ilT (x y : P3) : Bool := decide (x.2.1 < y.2.1)
theorem insB_left (x : P3) (xs : List P3) (h : ∀ y ∈ xs, y.1 < x.1) : insB bfT x xs = insB ilT x xs := by
  have e : insN bfT x xs = insN ilT x xs := by
    unfold insN
    refine insA_congr _ (fun j hj => ?_)
    rw [List.getElem?_eq_getElem hj]
    simp only [Option.map_some, Option.getD_some]
    have := h _ (List.getElem_mem hj)
    unfold bfT ilT
    rw [decide_eq_decide]
    constructor
    · rintro (h1 | ⟨-, h1⟩)
      · exact h1
      · omega
    · exact .inl
  rw [insB_eq, insB_eq, e]
theorem take_less {L : List Int} (hp : L.Pairwise (· < ·)) {k : Nat} {x : Int} (hx : L[k]? = some x) : ∀ y ∈ L.take k, y < x := by
  intro y hy
  obtain ⟨hk, e⟩ := List.getElem?_eq_some_iff.1 hx
  obtain ⟨j, hj, rfl⟩ := List.mem_take_iff_getElem.1 hy
  rw [← e]
  exact List.pairwise_iff_getElem.1 hp j k (by omega) hk (by omega)
theorem toE_gd {zs : List P3} {s l f t : Int} (h : gd zs = false) : toE zs s l f t = 1 ∧ toL zs s l f t = [] := by
  have e : toE zs s l f t = 1 := by unfold toE; rw [if_pos h]
  exact ⟨e, by unfold toL; rw [if_neg (by omega)]⟩
theorem toE_rg {zs : List P3} {s l f t : Int} (h : gd zs = true) (h2 : sc s = false ∨ ln l = false ∨ inR 1000 9999 f = false ∨ inR 1000 9999 t = false) : toE zs s l f t = 2 ∧ toL zs s l f t = [] := by
  have e : toE zs s l f t = 2 := by unfold toE; rw [if_neg (by rw [h]; simp), if_pos h2]
  exact ⟨e, by unfold toL; rw [if_neg (by omega)]⟩
theorem toE_in {zs : List P3} {s l f t : Int} (h : gd zs = true) (h1 : sc s = true) (h2 : ln l = true) (h3 : inR 1000 9999 f = true) (h4 : inR 1000 9999 t = true) :
    (150 < (mrL zs f t).length → toE zs s l f t = 3 ∧ toL zs s l f t = []) ∧ (¬ 150 < (mrL zs f t).length → toE zs s l f t = 0 ∧ toL zs s l f t = toF s l (mrL zs f t)) := by
  have e : toE zs s l f t = if 150 < (mrL zs f t).length then 3 else 0 := by unfold toE; rw [if_neg (by rw [h]; simp), if_neg (by rw [h1, h2, h3, h4]; simp)]
  refine ⟨fun hl => ?_, fun hl => ?_⟩
  · rw [if_pos hl] at e
    exact ⟨e, by unfold toL; rw [if_neg (by omega)]⟩
  · rw [if_neg hl] at e
    exact ⟨e, by unfold toL; rw [if_pos e]⟩

end Go.Proofs.Ytphebmbapllinaa

/- Contracts of chapter 8: the ticks of a graduation, in the model. -/
namespace Go.Proofs.Ytphebmbapllinaa
open Go.RowKit Go.Shelf Go.ChangeShapes Go.WideShapes Go.ChangeAt
set_option linter.unusedVariables false
set_option linter.unusedSimpArgs false

end Go.Proofs.Ytphebmbapllinaa

/- Contracts of chapter 8: the ticks of a graduation, in the model and in the program. -/
namespace Go.Proofs.Ytphebmbapllinaa
open Go.RowKit Go.Shelf Go.ChangeShapes Go.WideShapes Go.ChangeAt
set_option linter.unusedVariables false
set_option linter.unusedSimpArgs false

/-- The marks' code and list, where the graduation, the scale and the length are in their ranges. -/
theorem to_marks {zs : List P3} {s l f t : Int} (hv : gd zs = true) (hs : sc s = true) (hl : ln l = true) :
    (mrC zs f t = 2 ∧ moL zs f t = [] ∧ toE zs s l f t = 2 ∧ toL zs s l f t = []) ∨ (mrC zs f t = 3 ∧ moL zs f t = [] ∧ toE zs s l f t = 3 ∧ toL zs s l f t = []) ∨
    (mrC zs f t = 0 ∧ moL zs f t = mrL zs f t ∧ 150 < (mrL zs f t).length ∧ toE zs s l f t = 3 ∧ toL zs s l f t = []) ∨
    (mrC zs f t = 0 ∧ moL zs f t = mrL zs f t ∧ (mrL zs f t).length ≤ 150 ∧ toE zs s l f t = 0 ∧ toL zs s l f t = toF s l (mrL zs f t)) := by
  have h0 : (if gd zs = false then (1 : Int) else if inR 1000 9999 f = false ∨ inR 1000 9999 t = false then 2 else if 200 < (mrL zs f t).length then 3 else 0) = mrC zs f t := rfl
  rw [if_neg (by rw [hv]; simp)] at h0
  by_cases hr : inR 1000 9999 f = false ∨ inR 1000 9999 t = false
  · rw [if_pos hr] at h0
    have := toE_rg (s := s) (l := l) hv (.inr (.inr hr))
    exact .inl ⟨h0.symm, by unfold moL; rw [← h0, if_neg (by omega)], this.1, this.2⟩
  · rw [if_neg hr] at h0
    have hf : inR 1000 9999 f = true := by cases e : inR 1000 9999 f; exact absurd (.inl e) hr; rfl
    have ht : inR 1000 9999 t = true := by cases e : inR 1000 9999 t; exact absurd (.inr e) hr; rfl
    obtain ⟨h3, h4⟩ := toE_in hv hs hl hf ht
    by_cases h200 : 200 < (mrL zs f t).length
    · rw [if_pos h200] at h0
      have := h3 (by omega)
      exact .inr (.inl ⟨h0.symm, by unfold moL; rw [← h0, if_neg (by omega)], this.1, this.2⟩)
    · rw [if_neg h200] at h0
      have hm : moL zs f t = mrL zs f t := by unfold moL; rw [← h0, if_pos rfl]
      by_cases h150 : 150 < (mrL zs f t).length
      · exact .inr (.inr (.inl ⟨h0.symm, hm, h150, h3 h150⟩))
      · exact .inr (.inr (.inr ⟨h0.symm, hm, by omega, h4 h150⟩))

end Go.Proofs.Ytphebmbapllinaa
