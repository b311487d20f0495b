/- Plain mathematics, merged. -/
import Derived.Test.YtphebmbapllinaaC07d
import Derived.Test.YtphebmbapllinaaMC
import Derived.Test.YtphebmbapllinaaC05d
import Derived.Test.YtphebmbapllinaaC05a
import Derived.Test.Ytphebmbapllinaa7C
import Derived.Maps.AppendAt
import Derived.Test.YtphebmbapllinaaC05c
import Derived.Test.YtphebmbapllinaaLX
import Derived.Deep.RegionLaw
import Derived.Laws.AppendOwn
/- Contracts of chapter 7: the model's least distance. -/
namespace Go.Proofs.Ytphebmbapllinaa
open Go.RowKit
set_option linter.unusedVariables false
set_option linter.unusedSimpArgs false

theorem mdl_bd (s y l : Int) (hl : ln l = true) (y1 : 1000 ≤ y) (y2 : y ≤ 9999) : -400000 ≤ mdl s l y ∧ mdl s l y ≤ 620000 := by
  obtain ⟨p1, p2, p3, p4, -⟩ := pl_bd s y 0 l ((fg_iff _ _).2 ⟨⟨y1, y2⟩, by omega⟩) hl
  unfold mdl
  rw [Int.fdiv_eq_ediv_of_nonneg _ (by omega)]
  omega
theorem take_snoc7 {L : List Int} {k : Nat} {x : Int} (h : L[k]? = some x) : L.take (k + 1) = L.take k ++ [x] := by
  obtain ⟨hk, e⟩ := List.getElem?_eq_some_iff.1 h
  rw [List.take_succ_eq_append_getElem hk, e]
theorem lmM7_snoc (s l : Int) (L : List Int) (y : Int) : (if L ++ [y] = [] then 0 else mdl s l (lst0 (L ++ [y]))) = mdl s l y := by rw [if_neg (by simp), lst0_snoc]

end Go.Proofs.Ytphebmbapllinaa

/- Contracts of chapter 7: the model's finest step. -/
namespace Go.Proofs.Ytphebmbapllinaa
open Go.RowKit
set_option linter.unusedVariables false
set_option linter.unusedSimpArgs false

def stpObj : Obj := .cells #[.int .i64 1, .int .i64 2, .int .i64 5, .int .i64 10, .int .i64 20, .int .i64 50, .int .i64 100, .int .i64 200, .int .i64 500] 2
theorem stpObj_cell (w : World) (i : Nat) (x : Int) (h : usual[i]? = some x) : (w.alloc stpObj).cell? ⟨w.heap.size, i, none⟩ = some (.int .i64 x) := by
  have hi : i < 9 := by
    obtain ⟨hk, -⟩ := List.getElem?_eq_some_iff.1 h
    exact hk
  have hr := cell_of_row (w.alloc stpObj) w.heap.size i _ _ _ (World.alloc_heap_new w stpObj)
  rw [hr]
  rcases (show i = 0 ∨ i = 1 ∨ i = 2 ∨ i = 3 ∨ i = 4 ∨ i = 5 ∨ i = 6 ∨ i = 7 ∨ i = 8 by omega) with rfl | rfl | rfl | rfl | rfl | rfl | rfl | rfl | rfl <;> (simp [usual] at h; subst h; rfl)
theorem find_at {p : Int → Bool} {k : Nat} {x : Int} (h : usual[k]? = some x) (h0 : (usual.take k).find? p = none) :
    (p x = true → usual.find? p = some x) ∧ (p x = false → (usual.take (k + 1)).find? p = none) := by
  obtain ⟨hk, e⟩ := List.getElem?_eq_some_iff.1 h
  have e4 : usual = usual.take k ++ (x :: usual.drop (k + 1)) := by rw [← e, ← List.drop_eq_getElem_cons hk, List.take_append_drop]
  refine ⟨fun hp => ?_, fun hp => ?_⟩
  · rw [e4, List.find?_append, h0]
    simp [hp]
  · rw [List.take_succ_eq_append_getElem hk, e, List.find?_append, h0]
    simp [hp]

end Go.Proofs.Ytphebmbapllinaa

/- Contracts of chapter 7: the chosen graduation, in the model. -/
namespace Go.Proofs.Ytphebmbapllinaa
open Go.RowKit
set_option linter.unusedVariables false
set_option linter.unusedSimpArgs false

/-- What is answered: the chosen graduation, or nothing. -/
def coL (s l lim : Int) : List P3 := if chC s l lim = 0 then chG s l lim else []
theorem coL_ok {s l lim : Int} (h : chC s l lim = 0) : coL s l lim = chG s l lim := if_pos h
theorem coL_no {s l lim : Int} (h : chC s l lim ≠ 0) : coL s l lim = [] := if_neg h
theorem chC_rg {s l lim : Int} (h : okC s l lim = false) : chC s l lim = 2 ∧ coL s l lim = [] := by
  have e : chC s l lim = 2 := if_pos h
  exact ⟨e, coL_no (by omega)⟩
/-- The parts' ends, by number. -/
def cut4 : List Int := [1000, 2000, 5000, 10000]
theorem chC_no {s l lim : Int} (h : okC s l lim = true) (h0 : fnS s l 1000 2000 lim = 0 ∨ fnS s l 2000 5000 lim = 0 ∨ fnS s l 5000 10000 lim = 0) : chC s l lim = 4 ∧ coL s l lim = [] := by
  have e : chC s l lim = 4 := by unfold chC; rw [if_neg (by rw [h]; simp), if_pos h0]
  exact ⟨e, coL_no (by omega)⟩
theorem chC_yes {s l lim : Int} (h : okC s l lim = true) (h1 : fnS s l 1000 2000 lim ≠ 0) (h2 : fnS s l 2000 5000 lim ≠ 0) (h3 : fnS s l 5000 10000 lim ≠ 0) : chC s l lim = 0 ∧ coL s l lim = chG s l lim := by
  have e : chC s l lim = 0 := by unfold chC; rw [if_neg (by rw [h]; simp), if_neg (by intro h4; rcases h4 with h4 | h4 | h4; exact h1 h4; exact h2 h4; exact h3 h4)]
  exact ⟨e, coL_ok e⟩

/-- append to a row of the call's own, as one step of a region that draws. -/
theorem step_append_own {P : Program} {ops : Array Oper} {o : Oper} {a : Act} {w : World} {K : Act → World → Prop} {Q : Exit → Act → World → Prop} {E : Prop} (hgd : o.guard = none) (s x : Operand) (t : TypeId)
    (ho : o.op = .call { callee := .builtin .append, args := #[s, x], argTypes := #[t, t] })
    (base : Nat) (e : TypeId) (i : TypeInfo) (z : Value) (size bytes : Nat) (ht : P.underlying t = some (.slice e)) (hi : P.info? e = some i) (hz : i.zero = some z)
    (hsize : i.size = size) (hby : i.bytes = bytes) (hzs : z.cells.size = size) (hsz : 0 < size)
    (v : Value) (n : Nat) (xs : List Value) (hs : a.eval s = v) (hown : w.ownsRow base e size v n xs)
    (ad : Addr) (m c : Nat) (news : List Value) (hx : a.eval x = .slice (some ad) m c) (hl : news.length = m * size) (hnews : ∀ j u, news[j]? = some u → w.cell? (ad.add j) = some u) (h1 : ∀ u ∈ news, u.oneCell' = true)
    (h63 : n + m ≤ maxLen) (hbytes : (n + m) * bytes ≤ 140737488355328) (hbase : base ≤ w.heap.size)
    (h : ∀ v' w', w'.ownsRow base e size v' (n + m) (xs ++ news) → w.grownBy w' v.ownBlock → (v' = .slice none 0 0 ↔ v = .slice none 0 0 ∧ m = 0) → K (a.put o.dst v') w') :
    if Region.wanted o (yielded ops a.tmps) = true then Oper.wp P o a w K Q else E := by
  have hw : Region.wanted o (yielded ops a.tmps) = true := by simp [Region.wanted, hgd]
  rw [if_pos hw]
  exact wp_append_own w s x t ho base e i z size bytes ht hi hz hsize hby hzs hsz v n xs hs hown ad m c news hx hl hnews h1 h63 hbytes hbase h

/-- One round: a step was found, the part is appended. -/
theorem round_app {T : TypeId} {w1 w2 w3 : World} {S : Nat} {v v' : Value} {xs : List P3} {a b c : Int} {o : Obj} (hb : Below S w1 w2) (hB : S ≤ w2.heap.size) (hx : Lst3 T w2 S v xs) (h' : w3.ownsRow S T 3 v' (xs.length + 1) (cells3 xs ++ [vi a, vi b, vi c])) (hg : (w2.alloc o).grownBy w3 v.ownBlock) :
    Lst3 T w3 S v' (xs ++ [(a, b, c)]) ∧ Below S w1 w3 := Lst3.app hb hB (hx.alloc _) h' hg

end Go.Proofs.Ytphebmbapllinaa
