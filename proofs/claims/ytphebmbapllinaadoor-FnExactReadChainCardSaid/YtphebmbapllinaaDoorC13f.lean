/- Contracts of chapter 13: chains sorted. -/
import Derived.Test.YtphebmbapllinaaDoorC13e
namespace Go.Proofs.YtphebmbapllinaaDoor
open Go.RowKit Go.Shelf Go.ChangeShapes Go.WideShapes Go.ChangeAt
set_option linter.unusedVariables false
set_option linter.unusedSimpArgs false

theorem flt_bd (cs : List Tm) : (dvs cs).length ≤ cs.length ∧ (mls cs).length ≤ cs.length := by
  have := fltT_len cs
  omega
/-- A list of terms of the call's own that is not nil. -/
def TwF (xs : List Tm) (B : Nat) (v : Value) (w : World) : Prop := ∃ g cap : Nat, v = .slice (some ⟨g, 0, none⟩) xs.length cap ∧ xs.length ≤ cap ∧ LstG tcl 3 45 w B v xs
theorem TwF.gr {xs : List Tm} {B : Nat} (v : Value) (w w' : World) (hg : Gr w w') (h : TwF xs B v w) : TwF xs B v w' := by
  obtain ⟨g, cap, e, h1, h2⟩ := h
  exact ⟨g, cap, e, h1, LstG.below h2 hg.below⟩
theorem TwF.of {xs : List Tm} {B : Nat} {v : Value} {w : World} (hn : v ≠ .slice none 0 0) (h : LstG tcl 3 45 w B v xs) : TwF xs B v w := by
  rcases LstG.row h with ⟨e, -⟩ | ⟨g, cap, rest, e, hg, hr, h1, -⟩
  · exact absurd e hn
  · exact ⟨g, cap, e, h1, h⟩
theorem LstG.appT2 {T : TypeId} {w wr w1 : World} {B : Nat} {v v' : Value} {xs : List Tm} {m q : Tm} {o : Obj} (hb : Below B w wr) (hB : B ≤ wr.heap.size) (hx : (wr.alloc o).ownsRow B T 3 v xs.length (xs.flatMap tcl)) (h' : w1.ownsRow B T 3 v' (xs.length + 2) (xs.flatMap tcl ++ [vi m.1, vi m.2.1, .bool m.2.2, vi q.1, vi q.2.1, .bool q.2.2])) (hg : (wr.alloc o).grownBy w1 v.ownBlock) :
    LstG tcl 3 T w1 B v' (xs ++ [m, q]) ∧ Below B w w1 := by
  refine ⟨?_, (hb.alloc hB o).grown hg (by simp; omega) (fun k hk => (hx.lt k hk).1)⟩
  unfold LstG
  rw [List.flatMap_append, List.length_append]
  exact h'
theorem six_cells_new (w : World) (a b c d e f : Value) (t : TypeId) : ∀ j u, [a, b, c, d, e, f][j]? = some u → (w.alloc (.cells #[a, b, c, d, e, f] t)).cell? ((⟨w.heap.size, 0, none⟩ : Addr).add j) = some u := by
  intro j u hj
  match j, hj with
  | 0, hj => simp at hj; subst hj; simp [Addr.add]
  | 1, hj => simp at hj; subst hj; simp [Addr.add]
  | 2, hj => simp at hj; subst hj; simp [Addr.add]
  | 3, hj => simp at hj; subst hj; simp [Addr.add]
  | 4, hj => simp at hj; subst hj; simp [Addr.add]
  | 5, hj => simp at hj; subst hj; simp [Addr.add]
/-- A list of one term, just made. -/
theorem LstG.oneT (w : World) (B : Nat) (hB : B ≤ w.heap.size) (a b : Int) (c : Bool) : LstG tcl 3 45 (w.alloc (.cells #[vi a, vi b, .bool c] 45)) B (.slice (some ⟨w.heap.size, 0, none⟩) 1 1) [(a, b, c)] :=
  LstG.of_rowT (rest := []) hB (by have := Blk.new w 45 #[vi a, vi b, .bool c]; simpa [Row, Blk, tcells, tcl] using this) rfl (by unfold maxLen; omega) (Nat.le_refl _) rfl
theorem prs_at {xs ys : List Tm} {k : Nat} {x y : Tm} (hx : xs[k]? = some x) (hy : ys[k]? = some y) : prs xs ys (k + 1) = prs xs ys k ++ [x, y] := by
  show prs xs ys k ++ [xs.getD k _, ys.getD k _] = _
  rw [getD_at hx, getD_at hy]
theorem take_one {cs : List Tm} {x : Tm} (h : cs[0]? = some x) : cs.take 1 = [x] := by
  cases cs with
  | nil => cases h
  | cons a r => simp at h; subst h; rfl
theorem readsT_of {T : TypeId} {w : World} {B g n cap : Nat} {xs : List Tm} (h : LstG tcl 3 T w B (.slice (some ⟨g, 0, none⟩) n cap) xs) {i : Nat} {p : Tm} (hp : xs[i]? = some p) :
    g < w.heap.size ∧ w.cell? ⟨g, i * 3, none⟩ = some (vi p.1) ∧ w.cell? ⟨g, i * 3 + 1, none⟩ = some (vi p.2.1) ∧ w.cell? ⟨g, i * 3 + 2, none⟩ = some (.bool p.2.2) := by
  obtain ⟨g', o, e, h1, x0, x1, x2⟩ := (LstG.readsT h).att hp
  injection e with e
  injection e with ea eb
  subst ea eb
  simp only [Nat.zero_add] at x0 x1 x2
  exact ⟨h1, x0, x1, x2⟩

end Go.Proofs.YtphebmbapllinaaDoor
