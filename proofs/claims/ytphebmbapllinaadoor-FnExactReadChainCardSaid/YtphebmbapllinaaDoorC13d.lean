/- Contracts of chapter 13: chains joined. -/
import Derived.Test.YtphebmbapllinaaDoorC13c
import Derived.Test.YtphebmbapllinaaDoorLX
import Derived.Deep.RegionLaw
import Derived.Laws.AppendOwn
namespace Go.Proofs.YtphebmbapllinaaDoor
open Go.RowKit Go.Shelf Go.ChangeShapes Go.WideShapes Go.ChangeAt
set_option linter.unusedVariables false
set_option linter.unusedSimpArgs false

theorem LstG.appT {T : TypeId} {w wr w1 : World} {B : Nat} {v v' : Value} {xs : List Tm} {m : Tm} {o : Obj} (hb : Below B w wr) (hB : B ≤ wr.heap.size) (hx : (wr.alloc o).ownsRow B T 3 v xs.length (xs.flatMap tcl)) (h' : w1.ownsRow B T 3 v' (xs.length + 1) (xs.flatMap tcl ++ [vi m.1, vi m.2.1, .bool m.2.2])) (hg : (wr.alloc o).grownBy w1 v.ownBlock) :
    LstG tcl 3 T w1 B v' (xs ++ [m]) ∧ Below B w w1 := by
  refine ⟨?_, (hb.alloc hB o).grown hg (by simp; omega) (fun k hk => (hx.lt k hk).1)⟩
  unfold LstG
  rw [List.flatMap_append, List.length_append]
  exact h'
theorem joL_take {cs ds : List Tm} {b : Bool} {k : Nat} {m : Tm} (h : ds[k]? = some m) : joL cs (ds.take (k + 1)) b = joL cs (ds.take k) b ++ [flp b m] := by
  obtain ⟨h1, e⟩ := List.getElem?_eq_some_iff.1 h
  unfold joL
  rw [List.take_succ_eq_append_getElem h1, e, List.map_append, List.append_assoc]
  rfl
theorem joL_nil (cs : List Tm) (b : Bool) : joL cs [] b = cs := by unfold joL; simp

end Go.Proofs.YtphebmbapllinaaDoor
