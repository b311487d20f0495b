/- Contracts of chapter 7: the model's list of marks. -/
import Derived.Test.YtdbeedfapkfibaaDoorC07a
import Derived.OwnWalk
import Derived.Maps.AppendAt
namespace Go.Proofs.YtdbeedfapkfibaaDoor
open Go.RowKit
set_option linter.unusedVariables false
set_option linter.unusedSimpArgs false

theorem info_i7 : (Tryd.prog.info? 2).map (fun i => (i.zero, i.size, i.bytes)) = some (some (.int .i64 0), 1, 8) := by kernel_rfl
theorem one_cell_new (w : World) (x : Value) (t : TypeId) : ∀ j u, [x][j]? = some u → (w.alloc (.cells #[x] t)).cell? ((⟨w.heap.size, 0, none⟩ : Addr).add j) = some u := by
  intro j u hj
  match j, hj with
  | 0, hj => simp at hj; subst hj; simp [Addr.add]
/-- A list of integers in blocks of the call's own. -/
abbrev Lst (w : World) (B : Nat) (v : Value) (xs : List Int) : Prop := w.ownsRow B 2 1 v xs.length (xs.map vi)
theorem Lst.app {w wr w1 : World} {B : Nat} {v v' : Value} {xs : List Int} {x : Int} {T : TypeId} {ys : List Value} {m : Nat} {o : Obj} (hb : Below B w wr) (hB : B ≤ wr.heap.size) (hx : (wr.alloc o).ownsRow B T 1 v m ys) (h' : w1.ownsRow B 2 1 v' (xs.length + 1) (xs.map vi ++ [vi x])) (hg : (wr.alloc o).grownBy w1 v.ownBlock) :
    Lst w1 B v' (xs ++ [x]) ∧ Below B w w1 :=
  ⟨by simpa [Lst] using h', (hb.alloc hB o).grown hg (by simp; omega) (fun k hk => (hx.lt k hk).1)⟩
/-- The first marks of a part. -/
def frs (p : P3) (j : Nat) : List Int := (List.range j).map fun (i : Nat) => p.1 + p.2.2 * (i : Int)
theorem frs_succ (p : P3) (j : Nat) : frs p (j + 1) = frs p j ++ [p.1 + p.2.2 * (j : Int)] := by unfold frs; rw [List.range_succ, List.map_append]; rfl
theorem frs_len (p : P3) (j : Nat) : (frs p j).length = j := by unfold frs; simp
theorem frs_all (p : P3) : frs p (prN p) = prM p := rfl
theorem mks_take {zs : List P3} {k : Nat} {p : P3} (h : zs[k]? = some p) : mks (zs.take (k + 1)) = mks (zs.take k) ++ prM p := by
  obtain ⟨hk, e⟩ := List.getElem?_eq_some_iff.1 h
  unfold mks
  rw [List.take_succ_eq_append_getElem hk, e, List.flatMap_append]
  simp
/-- Prefixes of a valid graduation: what the loops need. -/
theorem gd_take {zs : List P3} (h : gd zs = true) {k : Nat} {p : P3} (hp : zs[k]? = some p) : ∃ a, ptOk a p = true ∧ 1000 ≤ a ∧ ((mks (zs.take k)).length : Int) ≤ a - 1000 := by
  obtain ⟨-, h2⟩ := (gd_iff zs).1 h
  obtain ⟨hk, e⟩ := List.getElem?_eq_some_iff.1 hp
  have hs := gdE_append (zs.take k) (zs.drop k) 1000
  rw [List.take_append_drop, h2] at hs
  cases hb : gdE 1000 (zs.take k) with
  | none => rw [hb] at hs; cases hs
  | some a =>
    rw [hb, List.drop_eq_getElem_cons hk] at hs
    have hs2 : gdE a (zs[k] :: zs.drop (k + 1)) = some 10000 := hs.symm
    rw [e] at hs2
    obtain ⟨k1, -⟩ := gdE_cons hs2
    obtain ⟨l1, l2⟩ := cntM_len _ _ _ hb
    obtain ⟨u1, -⟩ := mks_bd _ _ _ hb
    exact ⟨a, k1, u1, by omega⟩

end Go.Proofs.YtdbeedfapkfibaaDoor
