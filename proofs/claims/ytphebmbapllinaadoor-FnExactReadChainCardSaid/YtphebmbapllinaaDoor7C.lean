/- Plain mathematics, merged. -/
import Derived.Test.YtphebmbapllinaaDoorSA
import Derived.Test.YtphebmbapllinaaDoor1A
import Derived.Test.YtphebmbapllinaaDoorMC
import Derived.OwnWalk
import Derived.Maps.AppendAt
import Derived.BigQuiet
/- Slices of structs of three integers that a law makes. -/
namespace Go.Proofs.YtphebmbapllinaaDoor
open Go.RowKit
set_option linter.unusedVariables false
set_option linter.unusedSimpArgs false

/-- A slice of the call's own was returned, and its elements are these. -/
def Made3 (t : TypeId) (zs : List P3) (w : World) (e : Ending) (w' : World) : Prop :=
  ∃ b : Nat, e = .returned (.slice (some ⟨b, 0, none⟩) zs.length zs.length) ∧ w.heap.size ≤ b ∧ Row w' b t (cells3 zs) ∧ Below w.heap.size w w'

theorem below_grew {B : Nat} {a w : World} (h : Below B a w) (hB : B ≤ w.heap.size) (k : Nat) (os : Array Obj) : Below B a (gr w k os) := h.trans ((Gr.below ⟨k, os, rfl⟩).mono hB)
end Go.Proofs.YtphebmbapllinaaDoor

/- Contracts of chapter 7: graduations in the laws (copied, compared) and the model's validity. -/
namespace Go.Proofs.YtphebmbapllinaaDoor
open Go.RowKit
set_option linter.unusedVariables false
set_option linter.unusedSimpArgs false

end Go.Proofs.YtphebmbapllinaaDoor

/- Contracts of chapter 7: the model's list of marks. -/
namespace Go.Proofs.YtphebmbapllinaaDoor
open Go.RowKit
set_option linter.unusedVariables false
set_option linter.unusedSimpArgs false

theorem info_i7 : (Tryd.prog.info? 2).map (fun i => (i.zero, i.size, i.bytes)) = some (some (.int .i64 0), 1, 8) := by kernel_rfl
theorem one_cell_new (w : World) (x : Value) (t : TypeId) : ∀ j u, [x][j]? = some u → (w.alloc (.cells #[x] t)).cell? ((⟨w.heap.size, 0, none⟩ : Addr).add j) = some u := by
  intro j u hj
  match j, hj with
  | 0, hj => simp at hj; subst hj; simp [Addr.add]
/-- A list of integers in blocks of the call's own. -/
abbrev Lst (w : World) (B : Nat) (v : Value) (xs : List Int) : Prop := w.ownsRow B 2 1 v xs.length (xs.map vi)
theorem Lst.app {w wr w1 : World} {B : Nat} {v v' : Value} {xs : List Int} {x : Int} {T : TypeId} {ys : List Value} {m : Nat} {o : Obj} (hb : Below B w wr) (hB : B ≤ wr.heap.size) (hx : (wr.alloc o).ownsRow B T 1 v m ys) (h' : w1.ownsRow B 2 1 v' (xs.length + 1) (xs.map vi ++ [vi x])) (hg : (wr.alloc o).grownBy w1 v.ownBlock) :
    Lst w1 B v' (xs ++ [x]) ∧ Below B w w1 :=
  ⟨by simpa [Lst] using h', (hb.alloc hB o).grown hg (by simp; omega) (fun k hk => (hx.lt k hk).1)⟩
/-- The first marks of a part. -/
def frs (p : P3) (j : Nat) : List Int := (List.range j).map fun (i : Nat) => p.1 + p.2.2 * (i : Int)
theorem frs_succ (p : P3) (j : Nat) : frs p (j + 1) = frs p j ++ [p.1 + p.2.2 * (j : Int)] := by unfold frs; rw [List.range_succ, List.map_append]; rfl
theorem frs_len (p : P3) (j : Nat) : (frs p j).length = j := by unfold frs; simp
theorem frs_all (p : P3) : frs p (prN p) = prM p := rfl
theorem mks_take {zs : List P3} {k : Nat} {p : P3} (h : zs[k]? = some p) : mks (zs.take (k + 1)) = mks (zs.take k) ++ prM p := by
  obtain ⟨hk, e⟩ := List.getElem?_eq_some_iff.1 h
  unfold mks
  rw [List.take_succ_eq_append_getElem hk, e, List.flatMap_append]
  simp
/-- Prefixes of a valid graduation: what the loops need. -/
theorem gd_take {zs : List P3} (h : gd zs = true) {k : Nat} {p : P3} (hp : zs[k]? = some p) : ∃ a, ptOk a p = true ∧ 1000 ≤ a ∧ ((mks (zs.take k)).length : Int) ≤ a - 1000 := by
  obtain ⟨-, h2⟩ := (gd_iff zs).1 h
  obtain ⟨hk, e⟩ := List.getElem?_eq_some_iff.1 hp
  have hs := gdE_append (zs.take k) (zs.drop k) 1000
  rw [List.take_append_drop, h2] at hs
  cases hb : gdE 1000 (zs.take k) with
  | none => rw [hb] at hs; cases hs
  | some a =>
    rw [hb, List.drop_eq_getElem_cons hk] at hs
    have hs2 : gdE a (zs[k] :: zs.drop (k + 1)) = some 10000 := hs.symm
    rw [e] at hs2
    obtain ⟨k1, -⟩ := gdE_cons hs2
    obtain ⟨l1, l2⟩ := cntM_len _ _ _ hb
    obtain ⟨u1, -⟩ := mks_bd _ _ _ hb
    exact ⟨a, k1, u1, by omega⟩

end Go.Proofs.YtphebmbapllinaaDoor

/- Contracts of chapter 7: the model's count of marks, its marks, the nearest one. -/
namespace Go.Proofs.YtphebmbapllinaaDoor
open Go.RowKit
set_option linter.unusedVariables false
set_option linter.unusedSimpArgs false

theorem Lst.form {w : World} {B : Nat} {v : Value} {xs : List Int} (h : Lst w B v xs) (hn : 0 < xs.length) :
    ∃ g c : Nat, v = .slice (some ⟨g, 0, none⟩) xs.length c ∧ B ≤ g ∧ g < w.heap.size ∧ ∀ k x, xs[k]? = some x → w.cell? ⟨g, k, none⟩ = some (vi x) := by
  have hc := fun g hg => World.ownsRow.cells h (g := g) hg
  have hlt := World.ownsRow.lt h
  rcases h.2 with ⟨rfl, h0⟩ | ⟨g, cap, cur, rfl, -⟩
  · omega
  · refine ⟨g, cap, rfl, (hlt g rfl).1, (hlt g rfl).2, fun k x hk => ?_⟩
    have x1 := hc g rfl k (vi x) (by rw [List.getElem?_map, hk]; rfl)
    have ha : (⟨g, 0, none⟩ : Addr).add k = ⟨g, k, none⟩ := by unfold Addr.add; split <;> simp_all
    rw [ha] at x1
    exact x1
theorem cntM_take {zs : List P3} {k : Nat} {p : P3} (h : zs[k]? = some p) : cntM (zs.take (k + 1)) = cntM (zs.take k) + (p.2.1 - p.1).tdiv p.2.2 := by
  obtain ⟨hk, e⟩ := List.getElem?_eq_some_iff.1 h
  unfold cntM
  rw [List.take_succ_eq_append_getElem hk, e, List.map_append, List.sum_append]
  simp
theorem gd_takeC {zs : List P3} (h : gd zs = true) {k : Nat} {p : P3} (hp : zs[k]? = some p) :
    ∃ a, ptOk a p = true ∧ 1000 ≤ a ∧ 0 ≤ cntM (zs.take k) ∧ cntM (zs.take k) ≤ a - 1000 ∧ (p.2.1 - p.1).tdiv p.2.2 = (prN p : Int) ∧ (prN p : Int) ≤ 9000 ∧ 0 ≤ (prN p : Int) := by
  obtain ⟨-, h2⟩ := (gd_iff zs).1 h
  obtain ⟨hk, e⟩ := List.getElem?_eq_some_iff.1 hp
  have hs := gdE_append (zs.take k) (zs.drop k) 1000
  rw [List.take_append_drop, h2] at hs
  cases hb : gdE 1000 (zs.take k) with
  | none => rw [hb] at hs; cases hs
  | some a =>
    rw [hb, List.drop_eq_getElem_cons hk] at hs
    have hs2 : gdE a (zs[k] :: zs.drop (k + 1)) = some 10000 := hs.symm
    rw [e] at hs2
    obtain ⟨k1, -⟩ := gdE_cons hs2
    obtain ⟨l1, l2⟩ := cntM_len _ _ _ hb
    obtain ⟨u1, -⟩ := mks_bd _ _ _ hb
    obtain ⟨e1, e2⟩ := prN_is k1
    obtain ⟨p1, p2, p3, p4, -⟩ := (ptOk_iff _ _).1 k1
    refine ⟨a, k1, u1, by omega, by omega, ?_, ?_, by omega⟩
    · rw [show p.2.1 - p.1 = p.2.2 * (prN p : Int) by omega, Int.mul_tdiv_cancel_left _ (by omega)]
    · have hm := Int.mul_le_mul_of_nonneg_right (show (1 : Int) ≤ p.2.2 by omega) (show (0 : Int) ≤ (prN p : Int) by omega)
      omega
/-- Whether a number is a mark: the parts so far. -/
theorem isM_take {zs : List P3} {k : Nat} {p : P3} (n : Int) (h : zs[k]? = some p) : isM (zs.take (k + 1)) n = (isM (zs.take k) n || prI n p) := by
  obtain ⟨hk, e⟩ := List.getElem?_eq_some_iff.1 h
  unfold isM
  rw [List.take_succ_eq_append_getElem hk, e, List.any_append]
  simp
theorem isM_at {zs : List P3} {k : Nat} {p : P3} (n : Int) (h : zs[k]? = some p) (hi : prI n p = true) : isM zs n = true := by
  unfold isM
  exact List.any_eq_true.2 ⟨p, List.mem_of_getElem? h, hi⟩
theorem nrS_snoc (n : Int) : ∀ (l : List Int) (b x : Int), nrS n b (l ++ [x]) = if (x - n).natAbs < (nrS n b l - n).natAbs then x else nrS n b l
  | [], b, x => rfl
  | y :: l, b, x => by
    have e : ∀ m, nrS n b (y :: m) = nrS n (if (y - n).natAbs < (b - n).natAbs then y else b) m := fun m => rfl
    rw [List.cons_append, e, e]
    exact nrS_snoc n l _ x
def cmV (zs : List P3) : Int := if gd zs = true then cntM zs else 0
def cmE (zs : List P3) : Int := if gd zs = true then 0 else 1

theorem ret_bi7 {a b : Bool} {c d : Int} (h : a = b) (h' : c = d) : Ending.returned (.tuple #[.bool a, .int .i64 c]) = .returned (.tuple #[.bool b, .int .i64 d]) := by rw [h, h']
def imV (zs : List P3) (m : Int) : Bool := gd zs && isM zs m
end Go.Proofs.YtphebmbapllinaaDoor
