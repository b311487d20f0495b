/- Contracts of chapter 7: the model's list of marks. -/
import Derived.Test.YtggflladheemoaaDoorC07a
import Derived.OwnWalk
import Derived.Maps.AppendAt
namespace Go.Proofs.YtggflladheemoaaDoor
open Go.RowKit
set_option linter.unusedVariables false
set_option linter.unusedSimpArgs false

theorem info_i7 : (Tryd.prog.info? 2).map (fun i => (i.zero, i.size, i.bytes)) = some (some (.int .i64 0), 1, 8) := by kernel_rfl
theorem one_cell_new (w : World) (x : Value) (t : TypeId) : ∀ j u, [x][j]? = some u → (w.alloc (.cells #[x] t)).cell? ((⟨w.heap.size, 0, none⟩ : Addr).add j) = some u := by
  intro j u hj
  match j, hj with
  | 0, hj => simp at hj; subst hj; simp [Addr.add]
/-- A list of integers in blocks of the call's own. -/
abbrev Lst (w : World) (B : Nat) (v : Value) (xs : List Int) : Prop := w.ownsRow B 2 1 v xs.length (xs.map vi)
theorem Lst.app {w wr w1 : World} {B : Nat} {v v' : Value} {xs : List Int} {x : Int} {T : TypeId} {ys : List Value} {m : Nat} {o : Obj} (hb : Below B w wr) (hB : B ≤ wr.heap.size) (hx : (wr.alloc o).ownsRow B T 1 v m ys) (h' : w1.ownsRow B 2 1 v' (xs.length + 1) (xs.map vi ++ [vi x])) (hg : (wr.alloc o).grownBy w1 v.ownBlock) :
    Lst w1 B v' (xs ++ [x]) ∧ Below B w w1 :=
  ⟨by simpa [Lst] using h', (hb.alloc hB o).grown hg (by simp; omega) (fun k hk => (hx.lt k hk).1)⟩
/-- The first marks of a part. -/
def frs (p : P3) (j : Nat) : List Int := (List.range j).map fun (i : Nat) => p.1 + p.2.2 * (i : Int)
theorem frs_succ (p : P3) (j : Nat) : frs p (j + 1) = frs p j ++ [p.1 + p.2.2 * (j : Int)] := by unfold frs; rw [List.range_succ, List.map_append]; rfl
theorem frs_len (p : P3) (j : Nat) : (frs p j).length = j := by unfold frs; simp
theorem frs_all (p : P3) : frs p (prN p) = prM p := rfl
theorem mks_take {zs : List P3} {k : Nat} {p : P3} (h : zs[k]? = some p) : mks (zs.take (k + 1)) = mks (zs.take k) ++ prM p := by
  obtain ⟨hk, e⟩ := List.getElem?_eq_some_iff.1 h
  unfold mks
  rw [List.take_succ_eq_append_getElem hk, e, List.flatMap_append]
  simp
/-- Prefixes of a valid graduation: what the loops need. -/
theorem gd_take {zs : List P3} (h : gd zs = true) {k : Nat} {p : P3} (hp : zs[k]? = some p) : ∃ a, ptOk a p = true ∧ 1000 ≤ a ∧ ((mks (zs.take k)).length : Int) ≤ a - 1000 := by
  obtain ⟨-, h2⟩ := (gd_iff zs).1 h
  obtain ⟨hk, e⟩ := List.getElem?_eq_some_iff.1 hp
  have hs := gdE_append (zs.take k) (zs.drop k) 1000
  rw [List.take_append_drop, h2] at hs
  cases hb : gdE 1000 (zs.take k) with
  | none => rw [hb] at hs; cases hs
  | some a =>
    rw [hb, List.drop_eq_getElem_cons hk] at hs
    have hs2 : gdE a (zs[k] :: zs.drop (k + 1)) = some 10000 := hs.symm
    rw [e] at hs2
    obtain ⟨k1, -⟩ := gdE_cons hs2
    obtain ⟨l1, l2⟩ := cntM_len _ _ _ hb
    obtain ⟨u1, -⟩ := mks_bd _ _ _ hb
    exact ⟨a, k1, u1, by omega⟩

set_option maxRecDepth 100000 in
set_option maxHeartbeats 4000000 in
theorem marks_spec (A : Option Addr) (n c : Nat) (zs : List P3) (w : World) (hn : zs.length = n) (hN : n ≤ 16777216) (hA : Reads w w.heap.size A (cells3 zs)) (hv : gd zs = true) :
    Calls Tryd.prog 92 #[.slice A n c] w fun e w' => (∃ v, e = .returned v ∧ Lst w' w.heap.size v (mks zs)) ∧ Below w.heap.size w w' := by
  have HL := Lib.hid hn
  have HA := Lib.hid hA
  have HV := Lib.hid (fun (k : Nat) (p : P3) (hp : zs[k]? = some p) => gd_take hv hp)
  obtain ⟨i0, hi, hz0, hz1, hz2⟩ := info_parts info_i7
  clear hn hA hv
  go_enter Tryd.func92, Tryd.ntmps92
  go_wp2
  have O1 : Lst (w.alloc (.cells #[] 2)) w.heap.size (.slice (some ⟨w.heap.size, 0, none⟩) 0 0) [] := World.ownsRow_made w #[] 0 (Nat.le_refl _) (Nat.zero_le _) rfl
  have B1 : Below w.heap.size w (w.alloc (.cells #[] 2)) := (Below.refl _ _).alloc (Nat.le_refl _) _
  go_loopw [3, 4] (fun v i wr => ∃ k : Nat, i = .int .i64 k ∧ k ≤ n ∧ Lst wr w.heap.size v (mks (zs.take k)) ∧ Below w.heap.size w wr) (fun _ i _ => n - (intOf i).toNat)
  case atStart => exact ⟨0, rfl, by omega, by simpa [mks] using O1, B1⟩
  case round =>
    obtain ⟨k, rfl, hk, hown, hb⟩ := hrel
    clear O1 B1
    by_cases hlt : k < n
    · obtain ⟨z, hz⟩ := some_at (l := zs) (k := k) (by rw [HL.out]; exact hlt)
      obtain ⟨a, ho, ha, hlen⟩ := HV.out k z hz
      obtain ⟨e1, e2⟩ := prN_is ho
      obtain ⟨p1, p2, p3, p4, -⟩ := (ptOk_iff _ _).1 ho
      have HT := Lib.hid (mks_take hz)
      have HZ := Lib.hid hz
      obtain ⟨g, o, rfl, hg, x0, x1, x2⟩ := HA.out.at3 hz
      have HX1 := Lib.hid (And.intro x1 x2)
      have y0 : wr.cell? ⟨g, o + k * 3, none⟩ = some (vi z.1) := (hb.cell (p := ⟨g, o + k * 3, none⟩) hg).trans x0
      clear hz ho x0 x1 x2
      obtain ⟨za, zb, zc⟩ := z
      simp only at *
      subst p1
      have hNl : (prN (za, zb, zc) : Int) ≤ 9000 := by
        have hm := Int.mul_le_mul_of_nonneg_right (show (1 : Int) ≤ zc by omega) (show (0 : Int) ≤ (prN (za, zb, zc) : Int) by omega)
        omega
      have HE1 := Lib.hid e1
      have HO := Lib.hid hown
      have HBo := Lib.hid hb
      have hbs := hb.size
      clear e1 hown hb
      generalize hNp : prN (za, zb, zc) = N at *
      have HNp := Lib.hid hNp
      clear hNp
      go_wp2
      go_loopw [3, 5] (fun v m wr2 => ∃ j : Nat, m = .int .i64 (za + zc * (j : Int)) ∧ j ≤ N ∧ Lst wr2 w.heap.size v (mks (zs.take k) ++ frs (za, zb, zc) j) ∧ Below w.heap.size w wr2) (fun _ m _ => (zb - intOf m).toNat)
      case atStart => exact ⟨0, by simp, by omega, by simpa [frs] using HO.out, HBo.out⟩
      case round =>
        obtain ⟨j, rfl, hj, hown2, hb2⟩ := hrel
        have y1 : _ := (hb2.cell (p := ⟨g, o + k * 3 + 1, none⟩) hg).trans HX1.out.1
        have y2 : _ := (hb2.cell (p := ⟨g, o + k * 3 + 2, none⟩) hg).trans HX1.out.2
        have hbs2 := hb2.size
        have hl2 : (mks (zs.take k) ++ frs (za, zb, zc) j).length ≤ 20000 := by rw [List.length_append, frs_len]; omega
        by_cases hltj : j < N
        · have hm := Int.mul_le_mul_of_nonneg_left (show ((j : Int) + 1) ≤ (N : Int) by omega) (show 0 ≤ zc by omega)
          rw [Int.mul_add, Int.mul_one] at hm
          have h0 : 0 ≤ zc * (j : Int) := Int.mul_nonneg (by omega) (by omega)
          have hq : za + zc * (j : Int) + zc ≤ zb := by have := HE1.out; omega
          have HS := Lib.hid (frs_succ (za, zb, zc) j)
          have HJ := Lib.hid (show za + zc * ((j + 1 : Nat) : Int) = za + zc * (j : Int) + zc by rw [Int.natCast_add, Int.mul_add]; simp; omega)
          have HW := Lib.hid hown2
          have HB2 := Lib.hid hb2
          simp only at HS
          generalize hxs : mks (zs.take k) ++ frs (za, zb, zc) j = xs at *
          have HXS := Lib.hid hxs
          generalize zc * (j : Int) = q at *
          clear hm hown2 hb2 hxs
          go_wp2_with (at_builtin; refine wpList_append_own _ rfl _ _ 52 rfl w.heap.size 2 i0 (.int .i64 0) 1 8 Tryd.underlying52 hi hz0 hz1 hz2 rfl (by decide) _ _ _ rfl (HW.out.alloc _) ⟨wr.heap.size, 0, none⟩ 1 1 [.int .i64 (za + q)] rfl rfl (one_cell_new _ _ _) (by simp [Value.oneCell']) (by unfold maxLen; omega) (by omega) (by simp; omega) ?_; intro v' w4 hown' hgrow _; obtain ⟨hA1, hA2⟩ := Lst.app (x := za + q) HB2.out hbs2 (HW.out.alloc _) (by simpa using hown') hgrow; have y3 := (hA2.cell (p := ⟨g, o + k * 3 + 2, none⟩) hg).trans HX1.out.2; have HA1 := Lib.hid hA1; have HA2 := Lib.hid hA2; clear hA1 hA2 hown' hgrow)
          go_roundw
          case rel => exact ⟨j + 1, by rw [HJ.out], by omega, by rw [HS.out, ← List.append_assoc, HXS.out]; exact HA1.out, HA2.out⟩
          case measure => simp [intOf]; omega
        · obtain rfl : j = N := by omega
          have hq : ¬ za + zc * (j : Int) < zb := by have := HE1.out; omega
          have HW := Lib.hid hown2
          have HB2 := Lib.hid hb2
          clear hown2 hb2
          go_wp2
          go_roundw
          case rel => exact ⟨k + 1, by go_num, by omega, by rw [HT.out, ← frs_all, HNp.out]; exact HW.out, HB2.out⟩
          case measure => simp [intOf]; omega
    · have HF := Lib.hid (show zs.take k = zs from List.take_of_length_le (by rw [HL.out]; omega))
      go_wp2
      go_ret
      exact ⟨⟨_, rfl, by rw [← HF.out]; exact hown⟩, hb⟩
end Go.Proofs.YtggflladheemoaaDoor
