/- GraduationText, in the program. -/
import Derived.Test.YtdbeedfapkfibaaDoorT14
import Derived.Test.YtdbeedfapkfibaaDoorTA
import Derived.Test.YtdbeedfapkfibaaDoor7A
namespace Go.Proofs.YtdbeedfapkfibaaDoor
open Go.RowKit
set_option linter.unusedVariables false
set_option linter.unusedSimpArgs false

theorem gtB_join (zs : List P3) : ∀ k, k ≤ zs.length → gtB zs k = ⟨(Lib.join ((zs.take k).map (fun p => (ptB p).data.toList)) [32]).toArray⟩
  | 0, _ => by
    simp only [List.take_zero, List.map_nil, Lib.join_nil]
    rfl
  | k + 1, hk => by
    have ih := gtB_join zs k (by omega)
    have hg : zs.getD k (0, 0, 0) = zs[k]'(by omega) := by rw [List.getD_eq_getElem?_getD, List.getElem?_eq_getElem (by omega)]; rfl
    rw [gtB_succ, hg, List.take_succ_eq_append_getElem (by omega), List.map_append, List.map_cons, List.map_nil, join_snoc, ih]
    have hp : ptB (zs[k]'(by omega)) = ⟨(ptB (zs[k]'(by omega))).data.toList.toArray⟩ := by rw [Array.toArray_toList]
    by_cases h0 : k = 0
    · subst h0
      rw [if_neg (by omega), if_pos (by simp)]
      simp only [List.take_zero, List.map_nil, Lib.join_nil]
      rw [Array.toArray_toList]
      exact app_empty _
    · rw [if_pos (by omega), if_neg (by
        intro h1
        rw [List.map_eq_nil_iff, List.take_eq_nil_iff] at h1
        rcases h1 with h1 | h1
        · omega
        · rw [h1] at hk; simp at hk)]
      rw [hp]
      rw [ByteArray.mk_append_mk, ByteArray.mk_append_mk]
theorem ptB_len (p : P3) (h : Small3 p) : (ptB p).data.toList.length ≤ 62 := ptB_size p h
theorem gt_join_len (zs : List P3) (h : ∀ p ∈ zs, Small3 p) : (Lib.join ((zs.map ptB).map (·.data.toList)) [32]).length ≤ 63 * zs.length := by
  have h1 := gtB_size zs h zs.length (Nat.le_refl _)
  rw [gtB_join zs _ (Nat.le_refl _), List.take_of_length_le (Nat.le_refl _)] at h1
  rw [List.map_map]
  have h2 : (⟨(Lib.join (zs.map (fun p => (ptB p).data.toList)) [32]).toArray⟩ : ByteArray).size = (Lib.join (zs.map (fun p => (ptB p).data.toList)) [32]).length := by
    show (List.toArray _).size = _
    rw [List.size_toArray]
  rw [h2] at h1
  exact h1
def vp (p : P3) : Value := .string (ptB p)

set_option maxRecDepth 100000 in
set_option maxHeartbeats 4000000 in
theorem gt_impl (A : Option Addr) (n c : Nat) (zs : List P3) (w : World) (hn : zs.length = n) (hN : n ≤ 16777216) (hA : Reads w w.heap.size A (cells3 zs)) (hW : Wf3 zs) (hT : Tab w) :
    Calls Tryd.prog 12 #[.slice A n c] w fun e w' => e = .returned (.tuple #[.string (gtS zs), .int .i64 (cmE zs)]) ∧ Gr w w' := by
  have HG := Lib.hid (gd_impl A n c zs w hn hN hA hW)
  have HT := Lib.hid hT
  have HN := Lib.hid hn
  rcases Bool.eq_false_or_eq_true (gd zs) with hv | hv
  · have HC := Lib.hid (show gtS zs = gtB zs n ∧ cmE zs = 0 by unfold gtS cmE; rw [hv, hn]; exact ⟨rfl, rfl⟩)
    have HS := Lib.hid (gd_small hv)
    have hl12 : n ≤ 12 := by have := gd_len hv; omega
    have HL := Lib.hid (show (zs.map vp).length = n by rw [List.length_map]; exact hn)
    have HA := Lib.hid hA
    have hmk := mkStrs n (by omega)
    rw [hv] at HG
    clear hv hA hn hT
    go_enter Tryd.func12, Tryd.ntmps12
    go_wp2_with fail
    refine HG.out.mono ?_
    rintro e w1 ⟨rfl, hg1⟩
    have HA1 := Lib.hid (HA.out.gr hg1)
    have HT1 := Lib.hid (HT.out.gr hg1)
    clear HG HA HT
    go_wp2_with fail
    clear hmk
    go_loopw [15] (fun i wr => ∃ k : Nat, k ≤ n ∧ i = .int .i64 k ∧ Row wr w1.heap.size 9 (fillV (zs.map vp) (.string ⟨#[]⟩) k) ∧ Below w1.heap.size w1 wr) (fun i _ => n - (intOf i).toNat)
    case atStart => exact ⟨0, by omega, rfl, by rw [fillV_zero, HL.out]; exact Row.new w1 _ _, (Below.refl _ _).alloc (Nat.le_refl _) _⟩
    case round =>
      obtain ⟨k, hk, rfl, hrow, hbl⟩ := hrel
      by_cases hlt : k < n
      · have hk2 : k < (zs.map vp).length := by rw [HL.out]; exact hlt
        obtain ⟨z, hz⟩ := some_at (l := zs) (k := k) (by rw [HN.out]; exact hlt)
        have hsm := HS.out z (List.mem_of_getElem? hz)
        obtain ⟨g, o, rfl, hg, x0, x1, x2⟩ := HA1.out.at3 hz
        have FS := Lib.hid (fillV_put (zs.map vp) (.string ⟨#[]⟩) (vp z) k (by rw [List.getElem?_map, hz]; rfl))
        have y0 : wr.cell? ⟨g, o + k * 3, none⟩ = some (vi z.1) := (hbl.cell (p := ⟨g, o + k * 3, none⟩) hg).trans x0
        have y1 : wr.cell? ⟨g, o + k * 3 + 1, none⟩ = some (vi z.2.1) := (hbl.cell (p := ⟨g, o + k * 3 + 1, none⟩) hg).trans x1
        have y2 : wr.cell? ⟨g, o + k * 3 + 2, none⟩ = some (vi z.2.2) := (hbl.cell (p := ⟨g, o + k * 3 + 2, none⟩) hg).trans x2
        have c0 := hrow.cell k
        rw [fillV_at _ _ _ hk2] at c0
        have f0 := hrow.free k
        have hlb := hrow.lt
        obtain ⟨za, zb, zc⟩ := z
        simp only at y0 y1 y2
        have HP := Lib.hid (fun W (hg : Gr wr W) => partText_any za zb zc W hsm ((HT1.out.later hbl).gr hg))
        have HV := Lib.hid (show Value.string (ptB (za, zb, zc)) = vp (za, zb, zc) from rfl)
        have HR := Lib.hid hrow
        have HB := Lib.hid hbl
        generalize ptB (za, zb, zc) = y at *
        clear hz hk2 x0 x1 x2 hsm hrow hbl
        go_wp2_with (go_at_call 39; refine (HP.out _ (by repeat (first | with_reducible exact Gr.refl _ | with_reducible refine Gr.alloc ?_ _ | with_reducible refine Gr.gr ?_ _ _ | with_reducible refine Gr.drew ?_ | with_reducible refine Gr.drewN ?_ _))).mono ?_; rintro e w' ⟨rfl, kk, os, rfl⟩)
        go_roundw
        case rel =>
          refine ⟨k + 1, by omega, by go_num, ?_, ?_⟩
          · rw [← FS.out, ← HV.out]
            exact (HR.out.set k (.string y)).gr (by repeat (first | with_reducible exact Gr.refl _ | with_reducible refine Gr.alloc ?_ _ | with_reducible refine Gr.gr ?_ _ _ | with_reducible refine Gr.drew ?_ | with_reducible refine Gr.drewN ?_ _))
          · exact (HB.out.setCell (p := ⟨w1.heap.size, k, none⟩) (Nat.le_refl _) (.string y)).trans ((show Gr (wr.setCell ⟨w1.heap.size, k, none⟩ (.string y)) _ from (by repeat (first | with_reducible exact Gr.refl _ | with_reducible refine Gr.alloc ?_ _ | with_reducible refine Gr.gr ?_ _ _ | with_reducible refine Gr.drew ?_ | with_reducible refine Gr.drewN ?_ _))).below.mono (by have := HB.out.size; simp; omega))
        case measure => simp [intOf]; omega
      · obtain rfl : k = n := by omega
        have HF := Lib.hid (fillV_all (zs.map vp) (.string ⟨#[]⟩))
        rw [HL.out] at HF
        have hcells : ∀ (j : Nat) x, (zs.map ptB)[j]? = some x → wr.cell? ⟨w1.heap.size, 0 + j, none⟩ = some (.string x) := by
          intro j x hx
          rw [Nat.zero_add, hrow.cell, HF.out]
          rw [List.getElem?_map] at hx ⊢
          cases h : zs[j]? with
          | none => rw [h] at hx; cases hx
          | some z => rw [h] at hx; simp at hx; subst hx; rfl
        have hjl : (Lib.join ((zs.map ptB).map (·.data.toList)) [32]).length ≤ 140737488355328 := by
          have := gt_join_len zs HS.out
          rw [HN.out] at this
          omega
        have hJ := Tryd.strings_Join w1.heap.size 0 k (zs.map ptB) ⟨#[32]⟩ wr hcells hrow.lt (by rw [List.length_map, HN.out]; omega) (by rw [List.length_map, HN.out]; omega) hjl
        rw [List.length_map, HN.out] at hJ
        have HJ := Lib.hid hJ
        have HE := Lib.hid (show gtB zs k = ⟨(Lib.join ((zs.map ptB).map (·.data.toList)) (ByteArray.mk #[32]).data.toList).toArray⟩ by
          rw [gtB_join zs k (by rw [HN.out]; omega), List.take_of_length_le (by rw [HN.out]; omega), List.map_map]
          rfl)
        clear hJ hcells hjl
        go_wp2_with fail
        refine HJ.out.mono ?_
        rintro e w' ⟨rfl, hb2⟩
        go_wp2_with fail
        go_ret2
        exact ⟨ret_sc (by rw [HC.out.1, HE.out]; first | done | (rw [List.map_map]; done) | (rw [List.map_map]; rfl)) (by rw [HC.out.2]), hg1.trans (Gr.of_below (hbl.trans (hb2.mono hbl.size)))⟩
  · have HC := Lib.hid (show gtS zs = ⟨#[]⟩ ∧ cmE zs = 1 by unfold gtS cmE; rw [hv]; exact ⟨rfl, rfl⟩)
    rw [hv] at HG
    clear hv hA hn hT
    go_enter Tryd.func12, Tryd.ntmps12
    go_wp2_with fail
    refine HG.out.mono ?_
    rintro e w1 ⟨rfl, hg1⟩
    go_wp2_with fail
    go_ret2
    exact ⟨ret_sc HC.out.1.symm HC.out.2.symm, hg1⟩
end Go.Proofs.YtdbeedfapkfibaaDoor
