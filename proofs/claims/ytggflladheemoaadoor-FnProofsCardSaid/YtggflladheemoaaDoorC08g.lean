/- Contracts of chapter 8: an element is put into a list of integers, in order. -/
import Derived.Test.YtggflladheemoaaDoor8B
import Derived.Test.YtggflladheemoaaDoorMC
import Derived.Test.YtggflladheemoaaDoorDl
import Derived.Test.YtggflladheemoaaDoorSA
import Derived.Laws.CopyOwn
import Derived.StillTailTactics
import Derived.Shelf.Abstract
namespace Go.Proofs.YtggflladheemoaaDoor
open Go.RowKit Go.Shelf Go.ChangeShapes Go.WideShapes Go.ChangeAt
set_option linter.unusedVariables false
set_option linter.unusedSimpArgs false

/-- What the row holds when all behind the place has been moved up by one. -/
theorem ins_cells (xs : List Int) (x : Int) (rest : List Value) (k : Nat) (hk : k ≤ xs.length) :
    (splice ((xs ++ [x]).map vi ++ rest) (k + 1) ((xs.drop k).map vi)).set k (vi x) = (xs.take k ++ x :: xs.drop k).map vi ++ rest := by
  have hl : ((xs.drop k).map vi).length = xs.length - k := by simp
  have e0 : ((xs ++ [x]).map vi ++ rest).drop (k + 1 + ((xs.drop k).map vi).length) = rest := by
    rw [hl, List.drop_append_of_le_length (by simp; omega), List.drop_eq_nil_of_le (by simp; omega), List.nil_append]
  unfold splice
  rw [e0]
  have e1 : (((xs ++ [x]).map vi ++ rest).take (k + 1)).length = k + 1 := by simp; omega
  have e2 : (((xs ++ [x]).map vi ++ rest).take (k + 1)).set k (vi x) = (xs.take k).map vi ++ [vi x] := by
    apply List.ext_getElem?
    intro i
    rw [List.getElem?_set]
    by_cases hi : k = i
    · subst hi
      rw [if_pos rfl, if_pos (by omega), List.getElem?_append_right (by simp; omega)]
      simp [show k - min k xs.length = 0 by omega]
    · rw [if_neg hi, List.getElem?_take]
      by_cases h2 : i < k
      · rw [if_pos (by omega), List.getElem?_append_left (by simp; omega), List.getElem?_append_left (by simp; omega), List.getElem?_map, List.getElem?_map, List.getElem?_append_left (by omega), List.getElem?_take, if_pos h2]
      · rw [if_neg (by omega), List.getElem?_eq_none (by simp; omega)]
  rw [List.set_append_left _ _ (by omega), e2]
  simp

/-- What an append leaves of a list of the call's own. -/
theorem Lst.grown {w : World} {B : Nat} {v : Value} {xs : List Int} {x : Int} (h : w.ownsRow B 2 1 v (xs.length + 1) (xs.map vi ++ [vi x])) :
    ∃ (g cap : Nat) (rest : List Value), v = .slice (some ⟨g, 0, none⟩) (xs.length + 1) cap ∧ B ≤ g ∧ g < w.heap.size ∧ Row w g 2 ((xs ++ [x]).map vi ++ rest) ∧ xs.length + 1 ≤ cap ∧ cap ≤ maxLen ∧ xs.length + 1 + rest.length = cap := by
  have h2 : Lst w B v (xs ++ [x]) := by simpa [Lst] using h
  rcases Lst.row h2 with ⟨-, e⟩ | ⟨g, cap, rest, e, hB, hr, h1, h3, h4⟩
  · simp at e
  · rw [List.length_append] at e h1 h4
    exact ⟨g, cap, rest, e, hB, hr.lt, hr, h1, h3, h4⟩

/-- A slice cut from a place on. -/
theorem cut_from {P : Program} {T : TypeId} (hT : P.underlying T = some (.slice (P.elem T))) {i0 : TypeInfo} {sz : Nat} (hi : P.info? (P.elem T) = some i0) (hs : i0.size = sz) (g n cap l : Nat) (h : l ≤ n) :
    ∃ D E, (∀ W, (Instr.sliceAt T (.slice (some ⟨g, 0, none⟩) n cap) (some (.int .i64 (l : Int))) none none).run P W = .ok (.slice D (n - l) E) W) ∧ (l < n → n ≤ cap → D = some ⟨g, l * sz, none⟩) := by
  refine ⟨if cap = l then some ⟨g, 0, none⟩ else (some (⟨g, 0, none⟩ : Addr)).map (·.add (l * sz)), cap - l, fun W => ?_, ?_⟩
  · rw [run_sliceAt_slice W T _ _ _ _ hT, run_slice_l W T _ n cap hT .i64 (l : Int) (by omega) (by omega)]
    have hsz : (sizeOf (P.elem T)).run P W = .ok sz W := by simp [sizeOf, typeInfo, hi, hs]
    rw [hsz]
    simp only [Result.andThen, sliced, Int.toNat_natCast]
  · intro h1 h2
    rw [if_neg (by omega)]
    simp only [Option.map_some, Addr.add, Nat.zero_add]
    split <;> first | rfl | simp_all

theorem ins_src (xs : List Int) (x : Int) (rest : List Value) (k : Nat) {w : World} {g : Nat} (h : Row w g 2 ((xs ++ [x]).map vi ++ rest)) : ∀ j u, ((xs.drop k).map vi)[j]? = some u → w.cell? ((⟨g, k, none⟩ : Addr).add j) = some u := by
  intro j u hj
  rw [List.getElem?_map, List.getElem?_drop] at hj
  obtain ⟨y, hy, rfl⟩ := Option.map_eq_some_iff.1 hj
  obtain ⟨hl, e⟩ := List.getElem?_eq_some_iff.1 hy
  rw [add_plain, h.cell, List.getElem?_append_left (by simp; omega), List.getElem?_map, List.getElem?_append_left hl, hy]
  rfl
theorem ins_at (xs : List Int) (x : Int) (rest : List Value) (k : Nat) (hk : k ≤ xs.length) : ∃ u, (splice ((xs ++ [x]).map vi ++ rest) (k + 1) ((xs.drop k).map vi))[k]? = some u := by
  refine some_at ?_
  have h1 := length_splice ((xs ++ [x]).map vi ++ rest) (k + 1) ((xs.drop k).map vi) (by simp; omega)
  rw [h1]
  simp; omega
theorem ins_done {w : World} {B g cap : Nat} {bf : Int → Int → Bool} {x : Int} {xs : List Int} {rest : List Value} (hB : B ≤ g) (hr : Row w g 2 ((xs.take (insN bf x xs) ++ x :: xs.drop (insN bf x xs)).map vi ++ rest)) (hc : cap ≤ maxLen) (hl : xs.length + 1 + rest.length = cap) :
    Lst w B (.slice (some ⟨g, 0, none⟩) (xs.length + 1) cap) (insB bf x xs) := by
  rw [← insB_len bf x xs]
  rw [← insB_eq] at hr
  exact Lst.of_row hB hr hc (by rw [insB_len]; exact hl)

theorem oldNew_at {w wr : World} {o : Obj} {v : Value} {g n c : Nat} (hg : Gr w wr) (h : OldOrNew (wr.alloc o) v (.slice (some ⟨g, 0, none⟩) n c)) : v.ownBlock = some g ∨ w.heap.size ≤ g := by
  rcases h with h | ⟨b, h, hb⟩
  · exact .inl h.symm
  · injection h with h
    have h2 := hg.below.size
    simp at hb h
    exact .inr (by omega)
theorem Lst.below_of {w w' : World} {B : Nat} {v : Value} {xs : List Int} (h : Lst w B v xs) (hB : B ≤ w.heap.size) (hg : w.grownBy w' v.ownBlock) : Below B w w' := (Below.refl B w).grown hg hB (fun k hk => (World.ownsRow.lt h k hk).1)

set_option maxRecDepth 100000 in
set_option maxHeartbeats 4000000 in
theorem insI_any (g : Nat) (cb : Array Value) (bf : Int → Int → Bool) (x : Int) (v : Value) (xs : List Int) (B : Nat) (w : World) (hlen : xs.length ≤ 100000) (hB : B ≤ w.heap.size) (hx : Lst w B v xs) (eg : ∀ args w, (callFunc g args).run Tryd.prog w = .ok (.enter g args) w)
    (hf : ∀ W, Gr w W → ∀ y, y ∈ xs → Calls Tryd.prog g (#[.int .i64 x, .int .i64 y] ++ cb) W fun e w' => e = .returned (.bool (bf x y)) ∧ Gr W w') :
    Calls Tryd.prog 116 #[v, .int .i64 x, .func (.func g) #[] cb] w fun e w' => (∃ v', e = .returned v' ∧ Lst w' B v' (insB bf x xs) ∧ OldOrNew w v v') ∧ w.grownBy w' v.ownBlock := by
  have HF := Lib.hid hf
  have HIE := Lib.hid (insB_eq bf x xs)
  have HNA := Lib.hid (show insN bf x xs = insA (fun k => (xs[k]?.map (bf x)).getD false) xs.length from rfl)
  have HNL := Lib.hid (insN_le bf x xs)
  have HSU := Lib.hid (insA_succ (fun k => (xs[k]?.map (bf x)).getD false))
  obtain ⟨A, c, rfl, hR⟩ := Lst.slice hx
  have HR := Lib.hid hR
  have HX := Lib.hid hx
  obtain ⟨i0, hi, hz0, hz1, hz2⟩ := info_parts info_i7
  clear hf hR hx
  go_enter Tryd.func116, Tryd.ntmps116
  go_wp2
  go_loopw [7] (fun i wr => ∃ k : Nat, k ≤ xs.length ∧ i = .int .i64 k ∧ Hid (insN bf x xs = insA (fun k => (xs[k]?.map (bf x)).getD false) k) ∧ Gr w wr) (fun i _ => (intOf i).toNat)
  case atStart => exact ⟨xs.length, Nat.le_refl _, rfl, HNA, Gr.refl _⟩
  case round =>
    obtain ⟨k, hk, rfl, hE, hG⟩ := hrel
    have hwk : IntKind.i64.wrap ((k : Int) + 1) = (k : Int) + 1 := IntWalk.i64_in _ (by omega)
    by_cases hk0 : k = 0
    · have HK := Lib.hid (show insN bf x xs = k from by rw [hE.out, hk0]; rfl)
      have hd0 : decide (0 < (k : Int)) = false := decide_eq_false (by omega)
      have hd1 : decide (0 < k) = false := decide_eq_false (by omega)
      have HK0 := Lib.hid hk0
      clear hk0
      have hGW := hG
      have HXW := Lib.hid (Lst.below HX.out (Gr.below hGW))
      have HGR := Lib.hid hGW
      have HBW := Lib.hid ((Gr.below hGW).mono hB)
      have hszW : B ≤ wr.heap.size := by have := HBW.out.size; omega
      clear hGW
      go_wp2_with (first | (at_builtin; refine wpList_append_ownB _ rfl _ _ 52 rfl B 2 i0 (.int .i64 0) 1 8 Tryd.underlying52 hi hz0 hz1 hz2 rfl (by decide) _ _ _ rfl (HXW.out.alloc _) ⟨wr.heap.size, 0, none⟩ 1 1 [.int .i64 x] rfl rfl (one_cell_new _ _ _) (by simp [Value.oneCell']) (by omega) (by unfold maxLen; omega) (by omega) (by simp; omega) ?_; intro v' w4 hown' hgrow hblk; have hA2 := grownBy_trans (grownBy_gr (HGR.out.alloc _) _) hgrow; obtain ⟨g', cap', rest', rfl, hBg, hgl, hrow, hc1, hc2, hc3⟩ := Lst.grown (by simpa using hown'); obtain ⟨D1, E1, hS1, hD1⟩ := cut_from Tryd.underlying52 hi hz1 g' (xs.length + 1) cap' (k + 1) (by omega); obtain ⟨D2, E2, hS2, hD2⟩ := cut_from Tryd.underlying52 hi hz1 g' (xs.length + 1) cap' k (by omega); have HD1 := Lib.hid hD1; have HD2 := Lib.hid hD2; clear hD1 hD2; rw [show ((k + 1 : Nat) : Int) = (k : Int) + 1 from rfl] at hS1; have hown2 := oldNew_at HGR.out hblk; have HON := Lib.hid hown2; have HROW := Lib.hid hrow; have HA2 := Lib.hid hA2; clear hA2 hown' hgrow hrow hblk hown2))
      go_still_tail 7, (by kernel_rfl)
      change wpList _ _ _ _ _ w4.drew
      have HROW2 := Lib.hid (HROW.out.gr ((Gr.refl w4).drew))
      have HA3 := Lib.hid (grownBy_trans HA2.out (grownBy_gr ((Gr.refl w4).drew) _))
      clear HROW HA2 hgl hS1 hS2
      generalize w4.drew = w5 at *
      refine wpList_copy_spliceG rfl _ _ 52 52 rfl 2 Tryd.underlying52 (by kernel_rfl) _ _ _ _ _ _ rfl rfl g' (k + 1) ((xs ++ [x]).map vi ++ rest') 2 HROW2.out ((xs.drop k).map vi) (by rw [List.length_map, List.length_drop]; exact (Nat.min_eq_right (by omega)).symm) (fun h => ⟨by rw [HD1.out (by simp at h; omega) hc1, Nat.mul_one], ⟨g', k, none⟩, by rw [HD2.out (by omega) hc1, Nat.mul_one], ins_src xs x rest' k HROW2.out⟩) (by simp; omega) (fun u hu => by obtain ⟨z, -, rfl⟩ := List.mem_map.1 hu; rfl) ?_
      intro w6 hs6 hb6
      have HB6 := Lib.hid (grownBy_own HA3.out HON.out hb6)
      have c0 := Row.cell (show Row w6 g' 2 _ from hs6.out) k
      have f0 := Row.free (show Row w6 g' 2 _ from hs6.out) k
      have hl6 := Row.lt (show Row w6 g' 2 _ from hs6.out)
      obtain ⟨u0, hu0⟩ := ins_at xs x rest' k hk
      rw [hu0] at c0
      clear hu0 hb6
      go_wp2
      go_ret
      exact ⟨⟨_, rfl, ins_done hBg (by rw [HK.out, ← ins_cells xs x rest' k hk]; exact Row.set hs6.out k _) hc2 hc3, HON.out.imp Eq.symm (fun h => ⟨g', rfl, h⟩)⟩, grownBy_own HB6.out HON.out (grownBy_cell _ _ _ _)⟩
    · have hd0 : decide (0 < (k : Int)) = true := decide_eq_true (by omega)
      have hd1 : decide (0 < k) = true := decide_eq_true (by omega)
      have hk1 : 0 < k := by omega
      obtain ⟨y, hy⟩ := some_at (l := xs) (k := k - 1) (by omega)
      obtain ⟨gb, o, rfl, hg, hc⟩ := (HR.out.gr hG).at_ (map_at hy)
      have hcc : wr.cell? ⟨gb, o + ((k : Int) - 1).toNat, none⟩ = some (vi y) := by rw [show ((k : Int) - 1).toNat = k - 1 by omega]; exact hc
      have HC := Lib.hid (HF.out wr hG y (List.mem_of_getElem? hy))
      have HS := Lib.hid (HSU.out (k - 1))
      rw [show k - 1 + 1 = k by omega] at HS
      simp only [hy, Option.map_some, Option.getD_some] at HS
      clear hy hk0
      cases hb : bf x y
      · rw [hb] at HC HS
        clear hb
        have HK := Lib.hid (show insN bf x xs = k from by rw [hE.out, HS.out]; rfl)
        go_wp2_with (first | (go_at_fn g; refine HC.out.mono ?_; rintro e wr2 ⟨rfl, hg2⟩; have hGW := hG.trans hg2; have HXW := Lib.hid (Lst.below HX.out (Gr.below hGW)); have HGR := Lib.hid hGW; have HBW := Lib.hid ((Gr.below hGW).mono hB); have hszW : B ≤ wr2.heap.size := (by have := HBW.out.size; omega); clear hGW) | (at_builtin; refine wpList_append_ownB _ rfl _ _ 52 rfl B 2 i0 (.int .i64 0) 1 8 Tryd.underlying52 hi hz0 hz1 hz2 rfl (by decide) _ _ _ rfl (HXW.out.alloc _) ⟨wr2.heap.size, 0, none⟩ 1 1 [.int .i64 x] rfl rfl (one_cell_new _ _ _) (by simp [Value.oneCell']) (by omega) (by unfold maxLen; omega) (by omega) (by simp; omega) ?_; intro v' w4 hown' hgrow hblk; have hA2 := grownBy_trans (grownBy_gr (HGR.out.alloc _) _) hgrow; obtain ⟨g', cap', rest', rfl, hBg, hgl, hrow, hc1, hc2, hc3⟩ := Lst.grown (by simpa using hown'); obtain ⟨D1, E1, hS1, hD1⟩ := cut_from Tryd.underlying52 hi hz1 g' (xs.length + 1) cap' (k + 1) (by omega); obtain ⟨D2, E2, hS2, hD2⟩ := cut_from Tryd.underlying52 hi hz1 g' (xs.length + 1) cap' k (by omega); have HD1 := Lib.hid hD1; have HD2 := Lib.hid hD2; clear hD1 hD2; rw [show ((k + 1 : Nat) : Int) = (k : Int) + 1 from rfl] at hS1; have hown2 := oldNew_at HGR.out hblk; have HON := Lib.hid hown2; have HROW := Lib.hid hrow; have HA2 := Lib.hid hA2; clear hA2 hown' hgrow hrow hblk hown2))
        go_still_tail 7, (by kernel_rfl)
        change wpList _ _ _ _ _ w4.drew
        have HROW2 := Lib.hid (HROW.out.gr ((Gr.refl w4).drew))
        have HA3 := Lib.hid (grownBy_trans HA2.out (grownBy_gr ((Gr.refl w4).drew) _))
        clear HROW HA2 hgl hS1 hS2
        generalize w4.drew = w5 at *
        refine wpList_copy_spliceG rfl _ _ 52 52 rfl 2 Tryd.underlying52 (by kernel_rfl) _ _ _ _ _ _ rfl rfl g' (k + 1) ((xs ++ [x]).map vi ++ rest') 2 HROW2.out ((xs.drop k).map vi) (by rw [List.length_map, List.length_drop]; exact (Nat.min_eq_right (by omega)).symm) (fun h => ⟨by rw [HD1.out (by simp at h; omega) hc1, Nat.mul_one], ⟨g', k, none⟩, by rw [HD2.out (by omega) hc1, Nat.mul_one], ins_src xs x rest' k HROW2.out⟩) (by simp; omega) (fun u hu => by obtain ⟨z, -, rfl⟩ := List.mem_map.1 hu; rfl) ?_
        intro w6 hs6 hb6
        have HB6 := Lib.hid (grownBy_own HA3.out HON.out hb6)
        have c0 := Row.cell (show Row w6 g' 2 _ from hs6.out) k
        have f0 := Row.free (show Row w6 g' 2 _ from hs6.out) k
        have hl6 := Row.lt (show Row w6 g' 2 _ from hs6.out)
        obtain ⟨u0, hu0⟩ := ins_at xs x rest' k hk
        rw [hu0] at c0
        clear hu0 hb6
        go_wp2
        go_ret
        exact ⟨⟨_, rfl, ins_done hBg (by rw [HK.out, ← ins_cells xs x rest' k hk]; exact Row.set hs6.out k _) hc2 hc3, HON.out.imp Eq.symm (fun h => ⟨g', rfl, h⟩)⟩, grownBy_own HB6.out HON.out (grownBy_cell _ _ _ _)⟩
      · rw [hb] at HC HS
        clear hb
        go_wp2_with (go_at_fn g; refine HC.out.mono ?_; rintro e w' ⟨rfl, hg⟩)
        go_roundw
        case rel => exact ⟨k - 1, by omega, by congr 1; omega, Lib.hid (by rw [hE.out, HS.out]; rfl), hG.trans hg⟩
        case measure => simp [intOf]; omega
end Go.Proofs.YtggflladheemoaaDoor
