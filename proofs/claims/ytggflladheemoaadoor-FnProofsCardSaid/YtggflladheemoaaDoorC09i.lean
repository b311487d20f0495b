/- Contracts of chapter 9: a step of a proof is put into a list of steps, in order. -/
import Derived.Test.YtggflladheemoaaDoorC08l
import Derived.Test.YtggflladheemoaaDoorLX
namespace Go.Proofs.YtggflladheemoaaDoor
open Go.RowKit Go.Shelf Go.ChangeShapes Go.WideShapes Go.ChangeAt
set_option linter.unusedVariables false
set_option linter.unusedSimpArgs false

abbrev P4 := Int × Int × Int × Int
abbrev cl4 (p : P4) : List Value := [vi p.1, vi p.2.1, vi p.2.2.1, vi p.2.2.2]
theorem cl4_len (p : P4) : (cl4 p).length = 4 := rfl
abbrev Lst4 (w : World) (B : Nat) (v : Value) (xs : List P4) : Prop := LstG cl4 4 133 w B v xs
theorem info_step : (Tryd.prog.info? 133).map (fun i => (i.zero, i.size, i.bytes)) = some (some (.agg #[.int .i64 0, .int .i64 0, .int .i64 0, .int .i64 0]), 4, 32) := by kernel_rfl
theorem four_cells_new (w : World) (x y z u : Value) (t : TypeId) : ∀ j v, [x, y, z, u][j]? = some v → (w.alloc (.cells #[x, y, z, u] t)).cell? ((⟨w.heap.size, 0, none⟩ : Addr).add j) = some v := by
  intro j v hj
  match j, hj with
  | 0, hj => simp at hj; subst hj; simp [Addr.add]
  | 1, hj => simp at hj; subst hj; simp [Addr.add]
  | 2, hj => simp at hj; subst hj; simp [Addr.add]
  | 3, hj => simp at hj; subst hj; simp [Addr.add]
theorem set_four (L R : List Value) (y0 y1 y2 y3 x0 x1 x2 x3 : Value) (m : Nat) (hm : L.length = m) :
    ((((L ++ ([y0, y1, y2, y3] ++ R)).set m x0).set (m + 1) x1).set (m + 2) x2).set (m + 3) x3 = L ++ ([x0, x1, x2, x3] ++ R) := by
  subst hm
  rw [List.set_append_right _ _ (Nat.le_refl _), List.set_append_right _ _ (by omega), List.set_append_right _ _ (by omega), List.set_append_right _ _ (by omega),
    show L.length - L.length = 0 by omega, show L.length + 1 - L.length = 1 by omega, show L.length + 2 - L.length = 2 by omega, show L.length + 3 - L.length = 3 by omega]
  rfl
theorem at_four (L R : List Value) (y0 y1 y2 y3 : Value) (m : Nat) (hm : L.length = m) :
    (L ++ ([y0, y1, y2, y3] ++ R))[m]? = some y0 ∧ (L ++ ([y0, y1, y2, y3] ++ R))[m + 1]? = some y1 ∧ (L ++ ([y0, y1, y2, y3] ++ R))[m + 2]? = some y2 ∧ (L ++ ([y0, y1, y2, y3] ++ R))[m + 3]? = some y3 := by
  subst hm
  refine ⟨?_, ?_, ?_, ?_⟩ <;> (rw [List.getElem?_append_right (by omega)]; simp)
theorem LstG.at4 {w : World} {B : Nat} {A : Option Addr} {xs : List P4} (h : Reads w B A (xs.flatMap cl4)) {k : Nat} {p : P4} (hp : xs[k]? = some p) :
    ∃ g o : Nat, A = some ⟨g, o, none⟩ ∧ g < B ∧ w.cell? ⟨g, o + k * 4, none⟩ = some (vi p.1) ∧ w.cell? ⟨g, o + k * 4 + 1, none⟩ = some (vi p.2.1) ∧ w.cell? ⟨g, o + k * 4 + 2, none⟩ = some (vi p.2.2.1) ∧ w.cell? ⟨g, o + k * 4 + 3, none⟩ = some (vi p.2.2.2) := by
  have q := fun (j : Nat) (hj : j < 4) => flat_at (cl := cl4) cl4_len xs k p hp j hj
  obtain ⟨g, o, e0, h0, x0⟩ := h.at_ (q 0 (by omega))
  obtain ⟨g1, o1, e1, -, x1⟩ := h.at_ (q 1 (by omega))
  obtain ⟨g2, o2, e2, -, x2⟩ := h.at_ (q 2 (by omega))
  obtain ⟨g3, o3, e3, -, x3⟩ := h.at_ (q 3 (by omega))
  rw [e0] at e1 e2 e3
  injection e1 with e1
  injection e2 with e2
  injection e3 with e3
  injection e1 with a1 b1
  injection e2 with a2 b2
  injection e3 with a3 b3
  subst a1 b1 a2 b2 a3 b3
  exact ⟨g, o, e0, h0, x0, by rw [Nat.add_assoc]; exact x1, by rw [Nat.add_assoc]; exact x2, by rw [Nat.add_assoc]; exact x3⟩

set_option maxRecDepth 100000 in
set_option maxHeartbeats 8000000 in
theorem insP_any (g : Nat) (cb : Array Value) (bf : P4 → P4 → Bool) (x : P4) (v : Value) (xs : List P4) (B : Nat) (w : World) (hlen : xs.length ≤ 100000) (hB : B ≤ w.heap.size) (hx : Lst4 w B v xs) (eg : ∀ args w, (callFunc g args).run Tryd.prog w = .ok (.enter g args) w)
    (hf : ∀ W, Gr w W → ∀ y, y ∈ xs → Calls Tryd.prog g (#[.agg #[vi x.1, vi x.2.1, vi x.2.2.1, vi x.2.2.2], .agg #[vi y.1, vi y.2.1, vi y.2.2.1, vi y.2.2.2]] ++ cb) W fun e w' => e = .returned (.bool (bf x y)) ∧ Gr W w') :
    Calls Tryd.prog 162 #[v, .agg #[vi x.1, vi x.2.1, vi x.2.2.1, vi x.2.2.2], .func (.func g) #[] cb] w fun e w' => (∃ v', e = .returned v' ∧ Lst4 w' B v' (insB bf x xs) ∧ OldOrNew w v v') ∧ w.grownBy w' v.ownBlock := by
  have HF := hf
  have HIE := Lib.hid (insB_eq bf x xs)
  have HNA := Lib.hid (show insN bf x xs = insA (fun k => (xs[k]?.map (bf x)).getD false) xs.length from rfl)
  have HNL := Lib.hid (insN_le bf x xs)
  have HSU := Lib.hid (insA_succ (fun k => (xs[k]?.map (bf x)).getD false))
  have HBL := Lib.hid (insB_len bf x xs)
  have HVB := Lib.hid (fun g e => (World.ownsRow.lt hx g e).2)
  have HSP := Lib.hid (fun (rest : List Value) (k : Nat) (hk : k ≤ xs.length) => flat_splice (cl := cl4) cl4_len xs x rest k hk)
  obtain ⟨a, b, c, d⟩ := x
  simp only at HF
  replace HF := Lib.hid HF
  obtain ⟨A, cp, rfl, hR⟩ := LstG.slice hx
  have HG0 := Lib.hid (show Gr w (w.alloc (.cells #[vi a, vi b, vi c, vi d] 133)) from (by repeat (first | with_reducible exact Gr.refl _ | with_reducible refine Gr.alloc ?_ _ | with_reducible refine Gr.gr ?_ _ _ | with_reducible refine Gr.drew ?_ | with_reducible refine Gr.drewN ?_ _)))
  have HR := Lib.hid (hR.gr HG0.out)
  have HX := Lib.hid (LstG.below hx HG0.out.below)
  have hs0 : (w.alloc (.cells #[vi a, vi b, vi c, vi d] 133)).heap.size = w.heap.size + 1 := by simp
  have HRW := Lib.hid (Row.new w 133 [vi a, vi b, vi c, vi d])
  obtain ⟨i0, hi, hz0, hz1, hz2⟩ := info_parts info_step
  clear hf hR hx
  go_enter Tryd.func162, Tryd.ntmps162
  go_wp2
  replace HRW : Hid (Row (w.alloc (.cells #[vi a, vi b, vi c, vi d] 133)) w.heap.size 133 [vi a, vi b, vi c, vi d]) := HRW
  generalize w.alloc (.cells #[vi a, vi b, vi c, vi d] 133) = w0 at *
  have HQ0 := Lib.hid (fun W (h : Gr w0 W) => show W.cell? ⟨w.heap.size, 0, none⟩ = some (vi a) from (HRW.out.gr h).cell 0)
  have HQ1 := Lib.hid (fun W (h : Gr w0 W) => show W.cell? ⟨w.heap.size, 1, none⟩ = some (vi b) from (HRW.out.gr h).cell 1)
  have HQ2 := Lib.hid (fun W (h : Gr w0 W) => show W.cell? ⟨w.heap.size, 2, none⟩ = some (vi c) from (HRW.out.gr h).cell 2)
  have HQ3 := Lib.hid (fun W (h : Gr w0 W) => show W.cell? ⟨w.heap.size, 3, none⟩ = some (vi d) from (HRW.out.gr h).cell 3)
  go_loopw [7] (fun i wr => ∃ k : Nat, k ≤ xs.length ∧ i = .int .i64 k ∧ Hid (insN bf (a, b, c, d) xs = insA (fun k => (xs[k]?.map (bf (a, b, c, d))).getD false) k) ∧ Gr w0 wr) (fun i _ => (intOf i).toNat)
  case atStart => exact ⟨xs.length, Nat.le_refl _, rfl, HNA, Gr.refl _⟩
  case round =>
    obtain ⟨k, hk, rfl, hE, hG⟩ := hrel
    have hwk : IntKind.i64.wrap ((k : Int) + 1) = (k : Int) + 1 := IntWalk.i64_in _ (by omega)
    have q0 := HQ0.out wr hG
    have q1 := HQ1.out wr hG
    have q2 := HQ2.out wr hG
    have q3 := HQ3.out wr hG
    have hblx := World.block_lt_of_cell? _ _ q0
    have HG := Lib.hid hG
    clear hG
    by_cases hk0 : k = 0
    · have HK := Lib.hid (show insN bf (a, b, c, d) xs = k from by rw [hE.out, hk0]; rfl)
      have hd0 : decide (0 < (k : Int)) = false := decide_eq_false (by omega)
      have hd1 : decide (0 < k) = false := decide_eq_false (by omega)
      have HK0 := Lib.hid hk0
      clear hk0
      go_wp2
      go_quiet (fail)
      have HGW := Lib.hid (HG.out.drewN nq)
      generalize wr.drewN nq = W at *
      have HXW := Lib.hid (LstG.below HX.out (Gr.below HGW.out))
      have r0 := HQ0.out _ HGW.out
      have r1 := HQ1.out _ HGW.out
      have r2 := HQ2.out _ HGW.out
      have r3 := HQ3.out _ HGW.out
      have hszW : w.heap.size + 1 ≤ W.heap.size := by have := HGW.out.below.size; omega
      go_wp2_with (at_builtin; refine wpList_append_ownB _ rfl _ _ 127 rfl B 133 i0 (.agg #[.int .i64 0, .int .i64 0, .int .i64 0, .int .i64 0]) 4 32 Tryd.underlying127 hi hz0 hz1 hz2 rfl (by decide) _ _ _ rfl (HXW.out.alloc _) ⟨W.heap.size, 0, none⟩ 1 1 [vi a, vi b, vi c, vi d] rfl rfl (four_cells_new _ _ _ _ _ _) (by simp [Value.oneCell']) (by omega) (by unfold maxLen; omega) (by omega) (by simp; omega) ?_; intro v' w4 hown' hgrow hblk; have hA2 := grownBy_trans (grownBy_gr (HGW.out.alloc _) _) hgrow; obtain ⟨g', cap', rest', rfl, hBg, hgl, hrow, hc1, hc2, hc3⟩ := LstG.grown (x := (a, b, c, d)) rfl hown'; obtain ⟨D1, E1, hS1, hD1⟩ := cut_from Tryd.underlying127 hi hz1 g' (xs.length + 1) cap' (k + 1) (by omega); obtain ⟨D2, E2, hS2, hD2⟩ := cut_from Tryd.underlying127 hi hz1 g' (xs.length + 1) cap' k (by omega); have HD1 := Lib.hid hD1; have HD2 := Lib.hid hD2; clear hD1 hD2; rw [show ((k + 1 : Nat) : Int) = (k : Int) + 1 from rfl] at hS1; have hown2 := oldNew_at HGW.out hblk; have HON := Lib.hid hown2; have HROW := Lib.hid hrow; have HA2 := Lib.hid hA2; clear hA2 hown' hgrow hrow hblk hown2)
      go_still_tail 7, (by kernel_rfl)
      change wpList _ _ _ _ _ w4.drew
      have HROW2 := Lib.hid (HROW.out.gr ((Gr.refl w4).drew))
      have HA3 := Lib.hid (grownBy_trans HA2.out (grownBy_gr ((Gr.refl w4).drew) _))
      clear HROW HA2 hgl hS1 hS2
      generalize w4.drew = w5 at *
      refine wpList_copy_spliceN rfl _ _ 127 127 rfl 133 Tryd.underlying127 4 (by kernel_rfl) _ _ _ _ _ _ rfl rfl g' ((k + 1) * 4) ((xs ++ [(a, b, c, d)]).flatMap cl4 ++ rest') 133 HROW2.out (xs.length - k) ((xs.drop k).flatMap cl4) (by change _ = min _ _; omega) (by rw [flat_len cl4_len, List.length_drop]) (fun h => ⟨by rw [HD1.out (by omega) hc1], ⟨g', k * 4, none⟩, by rw [HD2.out (by omega) hc1], flat_src cl4_len xs (a, b, c, d) rest' k hk HROW2.out⟩) (by rw [List.length_append, flat_len cl4_len, flat_len cl4_len, List.length_append, List.length_drop, List.length_singleton]; omega) (fun u hu => by obtain ⟨z, -, hz⟩ := List.mem_flatMap.1 hu; simp only [cl4, List.mem_cons, List.not_mem_nil, or_false] at hz; rcases hz with rfl | rfl | rfl | rfl <;> rfl) ?_
      intro w6 hs6 hb6
      have HB6 := Lib.hid (grownBy_own HA3.out HON.out hb6)
      obtain ⟨⟨ya, yb, yc, yd⟩, hy'⟩ := HSP.out rest' k hk
      have HR6 := Lib.hid (show Row w6 g' 133 ((xs.take k).flatMap cl4 ++ ([vi ya, vi yb, vi yc, vi yd] ++ ((xs.drop k).flatMap cl4 ++ rest'))) from by rw [show ([vi ya, vi yb, vi yc, vi yd] : List Value) = cl4 (ya, yb, yc, yd) from rfl, ← hy']; exact hs6.out)
      have hltk : ((xs.take k).flatMap cl4).length = k * 4 := by rw [flat_len cl4_len, List.length_take, Nat.min_eq_left hk]
      have A4 := at_four ((xs.take k).flatMap cl4) ((xs.drop k).flatMap cl4 ++ rest') (vi ya) (vi yb) (vi yc) (vi yd) (k * 4) hltk
      have c0 := (HR6.out.cell (k * 4)).trans A4.1
      have c1 := (HR6.out.cell (k * 4 + 1)).trans A4.2.1
      have c2 := (HR6.out.cell (k * 4 + 2)).trans A4.2.2.1
      have c3 := (HR6.out.cell (k * 4 + 3)).trans A4.2.2.2
      have f0 := HR6.out.free (k * 4)
      have f1 := HR6.out.free (k * 4 + 1)
      have f2 := HR6.out.free (k * 4 + 2)
      have f3 := HR6.out.free (k * 4 + 3)
      have hl6 := HR6.out.lt
      have hne : some w.heap.size ≠ (Value.slice A xs.length cp).ownBlock := fun e => by have := HVB.out _ e.symm; omega
      have t0 := World.grownBy.cell HB6.out (HQ0.out _ (Gr.refl _)) hne
      have t1 := World.grownBy.cell HB6.out (HQ1.out _ (Gr.refl _)) hne
      have t2 := World.grownBy.cell HB6.out (HQ2.out _ (Gr.refl _)) hne
      have t3 := World.grownBy.cell HB6.out (HQ3.out _ (Gr.refl _)) hne
      have HS4 := Lib.hid (set_four ((xs.take k).flatMap cl4) ((xs.drop k).flatMap cl4 ++ rest') (vi ya) (vi yb) (vi yc) (vi yd) (vi a) (vi b) (vi c) (vi d) (k * 4) hltk)
      have hkc : (k : Int) < ((xs.length + 1 : Nat) : Int) := by omega
      have hkc2 : (k : Int) < (xs.length : Int) + 1 := by omega
      clear hb6 hs6 hy' A4 hltk r0 r1 r2 r3
      go_wp2
      go_ret
      refine ⟨⟨_, rfl, ?_, HON.out.imp Eq.symm (fun h => ⟨g', rfl, by omega⟩)⟩, ?_⟩
      · have h7 := (((HR6.out.set (k * 4) (vi a)).set (k * 4 + 1) (vi b)).set (k * 4 + 2) (vi c)).set (k * 4 + 3) (vi d)
        rw [HS4.out] at h7
        have e7 : (xs.take k).flatMap cl4 ++ ([vi a, vi b, vi c, vi d] ++ ((xs.drop k).flatMap cl4 ++ rest')) = (insB bf (a, b, c, d) xs).flatMap cl4 ++ rest' := by
          rw [HIE.out, HK.out]
          simp
        rw [e7] at h7
        have h8 := LstG.of_row cl4_len hBg h7 hc2 (by rw [HBL.out]; exact hc1) (by rw [HBL.out]; exact hc3)
        rwa [HBL.out] at h8
      · exact grownBy_trans (grownBy_gr HG0.out _) (grownBy_own HB6.out HON.out (grownBy_trans (grownBy_trans (grownBy_trans (grownBy_cell _ _ _ _) (grownBy_cell _ _ _ _)) (grownBy_cell _ _ _ _)) (grownBy_cell _ _ _ _)))
    · have hd0 : decide (0 < (k : Int)) = true := decide_eq_true (by omega)
      have hd1 : decide (0 < k) = true := decide_eq_true (by omega)
      have hk1 : 0 < k := by omega
      obtain ⟨y, hy⟩ := some_at (l := xs) (k := k - 1) (by omega)
      obtain ⟨gb, o, rfl, hg, y0, y1, y2, y3⟩ := LstG.at4 (HR.out.gr HG.out) hy
      have hk2 : (1 : Int) ≤ (k : Int) := by omega
      have hk3 : (k : Int) - 1 < (xs.length : Int) := by omega
      have hwk2 : IntKind.i64.wrap ((k : Int) - 1) = (k : Int) - 1 := IntWalk.i64_in _ (by omega)
      have HC := Lib.hid (fun k0 os0 => HF.out (gr wr k0 os0) ((HG0.out.trans HG.out).gr k0 os0) y (List.mem_of_getElem? hy))
      have HS := Lib.hid (HSU.out (k - 1))
      rw [show k - 1 + 1 = k by omega] at HS
      simp only [hy, Option.map_some, Option.getD_some] at HS
      obtain ⟨ya, yb, yc, yd⟩ := y
      simp only at y0 y1 y2 y3
      clear hy hk0
      cases hb : bf (a, b, c, d) (ya, yb, yc, yd)
      · rw [hb] at HS HC
        clear hb
        have HK := Lib.hid (show insN bf (a, b, c, d) xs = k from by rw [hE.out, HS.out]; rfl)
        go_wp2
        ((first | refine region_gr_on (by kernel_rfl) (by kernel_rfl) ?_ | refine region_gr (by kernel_rfl) (by kernel_rfl) ?_); (repeat (quiet_step (exact Calls.gr_of (HC.out _ _)))); refine wpQuiet_nil ?_; intro _ hw'; obtain ⟨⟨kq, oq⟩, hw''⟩ := hw'; subst hw'')
        have HGW := Lib.hid (HG.out.gr kq oq)
        simp only
        generalize gr wr kq oq = W at *
        clear y0 y1 y2 y3 hg
        have HXW := Lib.hid (LstG.below HX.out (Gr.below HGW.out))
        have r0 := HQ0.out _ HGW.out
        have r1 := HQ1.out _ HGW.out
        have r2 := HQ2.out _ HGW.out
        have r3 := HQ3.out _ HGW.out
        have hszW : w.heap.size + 1 ≤ W.heap.size := by have := HGW.out.below.size; omega
        go_wp2_with (at_builtin; refine wpList_append_ownB _ rfl _ _ 127 rfl B 133 i0 (.agg #[.int .i64 0, .int .i64 0, .int .i64 0, .int .i64 0]) 4 32 Tryd.underlying127 hi hz0 hz1 hz2 rfl (by decide) _ _ _ rfl (HXW.out.alloc _) ⟨W.heap.size, 0, none⟩ 1 1 [vi a, vi b, vi c, vi d] rfl rfl (four_cells_new _ _ _ _ _ _) (by simp [Value.oneCell']) (by omega) (by unfold maxLen; omega) (by omega) (by simp; omega) ?_; intro v' w4 hown' hgrow hblk; have hA2 := grownBy_trans (grownBy_gr (HGW.out.alloc _) _) hgrow; obtain ⟨g', cap', rest', rfl, hBg, hgl, hrow, hc1, hc2, hc3⟩ := LstG.grown (x := (a, b, c, d)) rfl hown'; obtain ⟨D1, E1, hS1, hD1⟩ := cut_from Tryd.underlying127 hi hz1 g' (xs.length + 1) cap' (k + 1) (by omega); obtain ⟨D2, E2, hS2, hD2⟩ := cut_from Tryd.underlying127 hi hz1 g' (xs.length + 1) cap' k (by omega); have HD1 := Lib.hid hD1; have HD2 := Lib.hid hD2; clear hD1 hD2; rw [show ((k + 1 : Nat) : Int) = (k : Int) + 1 from rfl] at hS1; have hown2 := oldNew_at HGW.out hblk; have HON := Lib.hid hown2; have HROW := Lib.hid hrow; have HA2 := Lib.hid hA2; clear hA2 hown' hgrow hrow hblk hown2)
        go_still_tail 7, (by kernel_rfl)
        change wpList _ _ _ _ _ w4.drew
        have HROW2 := Lib.hid (HROW.out.gr ((Gr.refl w4).drew))
        have HA3 := Lib.hid (grownBy_trans HA2.out (grownBy_gr ((Gr.refl w4).drew) _))
        clear HROW HA2 hgl hS1 hS2
        generalize w4.drew = w5 at *
        refine wpList_copy_spliceN rfl _ _ 127 127 rfl 133 Tryd.underlying127 4 (by kernel_rfl) _ _ _ _ _ _ rfl rfl g' ((k + 1) * 4) ((xs ++ [(a, b, c, d)]).flatMap cl4 ++ rest') 133 HROW2.out (xs.length - k) ((xs.drop k).flatMap cl4) (by change _ = min _ _; omega) (by rw [flat_len cl4_len, List.length_drop]) (fun h => ⟨by rw [HD1.out (by omega) hc1], ⟨g', k * 4, none⟩, by rw [HD2.out (by omega) hc1], flat_src cl4_len xs (a, b, c, d) rest' k hk HROW2.out⟩) (by rw [List.length_append, flat_len cl4_len, flat_len cl4_len, List.length_append, List.length_drop, List.length_singleton]; omega) (fun u hu => by obtain ⟨z, -, hz⟩ := List.mem_flatMap.1 hu; simp only [cl4, List.mem_cons, List.not_mem_nil, or_false] at hz; rcases hz with rfl | rfl | rfl | rfl <;> rfl) ?_
        intro w6 hs6 hb6
        have HB6 := Lib.hid (grownBy_own HA3.out HON.out hb6)
        obtain ⟨⟨ya, yb, yc, yd⟩, hy'⟩ := HSP.out rest' k hk
        have HR6 := Lib.hid (show Row w6 g' 133 ((xs.take k).flatMap cl4 ++ ([vi ya, vi yb, vi yc, vi yd] ++ ((xs.drop k).flatMap cl4 ++ rest'))) from by rw [show ([vi ya, vi yb, vi yc, vi yd] : List Value) = cl4 (ya, yb, yc, yd) from rfl, ← hy']; exact hs6.out)
        have hltk : ((xs.take k).flatMap cl4).length = k * 4 := by rw [flat_len cl4_len, List.length_take, Nat.min_eq_left hk]
        have A4 := at_four ((xs.take k).flatMap cl4) ((xs.drop k).flatMap cl4 ++ rest') (vi ya) (vi yb) (vi yc) (vi yd) (k * 4) hltk
        have c0 := (HR6.out.cell (k * 4)).trans A4.1
        have c1 := (HR6.out.cell (k * 4 + 1)).trans A4.2.1
        have c2 := (HR6.out.cell (k * 4 + 2)).trans A4.2.2.1
        have c3 := (HR6.out.cell (k * 4 + 3)).trans A4.2.2.2
        have f0 := HR6.out.free (k * 4)
        have f1 := HR6.out.free (k * 4 + 1)
        have f2 := HR6.out.free (k * 4 + 2)
        have f3 := HR6.out.free (k * 4 + 3)
        have hl6 := HR6.out.lt
        have hne : some w.heap.size ≠ (Value.slice (some ⟨gb, o, none⟩) xs.length cp).ownBlock := fun e => by have := HVB.out _ e.symm; omega
        have t0 := World.grownBy.cell HB6.out (HQ0.out _ (Gr.refl _)) hne
        have t1 := World.grownBy.cell HB6.out (HQ1.out _ (Gr.refl _)) hne
        have t2 := World.grownBy.cell HB6.out (HQ2.out _ (Gr.refl _)) hne
        have t3 := World.grownBy.cell HB6.out (HQ3.out _ (Gr.refl _)) hne
        have HS4 := Lib.hid (set_four ((xs.take k).flatMap cl4) ((xs.drop k).flatMap cl4 ++ rest') (vi ya) (vi yb) (vi yc) (vi yd) (vi a) (vi b) (vi c) (vi d) (k * 4) hltk)
        have hkc : (k : Int) < ((xs.length + 1 : Nat) : Int) := by omega
        have hkc2 : (k : Int) < (xs.length : Int) + 1 := by omega
        clear hb6 hs6 hy' A4 hltk r0 r1 r2 r3
        go_wp2
        go_ret
        refine ⟨⟨_, rfl, ?_, HON.out.imp Eq.symm (fun h => ⟨g', rfl, by omega⟩)⟩, ?_⟩
        · have h7 := (((HR6.out.set (k * 4) (vi a)).set (k * 4 + 1) (vi b)).set (k * 4 + 2) (vi c)).set (k * 4 + 3) (vi d)
          rw [HS4.out] at h7
          have e7 : (xs.take k).flatMap cl4 ++ ([vi a, vi b, vi c, vi d] ++ ((xs.drop k).flatMap cl4 ++ rest')) = (insB bf (a, b, c, d) xs).flatMap cl4 ++ rest' := by
            rw [HIE.out, HK.out]
            simp
          rw [e7] at h7
          have h8 := LstG.of_row cl4_len hBg h7 hc2 (by rw [HBL.out]; exact hc1) (by rw [HBL.out]; exact hc3)
          rwa [HBL.out] at h8
        · exact grownBy_trans (grownBy_gr HG0.out _) (grownBy_own HB6.out HON.out (grownBy_trans (grownBy_trans (grownBy_trans (grownBy_cell _ _ _ _) (grownBy_cell _ _ _ _)) (grownBy_cell _ _ _ _)) (grownBy_cell _ _ _ _)))
      · rw [hb] at HS HC
        clear hb
        go_wp2
        ((first | refine region_gr_on (by kernel_rfl) (by kernel_rfl) ?_ | refine region_gr (by kernel_rfl) (by kernel_rfl) ?_); (repeat (quiet_step (exact Calls.gr_of (HC.out _ _)))); refine wpQuiet_nil ?_; intro _ hw'; obtain ⟨⟨kq, oq⟩, hw''⟩ := hw'; subst hw'')
        go_wp2
        go_roundw
        case rel => exact ⟨k - 1, by omega, by congr 1; omega, Lib.hid (by rw [hE.out, HS.out]; rfl), HG.out.gr kq oq⟩
        case measure => simp [intOf]; omega
end Go.Proofs.YtggflladheemoaaDoor
