/- Plain mathematics, merged. -/
import Derived.Test.YtggflladheemoaaDoorC08l
import Derived.Test.YtggflladheemoaaDoorLX
import Derived.Test.YtggflladheemoaaDoorC08f
import Derived.Deep.RegionLaw
import Derived.Test.YtggflladheemoaaDoorC07e
import Derived.Test.YtggflladheemoaaDoor7B
import Derived.Test.YtggflladheemoaaDoorC05a
import Derived.Deep.RegionHeld3
import Derived.Test.YtggflladheemoaaDoor7A
/- Contracts of chapter 8: a tick is put into a list of ticks, in order. -/
namespace Go.Proofs.YtggflladheemoaaDoor
open Go.RowKit Go.Shelf Go.ChangeShapes Go.WideShapes Go.ChangeAt
set_option linter.unusedVariables false
set_option linter.unusedSimpArgs false

abbrev cl3 (p : P3) : List Value := [vi p.1, vi p.2.1, vi p.2.2]
theorem cl3_len (p : P3) : (cl3 p).length = 3 := rfl
abbrev LstT (w : World) (B : Nat) (v : Value) (xs : List P3) : Prop := LstG cl3 3 60 w B v xs
theorem info_tick : (Tryd.prog.info? 60).map (fun i => (i.zero, i.size, i.bytes)) = some (some (.agg #[.int .i64 0, .int .i64 0, .int .i64 0]), 3, 24) := by kernel_rfl
theorem set_three (L R : List Value) (y0 y1 y2 x0 x1 x2 : Value) (m : Nat) (hm : L.length = m) :
    (((L ++ ([y0, y1, y2] ++ R)).set m x0).set (m + 1) x1).set (m + 2) x2 = L ++ ([x0, x1, x2] ++ R) := by
  subst hm
  rw [List.set_append_right _ _ (Nat.le_refl _), List.set_append_right _ _ (by omega), List.set_append_right _ _ (by omega),
    show L.length - L.length = 0 by omega, show L.length + 1 - L.length = 1 by omega, show L.length + 2 - L.length = 2 by omega]
  rfl
theorem at_three (L R : List Value) (y0 y1 y2 : Value) (m : Nat) (hm : L.length = m) :
    (L ++ ([y0, y1, y2] ++ R))[m]? = some y0 ∧ (L ++ ([y0, y1, y2] ++ R))[m + 1]? = some y1 ∧ (L ++ ([y0, y1, y2] ++ R))[m + 2]? = some y2 := by
  subst hm
  refine ⟨?_, ?_, ?_⟩ <;> (rw [List.getElem?_append_right (by omega)]; simp)
theorem LstG.at3 {w : World} {B : Nat} {A : Option Addr} {xs : List P3} (h : Reads w B A (xs.flatMap cl3)) {k : Nat} {p : P3} (hp : xs[k]? = some p) :
    ∃ g o : Nat, A = some ⟨g, o, none⟩ ∧ g < B ∧ w.cell? ⟨g, o + k * 3, none⟩ = some (vi p.1) ∧ w.cell? ⟨g, o + k * 3 + 1, none⟩ = some (vi p.2.1) ∧ w.cell? ⟨g, o + k * 3 + 2, none⟩ = some (vi p.2.2) :=
  Reads.at3 h hp

set_option maxRecDepth 100000 in
set_option maxHeartbeats 8000000 in
theorem insT_any (g : Nat) (cb : Array Value) (bf : P3 → P3 → Bool) (x : P3) (v : Value) (xs : List P3) (B : Nat) (w : World) (hlen : xs.length ≤ 100000) (hB : B ≤ w.heap.size) (hx : LstT w B v xs) (eg : ∀ args w, (callFunc g args).run Tryd.prog w = .ok (.enter g args) w)
    (hf : ∀ W, Gr w W → ∀ y, y ∈ xs → Calls Tryd.prog g (#[.agg #[vi x.1, vi x.2.1, vi x.2.2], .agg #[vi y.1, vi y.2.1, vi y.2.2]] ++ cb) W fun e w' => e = .returned (.bool (bf x y)) ∧ Gr W w') :
    Calls Tryd.prog 104 #[v, .agg #[vi x.1, vi x.2.1, vi x.2.2], .func (.func g) #[] cb] w fun e w' => (∃ v', e = .returned v' ∧ LstT w' B v' (insB bf x xs) ∧ OldOrNew w v v') ∧ w.grownBy w' v.ownBlock := by
  have HF := hf
  have HIE := Lib.hid (insB_eq bf x xs)
  have HNA := Lib.hid (show insN bf x xs = insA (fun k => (xs[k]?.map (bf x)).getD false) xs.length from rfl)
  have HNL := Lib.hid (insN_le bf x xs)
  have HSU := Lib.hid (insA_succ (fun k => (xs[k]?.map (bf x)).getD false))
  have HBL := Lib.hid (insB_len bf x xs)
  have HVB := Lib.hid (fun g e => (World.ownsRow.lt hx g e).2)
  have HSP := Lib.hid (fun (rest : List Value) (k : Nat) (hk : k ≤ xs.length) => flat_splice (cl := cl3) cl3_len xs x rest k hk)
  obtain ⟨a, b, c⟩ := x
  simp only at HF
  replace HF := Lib.hid HF
  obtain ⟨A, cp, rfl, hR⟩ := LstG.slice hx
  have HG0 := Lib.hid (show Gr w (w.alloc (.cells #[vi a, vi b, vi c] 60)) from (by repeat (first | with_reducible exact Gr.refl _ | with_reducible refine Gr.alloc ?_ _ | with_reducible refine Gr.gr ?_ _ _ | with_reducible refine Gr.drew ?_ | with_reducible refine Gr.drewN ?_ _)))
  have HR := Lib.hid (hR.gr HG0.out)
  have HX := Lib.hid (LstG.below hx HG0.out.below)
  have hs0 : (w.alloc (.cells #[vi a, vi b, vi c] 60)).heap.size = w.heap.size + 1 := by simp
  have HRW := Lib.hid (Row.new w 60 [vi a, vi b, vi c])
  obtain ⟨i0, hi, hz0, hz1, hz2⟩ := info_parts info_tick
  clear hf hR hx
  go_enter Tryd.func104, Tryd.ntmps104
  go_wp2
  replace HRW : Hid (Row (w.alloc (.cells #[vi a, vi b, vi c] 60)) w.heap.size 60 [vi a, vi b, vi c]) := HRW
  generalize w.alloc (.cells #[vi a, vi b, vi c] 60) = w0 at *
  have HQ0 := Lib.hid (fun W (h : Gr w0 W) => show W.cell? ⟨w.heap.size, 0, none⟩ = some (vi a) from (HRW.out.gr h).cell 0)
  have HQ1 := Lib.hid (fun W (h : Gr w0 W) => show W.cell? ⟨w.heap.size, 1, none⟩ = some (vi b) from (HRW.out.gr h).cell 1)
  have HQ2 := Lib.hid (fun W (h : Gr w0 W) => show W.cell? ⟨w.heap.size, 2, none⟩ = some (vi c) from (HRW.out.gr h).cell 2)
  go_loopw [7] (fun i wr => ∃ k : Nat, k ≤ xs.length ∧ i = .int .i64 k ∧ Hid (insN bf (a, b, c) xs = insA (fun k => (xs[k]?.map (bf (a, b, c))).getD false) k) ∧ Gr w0 wr) (fun i _ => (intOf i).toNat)
  case atStart => exact ⟨xs.length, Nat.le_refl _, rfl, HNA, Gr.refl _⟩
  case round =>
    obtain ⟨k, hk, rfl, hE, hG⟩ := hrel
    have hwk : IntKind.i64.wrap ((k : Int) + 1) = (k : Int) + 1 := IntWalk.i64_in _ (by omega)
    have q0 := HQ0.out wr hG
    have q1 := HQ1.out wr hG
    have q2 := HQ2.out wr hG
    have hblx := World.block_lt_of_cell? _ _ q0
    have HG := Lib.hid hG
    clear hG
    by_cases hk0 : k = 0
    · have HK := Lib.hid (show insN bf (a, b, c) xs = k from by rw [hE.out, hk0]; rfl)
      have hd0 : decide (0 < (k : Int)) = false := decide_eq_false (by omega)
      have hd1 : decide (0 < k) = false := decide_eq_false (by omega)
      have HK0 := Lib.hid hk0
      clear hk0
      go_wp2
      go_quiet (fail)
      have HGW := Lib.hid (HG.out.drewN nq)
      generalize wr.drewN nq = W at *
      have HXW := Lib.hid (LstG.below HX.out (Gr.below HGW.out))
      have r0 := HQ0.out _ HGW.out
      have r1 := HQ1.out _ HGW.out
      have r2 := HQ2.out _ HGW.out
      have hszW : w.heap.size + 1 ≤ W.heap.size := by have := HGW.out.below.size; omega
      go_wp2_with (at_builtin; refine wpList_append_ownB _ rfl _ _ 47 rfl B 60 i0 (.agg #[.int .i64 0, .int .i64 0, .int .i64 0]) 3 24 Tryd.underlying47 hi hz0 hz1 hz2 rfl (by decide) _ _ _ rfl (HXW.out.alloc _) ⟨W.heap.size, 0, none⟩ 1 1 [vi a, vi b, vi c] rfl rfl (three_cells_new _ _ _ _ _) (by simp [Value.oneCell']) (by omega) (by unfold maxLen; omega) (by omega) (by simp; omega) ?_; intro v' w4 hown' hgrow hblk; have hA2 := grownBy_trans (grownBy_gr (HGW.out.alloc _) _) hgrow; obtain ⟨g', cap', rest', rfl, hBg, hgl, hrow, hc1, hc2, hc3⟩ := LstG.grown (x := (a, b, c)) rfl hown'; obtain ⟨D1, E1, hS1, hD1⟩ := cut_from Tryd.underlying47 hi hz1 g' (xs.length + 1) cap' (k + 1) (by omega); obtain ⟨D2, E2, hS2, hD2⟩ := cut_from Tryd.underlying47 hi hz1 g' (xs.length + 1) cap' k (by omega); have HD1 := Lib.hid hD1; have HD2 := Lib.hid hD2; clear hD1 hD2; rw [show ((k + 1 : Nat) : Int) = (k : Int) + 1 from rfl] at hS1; have hown2 := oldNew_at HGW.out hblk; have HON := Lib.hid hown2; have HROW := Lib.hid hrow; have HA2 := Lib.hid hA2; clear hA2 hown' hgrow hrow hblk hown2)
      go_still_tail 7, (by kernel_rfl)
      change wpList _ _ _ _ _ w4.drew
      have HROW2 := Lib.hid (HROW.out.gr ((Gr.refl w4).drew))
      have HA3 := Lib.hid (grownBy_trans HA2.out (grownBy_gr ((Gr.refl w4).drew) _))
      clear HROW HA2 hgl hS1 hS2
      generalize w4.drew = w5 at *
      refine wpList_copy_spliceN rfl _ _ 47 47 rfl 60 Tryd.underlying47 3 (by kernel_rfl) _ _ _ _ _ _ rfl rfl g' ((k + 1) * 3) ((xs ++ [(a, b, c)]).flatMap cl3 ++ rest') 60 HROW2.out (xs.length - k) ((xs.drop k).flatMap cl3) (by change _ = min _ _; omega) (by rw [flat_len cl3_len, List.length_drop]) (fun h => ⟨by rw [HD1.out (by omega) hc1], ⟨g', k * 3, none⟩, by rw [HD2.out (by omega) hc1], flat_src cl3_len xs (a, b, c) rest' k hk HROW2.out⟩) (by rw [List.length_append, flat_len cl3_len, flat_len cl3_len, List.length_append, List.length_drop, List.length_singleton]; omega) (fun u hu => by obtain ⟨z, -, hz⟩ := List.mem_flatMap.1 hu; simp only [cl3, List.mem_cons, List.not_mem_nil, or_false] at hz; rcases hz with rfl | rfl | rfl <;> rfl) ?_
      intro w6 hs6 hb6
      have HB6 := Lib.hid (grownBy_own HA3.out HON.out hb6)
      obtain ⟨⟨ya, yb, yc⟩, hy'⟩ := HSP.out rest' k hk
      have HR6 := Lib.hid (show Row w6 g' 60 ((xs.take k).flatMap cl3 ++ ([vi ya, vi yb, vi yc] ++ ((xs.drop k).flatMap cl3 ++ rest'))) from by rw [show ([vi ya, vi yb, vi yc] : List Value) = cl3 (ya, yb, yc) from rfl, ← hy']; exact hs6.out)
      have hltk : ((xs.take k).flatMap cl3).length = k * 3 := by rw [flat_len cl3_len, List.length_take, Nat.min_eq_left hk]
      have A4 := at_three ((xs.take k).flatMap cl3) ((xs.drop k).flatMap cl3 ++ rest') (vi ya) (vi yb) (vi yc) (k * 3) hltk
      have c0 := (HR6.out.cell (k * 3)).trans A4.1
      have c1 := (HR6.out.cell (k * 3 + 1)).trans A4.2.1
      have c2 := (HR6.out.cell (k * 3 + 2)).trans A4.2.2
      have f0 := HR6.out.free (k * 3)
      have f1 := HR6.out.free (k * 3 + 1)
      have f2 := HR6.out.free (k * 3 + 2)
      have hl6 := HR6.out.lt
      have hne : some w.heap.size ≠ (Value.slice A xs.length cp).ownBlock := fun e => by have := HVB.out _ e.symm; omega
      have t0 := World.grownBy.cell HB6.out (HQ0.out _ (Gr.refl _)) hne
      have t1 := World.grownBy.cell HB6.out (HQ1.out _ (Gr.refl _)) hne
      have t2 := World.grownBy.cell HB6.out (HQ2.out _ (Gr.refl _)) hne
      have HS4 := Lib.hid (set_three ((xs.take k).flatMap cl3) ((xs.drop k).flatMap cl3 ++ rest') (vi ya) (vi yb) (vi yc) (vi a) (vi b) (vi c) (k * 3) hltk)
      have hkc : (k : Int) < ((xs.length + 1 : Nat) : Int) := by omega
      have hkc2 : (k : Int) < (xs.length : Int) + 1 := by omega
      clear hb6 hs6 hy' A4 hltk r0 r1 r2
      go_wp2
      go_ret
      refine ⟨⟨_, rfl, ?_, HON.out.imp Eq.symm (fun h => ⟨g', rfl, by omega⟩)⟩, ?_⟩
      · have h7 := ((HR6.out.set (k * 3) (vi a)).set (k * 3 + 1) (vi b)).set (k * 3 + 2) (vi c)
        rw [HS4.out] at h7
        have e7 : (xs.take k).flatMap cl3 ++ ([vi a, vi b, vi c] ++ ((xs.drop k).flatMap cl3 ++ rest')) = (insB bf (a, b, c) xs).flatMap cl3 ++ rest' := by
          rw [HIE.out, HK.out]
          simp
        rw [e7] at h7
        have h8 := LstG.of_row cl3_len hBg h7 hc2 (by rw [HBL.out]; exact hc1) (by rw [HBL.out]; exact hc3)
        rwa [HBL.out] at h8
      · exact grownBy_trans (grownBy_gr HG0.out _) (grownBy_own HB6.out HON.out (grownBy_trans (grownBy_trans (grownBy_cell _ _ _ _) (grownBy_cell _ _ _ _)) (grownBy_cell _ _ _ _)))
    · have hd0 : decide (0 < (k : Int)) = true := decide_eq_true (by omega)
      have hd1 : decide (0 < k) = true := decide_eq_true (by omega)
      have hk1 : 0 < k := by omega
      obtain ⟨y, hy⟩ := some_at (l := xs) (k := k - 1) (by omega)
      obtain ⟨gb, o, rfl, hg, y0, y1, y2⟩ := LstG.at3 (HR.out.gr HG.out) hy
      have hk2 : (1 : Int) ≤ (k : Int) := by omega
      have hk3 : (k : Int) - 1 < (xs.length : Int) := by omega
      have hwk2 : IntKind.i64.wrap ((k : Int) - 1) = (k : Int) - 1 := IntWalk.i64_in _ (by omega)
      have HC := Lib.hid (fun k0 os0 => HF.out (gr wr k0 os0) ((HG0.out.trans HG.out).gr k0 os0) y (List.mem_of_getElem? hy))
      have HS := Lib.hid (HSU.out (k - 1))
      rw [show k - 1 + 1 = k by omega] at HS
      simp only [hy, Option.map_some, Option.getD_some] at HS
      obtain ⟨ya, yb, yc⟩ := y
      simp only at y0 y1 y2
      clear hy hk0
      cases hb : bf (a, b, c) (ya, yb, yc)
      · rw [hb] at HS HC
        clear hb
        have HK := Lib.hid (show insN bf (a, b, c) xs = k from by rw [hE.out, HS.out]; rfl)
        go_wp2
        ((first | refine region_gr_on (by kernel_rfl) (by kernel_rfl) ?_ | refine region_gr (by kernel_rfl) (by kernel_rfl) ?_); (repeat (quiet_step (exact Calls.gr_of (HC.out _ _)))); refine wpQuiet_nil ?_; intro _ hw'; obtain ⟨⟨kq, oq⟩, hw''⟩ := hw'; subst hw'')
        have HGW := Lib.hid (HG.out.gr kq oq)
        simp only
        generalize gr wr kq oq = W at *
        clear y0 y1 y2 hg
        have HXW := Lib.hid (LstG.below HX.out (Gr.below HGW.out))
        have r0 := HQ0.out _ HGW.out
        have r1 := HQ1.out _ HGW.out
        have r2 := HQ2.out _ HGW.out
        have hszW : w.heap.size + 1 ≤ W.heap.size := by have := HGW.out.below.size; omega
        go_wp2_with (at_builtin; refine wpList_append_ownB _ rfl _ _ 47 rfl B 60 i0 (.agg #[.int .i64 0, .int .i64 0, .int .i64 0]) 3 24 Tryd.underlying47 hi hz0 hz1 hz2 rfl (by decide) _ _ _ rfl (HXW.out.alloc _) ⟨W.heap.size, 0, none⟩ 1 1 [vi a, vi b, vi c] rfl rfl (three_cells_new _ _ _ _ _) (by simp [Value.oneCell']) (by omega) (by unfold maxLen; omega) (by omega) (by simp; omega) ?_; intro v' w4 hown' hgrow hblk; have hA2 := grownBy_trans (grownBy_gr (HGW.out.alloc _) _) hgrow; obtain ⟨g', cap', rest', rfl, hBg, hgl, hrow, hc1, hc2, hc3⟩ := LstG.grown (x := (a, b, c)) rfl hown'; obtain ⟨D1, E1, hS1, hD1⟩ := cut_from Tryd.underlying47 hi hz1 g' (xs.length + 1) cap' (k + 1) (by omega); obtain ⟨D2, E2, hS2, hD2⟩ := cut_from Tryd.underlying47 hi hz1 g' (xs.length + 1) cap' k (by omega); have HD1 := Lib.hid hD1; have HD2 := Lib.hid hD2; clear hD1 hD2; rw [show ((k + 1 : Nat) : Int) = (k : Int) + 1 from rfl] at hS1; have hown2 := oldNew_at HGW.out hblk; have HON := Lib.hid hown2; have HROW := Lib.hid hrow; have HA2 := Lib.hid hA2; clear hA2 hown' hgrow hrow hblk hown2)
        go_still_tail 7, (by kernel_rfl)
        change wpList _ _ _ _ _ w4.drew
        have HROW2 := Lib.hid (HROW.out.gr ((Gr.refl w4).drew))
        have HA3 := Lib.hid (grownBy_trans HA2.out (grownBy_gr ((Gr.refl w4).drew) _))
        clear HROW HA2 hgl hS1 hS2
        generalize w4.drew = w5 at *
        refine wpList_copy_spliceN rfl _ _ 47 47 rfl 60 Tryd.underlying47 3 (by kernel_rfl) _ _ _ _ _ _ rfl rfl g' ((k + 1) * 3) ((xs ++ [(a, b, c)]).flatMap cl3 ++ rest') 60 HROW2.out (xs.length - k) ((xs.drop k).flatMap cl3) (by change _ = min _ _; omega) (by rw [flat_len cl3_len, List.length_drop]) (fun h => ⟨by rw [HD1.out (by omega) hc1], ⟨g', k * 3, none⟩, by rw [HD2.out (by omega) hc1], flat_src cl3_len xs (a, b, c) rest' k hk HROW2.out⟩) (by rw [List.length_append, flat_len cl3_len, flat_len cl3_len, List.length_append, List.length_drop, List.length_singleton]; omega) (fun u hu => by obtain ⟨z, -, hz⟩ := List.mem_flatMap.1 hu; simp only [cl3, List.mem_cons, List.not_mem_nil, or_false] at hz; rcases hz with rfl | rfl | rfl <;> rfl) ?_
        intro w6 hs6 hb6
        have HB6 := Lib.hid (grownBy_own HA3.out HON.out hb6)
        obtain ⟨⟨ya, yb, yc⟩, hy'⟩ := HSP.out rest' k hk
        have HR6 := Lib.hid (show Row w6 g' 60 ((xs.take k).flatMap cl3 ++ ([vi ya, vi yb, vi yc] ++ ((xs.drop k).flatMap cl3 ++ rest'))) from by rw [show ([vi ya, vi yb, vi yc] : List Value) = cl3 (ya, yb, yc) from rfl, ← hy']; exact hs6.out)
        have hltk : ((xs.take k).flatMap cl3).length = k * 3 := by rw [flat_len cl3_len, List.length_take, Nat.min_eq_left hk]
        have A4 := at_three ((xs.take k).flatMap cl3) ((xs.drop k).flatMap cl3 ++ rest') (vi ya) (vi yb) (vi yc) (k * 3) hltk
        have c0 := (HR6.out.cell (k * 3)).trans A4.1
        have c1 := (HR6.out.cell (k * 3 + 1)).trans A4.2.1
        have c2 := (HR6.out.cell (k * 3 + 2)).trans A4.2.2
        have f0 := HR6.out.free (k * 3)
        have f1 := HR6.out.free (k * 3 + 1)
        have f2 := HR6.out.free (k * 3 + 2)
        have hl6 := HR6.out.lt
        have hne : some w.heap.size ≠ (Value.slice (some ⟨gb, o, none⟩) xs.length cp).ownBlock := fun e => by have := HVB.out _ e.symm; omega
        have t0 := World.grownBy.cell HB6.out (HQ0.out _ (Gr.refl _)) hne
        have t1 := World.grownBy.cell HB6.out (HQ1.out _ (Gr.refl _)) hne
        have t2 := World.grownBy.cell HB6.out (HQ2.out _ (Gr.refl _)) hne
        have HS4 := Lib.hid (set_three ((xs.take k).flatMap cl3) ((xs.drop k).flatMap cl3 ++ rest') (vi ya) (vi yb) (vi yc) (vi a) (vi b) (vi c) (k * 3) hltk)
        have hkc : (k : Int) < ((xs.length + 1 : Nat) : Int) := by omega
        have hkc2 : (k : Int) < (xs.length : Int) + 1 := by omega
        clear hb6 hs6 hy' A4 hltk r0 r1 r2
        go_wp2
        go_ret
        refine ⟨⟨_, rfl, ?_, HON.out.imp Eq.symm (fun h => ⟨g', rfl, by omega⟩)⟩, ?_⟩
        · have h7 := ((HR6.out.set (k * 3) (vi a)).set (k * 3 + 1) (vi b)).set (k * 3 + 2) (vi c)
          rw [HS4.out] at h7
          have e7 : (xs.take k).flatMap cl3 ++ ([vi a, vi b, vi c] ++ ((xs.drop k).flatMap cl3 ++ rest')) = (insB bf (a, b, c) xs).flatMap cl3 ++ rest' := by
            rw [HIE.out, HK.out]
            simp
          rw [e7] at h7
          have h8 := LstG.of_row cl3_len hBg h7 hc2 (by rw [HBL.out]; exact hc1) (by rw [HBL.out]; exact hc3)
          rwa [HBL.out] at h8
        · exact grownBy_trans (grownBy_gr HG0.out _) (grownBy_own HB6.out HON.out (grownBy_trans (grownBy_trans (grownBy_cell _ _ _ _) (grownBy_cell _ _ _ _)) (grownBy_cell _ _ _ _)))
      · rw [hb] at HS HC
        clear hb
        go_wp2
        ((first | refine region_gr_on (by kernel_rfl) (by kernel_rfl) ?_ | refine region_gr (by kernel_rfl) (by kernel_rfl) ?_); (repeat (quiet_step (exact Calls.gr_of (HC.out _ _)))); refine wpQuiet_nil ?_; intro _ hw'; obtain ⟨⟨kq, oq⟩, hw''⟩ := hw'; subst hw'')
        go_wp2
        go_roundw
        case rel => exact ⟨k - 1, by omega, by congr 1; omega, Lib.hid (by rw [hE.out, HS.out]; rfl), HG.out.gr kq oq⟩
        case measure => simp [intOf]; omega
end Go.Proofs.YtggflladheemoaaDoor

/- Contracts of chapter 8: a tick of a mark; ticks before others; a tick put into a list, in the model. -/
namespace Go.Proofs.YtggflladheemoaaDoor
open Go.RowKit Go.Shelf Go.ChangeShapes Go.WideShapes Go.ChangeAt
set_option linter.unusedVariables false
set_option linter.unusedSimpArgs false

set_option maxRecDepth 100000 in
set_option maxHeartbeats 8000000 in
theorem tick_any (m p : Int) (w : World) (h0 : 0 ≤ m) (h1 : m ≤ 100000) (hH : Hts w) :
    Calls Tryd.prog 105 #[.agg #[.int .i64 m, .int .i64 p]] w fun e w' => e = .returned (.agg #[.int .i64 m, .int .i64 p, .int .i64 (hgt m)]) ∧ Gr w w' := by
  have HT := Lib.hid (fun W (h : Gr w W) => hgt_impl m W h0 h1 (hH.gr h))
  go_enter Tryd.func105, Tryd.ntmps105
  go_wp2
  go_region_law (go_simp; go_at_call 111; refine (HT.out _ (by repeat (first | with_reducible exact Gr.refl _ | with_reducible refine Gr.alloc ?_ _ | with_reducible refine Gr.gr ?_ _ _ | with_reducible refine Gr.drew ?_ | with_reducible refine Gr.drewN ?_ _))).mono ?_; rintro e w' ⟨rfl, rfl⟩)
  all_goals
    go_wp2
    ((try simp only [Exit.inBlock, Exit.then]); refine bodyPost_ret (v := .agg #[.int .i64 m, .int .i64 p, .int .i64 (hgt m)]) (by simp [results, Tryd.results105, go_sem]) rfl ?_)
    exact ⟨rfl, (by repeat (first | with_reducible exact Gr.refl _ | with_reducible refine Gr.alloc ?_ _ | with_reducible refine Gr.gr ?_ _ _ | with_reducible refine Gr.drew ?_ | with_reducible refine Gr.drewN ?_ _))⟩
/-- Ticks before others: by places, then by marks. -/
def bfT (x y : P3) : Bool := decide (x.2.1 < y.2.1 ∨ (x.2.1 = y.2.1 ∧ x.1 < y.1))
theorem before_any (x y : P3) (w : World) :
    Calls Tryd.prog 155 #[.agg #[vi x.1, vi x.2.1, vi x.2.2], .agg #[vi y.1, vi y.2.1, vi y.2.2]] w fun e w' => e = .returned (.bool (bfT x y)) ∧ Gr w w' := by
  have HB := Lib.hid (show bfT x y = decide (x.2.1 < y.2.1 ∨ (x.2.1 = y.2.1 ∧ x.1 < y.1)) from rfl)
  obtain ⟨a, b, c⟩ := x
  obtain ⟨a', b', c'⟩ := y
  simp only at HB
  by_cases h1 : b < b'
  · have HQ := Lib.hid (show bfT (a, b, c) (a', b', c') = true by rw [HB.out]; exact decide_eq_true (.inl h1))
    go_enter Tryd.func155, Tryd.ntmps155
    go_wp2
    go_ret
    exact ⟨ret_bool HQ.out.symm, (by repeat (first | with_reducible exact Gr.refl _ | with_reducible refine Gr.alloc ?_ _ | with_reducible refine Gr.gr ?_ _ _ | with_reducible refine Gr.drew ?_ | with_reducible refine Gr.drewN ?_ _))⟩
  by_cases h2 : b = b'
  · subst h2
    by_cases h3 : a < a'
    · have HQ := Lib.hid (show bfT (a, b, c) (a', b, c') = true by rw [HB.out]; exact decide_eq_true (.inr ⟨rfl, h3⟩))
      go_enter Tryd.func155, Tryd.ntmps155
      go_wp2
      go_ret
      exact ⟨ret_bool HQ.out.symm, (by repeat (first | with_reducible exact Gr.refl _ | with_reducible refine Gr.alloc ?_ _ | with_reducible refine Gr.gr ?_ _ _ | with_reducible refine Gr.drew ?_ | with_reducible refine Gr.drewN ?_ _))⟩
    · have HQ := Lib.hid (show bfT (a, b, c) (a', b, c') = false by rw [HB.out]; exact decide_eq_false (fun h => by rcases h with h | h; exact h1 h; exact h3 h.2))
      have hd3 : decide (a < a') = false := decide_eq_false h3
      go_enter Tryd.func155, Tryd.ntmps155
      go_wp2
      go_ret
      exact ⟨ret_bool HQ.out.symm, (by repeat (first | with_reducible exact Gr.refl _ | with_reducible refine Gr.alloc ?_ _ | with_reducible refine Gr.gr ?_ _ _ | with_reducible refine Gr.drew ?_ | with_reducible refine Gr.drewN ?_ _))⟩
  · have HQ := Lib.hid (show bfT (a, b, c) (a', b', c') = false by rw [HB.out]; exact decide_eq_false (fun h => by rcases h with h | h; exact h1 h; exact h2 h.1))
    have hd2 : (b == b') = false := by simpa using h2
    go_enter Tryd.func155, Tryd.ntmps155
    go_wp2
    go_ret
    exact ⟨ret_bool HQ.out.symm, (by repeat (first | with_reducible exact Gr.refl _ | with_reducible refine Gr.alloc ?_ _ | with_reducible refine Gr.gr ?_ _ _ | with_reducible refine Gr.drew ?_ | with_reducible refine Gr.drewN ?_ _))⟩
end Go.Proofs.YtggflladheemoaaDoor

/- Contracts of chapter 8: a tick put into a list, in the model. -/
namespace Go.Proofs.YtggflladheemoaaDoor
open Go.RowKit Go.Shelf Go.ChangeShapes Go.WideShapes Go.ChangeAt
set_option linter.unusedVariables false
set_option linter.unusedSimpArgs false

/-- An empty list of the call's own. -/
theorem emptyT {W : World} {T : TypeId} {B b : Nat} (hB : B ≤ b) (h : W.heap[b]? = some (.cells #[] T (0, 0))) : W.ownsRow B T 3 (.slice (some ⟨b, 0, none⟩) 0 0) 0 [] :=
  ⟨rfl, .inr ⟨b, 0, #[], rfl, hB, h, Nat.le_refl _, Nat.zero_le _, rfl, rfl⟩⟩

theorem cl3_one {xs : List P3} {u : Value} (h : u ∈ xs.flatMap cl3) : u.oneCell' = true := by
  obtain ⟨z, -, hz⟩ := List.mem_flatMap.1 h
  simp only [cl3, List.mem_cons, List.not_mem_nil, or_false] at hz
  rcases hz with rfl | rfl | rfl <;> rfl
set_option maxRecDepth 100000 in
set_option maxHeartbeats 16000000 in
theorem put_any (g cap n : Nat) (rest : List Value) (xs : List P3) (t : P3) (w : World) (hn : xs.length = n) (hN : n ≤ 100000) (hcap : n ≤ cap) (hR : Row w g 60 (xs.flatMap cl3 ++ rest)) :
    Calls Tryd.prog 107 #[.slice (some ⟨g, 0, none⟩) n cap, .agg #[vi t.1, vi t.2.1, vi t.2.2]] w fun e w' => (∃ v, e = .returned v ∧ LstT w' w.heap.size v (insB bfT t xs)) ∧ Below w.heap.size w w' := by
  have HIE := Lib.hid (insB_eq bfT t xs)
  have HNA := Lib.hid (show insN bfT t xs = insA (fun k => (xs[k]?.map (bfT t)).getD false) n by rw [← hn]; rfl)
  have HSU := Lib.hid (insA_succ (fun k => (xs[k]?.map (bfT t)).getD false))
  have HBL := Lib.hid (insB_len bfT t xs)
  have HL := Lib.hid hn
  have HF := fun (y : P3) W => before_any t y W
  obtain ⟨a, b, c⟩ := t
  simp only at HF
  replace HF := Lib.hid HF
  have HG0 := Lib.hid (show Gr w (w.alloc (.cells #[vi a, vi b, vi c] 60)) from (by repeat (first | with_reducible exact Gr.refl _ | with_reducible refine Gr.alloc ?_ _ | with_reducible refine Gr.gr ?_ _ _ | with_reducible refine Gr.drew ?_ | with_reducible refine Gr.drewN ?_ _)))
  have HR := Lib.hid (hR.gr HG0.out)
  have hs0 : (w.alloc (.cells #[vi a, vi b, vi c] 60)).heap.size = w.heap.size + 1 := by simp
  have HRW := Lib.hid (Row.new w 60 [vi a, vi b, vi c])
  have hgw := hR.lt
  obtain ⟨i0, hi, hz0, hz1, hz2⟩ := info_parts info_tick
  clear hR hn
  go_enter Tryd.func107, Tryd.ntmps107
  go_wp2
  replace HRW : Hid (Row (w.alloc (.cells #[vi a, vi b, vi c] 60)) w.heap.size 60 [vi a, vi b, vi c]) := HRW
  generalize w.alloc (.cells #[vi a, vi b, vi c] 60) = w0 at *
  have HQ0 := Lib.hid (fun W (h : Gr w0 W) => show W.cell? ⟨w.heap.size, 0, none⟩ = some (vi a) from (HRW.out.gr h).cell 0)
  have HQ1 := Lib.hid (fun W (h : Gr w0 W) => show W.cell? ⟨w.heap.size, 1, none⟩ = some (vi b) from (HRW.out.gr h).cell 1)
  have HQ2 := Lib.hid (fun W (h : Gr w0 W) => show W.cell? ⟨w.heap.size, 2, none⟩ = some (vi c) from (HRW.out.gr h).cell 2)
  go_loopw [5] (fun i wr => ∃ k : Nat, k ≤ n ∧ i = .int .i64 k ∧ Hid (insN bfT (a, b, c) xs = insA (fun k => (xs[k]?.map (bfT (a, b, c))).getD false) k) ∧ Gr w0 wr) (fun i _ => (intOf i).toNat)
  case atStart => exact ⟨n, Nat.le_refl _, rfl, HNA, Gr.refl _⟩
  case round =>
    obtain ⟨k, hk, rfl, hE, hG⟩ := hrel
    have q0 := HQ0.out wr hG
    have q1 := HQ1.out wr hG
    have q2 := HQ2.out wr hG
    have hblx := World.block_lt_of_cell? _ _ q0
    have HG := Lib.hid hG
    clear hG
    by_cases hk0 : k = 0
    · have HK := Lib.hid (show insN bfT (a, b, c) xs = k from by rw [hE.out, hk0]; rfl)
      have hd0 : decide (0 < (k : Int)) = false := decide_eq_false (by omega)
      have hd1 : decide (0 < k) = false := decide_eq_false (by omega)
      have HK0 := Lib.hid hk0
      clear hk0
      go_wp2
      go_quiet (fail)
      have HGW := Lib.hid (HG.out.drewN nq)
      clear q0 q1 q2 hblx
      generalize wr.drewN nq = W at *
      have r0 := HQ0.out _ HGW.out
      have r1 := HQ1.out _ HGW.out
      have r2 := HQ2.out _ HGW.out
      have hbW : w.heap.size < W.heap.size := World.block_lt_of_cell? _ _ r0
      have hgW : g < W.heap.size := by have := HGW.out.below.size; omega
      have hgW2 : w.heap.size ≤ W.heap.size := Nat.le_of_lt hbW
      have hkc : (k : Int) ≤ (cap : Int) := by omega
      have hkn : (k : Int) ≤ (n : Int) := by omega
      have hk00 : (0 : Int) ≤ (k : Int) := by omega
      obtain ⟨o2, E2, hS2, hD2⟩ := cut_at Tryd.underlying47 hi hz1 g n cap k hk
      have HD2 := Lib.hid (fun h => hD2 h hcap)
      have HRW2 := Lib.hid (HR.out.gr HGW.out)
      have HTL := Lib.hid (show ((xs.take k).flatMap cl3).length = k * 3 by rw [flat_len cl3_len, List.length_take, HL.out, Nat.min_eq_left hk])
      have HDL := Lib.hid (show ((xs.drop k).flatMap cl3).length = (n - k) * 3 by rw [flat_len cl3_len, List.length_drop, HL.out])
      have HTC := Lib.hid (fun (q : Nat) (u : Value) (hq : ((xs.take k).flatMap cl3)[q]? = some u) W' (hb : Below W.heap.size W W') => show W'.cell? ((⟨g, 0, none⟩ : Addr).add q) = some u from by
        rw [add_plain, Nat.zero_add, (hb.cell (p := ⟨g, q, none⟩) hgW), HRW2.out.cell]
        rw [← flat_take cl3_len xs k (by rw [HL.out]; exact hk), List.getElem?_take] at hq
        split at hq
        · obtain ⟨hl, -⟩ := List.getElem?_eq_some_iff.1 hq
          rw [List.getElem?_append_left hl]
          exact hq
        · cases hq)
      have HDC := Lib.hid (fun (h : 0 < n - k) (q : Nat) (u : Value) (hq : ((xs.drop k).flatMap cl3)[q]? = some u) W' (hb : Below W.heap.size W W') => show W'.cell? ((⟨g, o2, none⟩ : Addr).add q) = some u from by
        rw [HD2.out (by omega), add_plain, (hb.cell (p := ⟨g, k * 3 + q, none⟩) hgW), HRW2.out.cell]
        rw [← flat_drop cl3_len xs k (by rw [HL.out]; exact hk), List.getElem?_drop] at hq
        obtain ⟨hl, -⟩ := List.getElem?_eq_some_iff.1 hq
        rw [List.getElem?_append_left hl]
        exact hq)
      have hsz1 : (W.alloc (.cells #[] 60)).heap.size = W.heap.size + 1 := by simp
      have hsz2 : (W.alloc (.cells #[vi a, vi b, vi c] 60)).heap.size = W.heap.size + 1 := by simp
      have F1 := Lib.hid (emptyT (W := (W.alloc (.cells #[] 60)).drew) (T := 60) (B := W.heap.size) (b := W.heap.size) (Nat.le_refl _) (heap_alloc_new W _))
      have F2 := Lib.hid (emptyT (W := ((W.alloc (.cells #[] 60)).alloc (.cells #[vi a, vi b, vi c] 60)).drew) (T := 60) (B := W.heap.size) (b := W.heap.size) (Nat.le_refl _) ((Below.heap_alloc (W.alloc (.cells #[] 60)) _ _ (by omega)).trans (heap_alloc_new W _)))
      have F3 := Lib.hid (emptyT (W := ((W.alloc (.cells #[vi a, vi b, vi c] 60)).alloc (.cells #[] 60)).drew) (T := 60) (B := W.heap.size) (b := W.heap.size + 1) (by omega) (by rw [← hsz2]; exact heap_alloc_new _ _))
      have T2 := Lib.hid (fun q u (hq : [vi a, vi b, vi c][q]? = some u) => show (((W.alloc (.cells #[] 60)).alloc (.cells #[vi a, vi b, vi c] 60)).drew).cell? ((⟨W.heap.size + 1, 0, none⟩ : Addr).add q) = some u from by rw [← hsz1]; exact three_cells_new _ _ _ _ _ q u hq)
      have T3 := Lib.hid (fun q u (hq : [vi a, vi b, vi c][q]? = some u) => show (((W.alloc (.cells #[vi a, vi b, vi c] 60)).alloc (.cells #[] 60)).drew).cell? ((⟨W.heap.size, 0, none⟩ : Addr).add q) = some u from (World.cell?_of_block (by rw [add_plain]; exact Below.heap_alloc (W.alloc (.cells #[vi a, vi b, vi c] 60)) _ W.heap.size (by omega))).trans (three_cells_new W _ _ _ _ q u hq))
      clear r0 r1 r2 hsz1 hsz2
      have HQQ := Lib.hid (fun W' (hb : Below W.heap.size W W') => show (W'.cell? ⟨w.heap.size, 0, none⟩ = some (vi a) ∧ W'.cell? ⟨w.heap.size, 1, none⟩ = some (vi b)) ∧ W'.cell? ⟨w.heap.size, 2, none⟩ = some (vi c) from ⟨⟨(hb.cell (p := ⟨w.heap.size, 0, none⟩) hbW).trans (HQ0.out _ HGW.out), (hb.cell (p := ⟨w.heap.size, 1, none⟩) hbW).trans (HQ1.out _ HGW.out)⟩, (hb.cell (p := ⟨w.heap.size, 2, none⟩) hbW).trans (HQ2.out _ HGW.out)⟩)
      obtain ⟨⟨z00, z01⟩, z02⟩ := HQQ.out (W.drew) (Gr.below (by repeat (first | with_reducible exact Gr.refl _ | with_reducible refine Gr.alloc ?_ _ | with_reducible refine Gr.gr ?_ _ _ | with_reducible refine Gr.drew ?_ | with_reducible refine Gr.drewN ?_ _)))
      obtain ⟨⟨z10, z11⟩, z12⟩ := HQQ.out ((W.alloc (.cells #[] 60)).drew) (Gr.below (by repeat (first | with_reducible exact Gr.refl _ | with_reducible refine Gr.alloc ?_ _ | with_reducible refine Gr.gr ?_ _ _ | with_reducible refine Gr.drew ?_ | with_reducible refine Gr.drewN ?_ _)))
      go_wp2
      go_region_law (first
        | (refine step_append_own9 rfl _ _ 47 rfl W.heap.size 60 i0 (.agg #[.int .i64 0, .int .i64 0, .int .i64 0]) 3 24 Tryd.underlying47 hi hz0 hz1 hz2 rfl (by decide) _ _ _ rfl F1.out ⟨g, 0, none⟩ k cap ((xs.take k).flatMap cl3) rfl HTL.out (fun _ q u hq => HTC.out q u hq _ (Gr.below (by repeat (first | with_reducible exact Gr.refl _ | with_reducible refine Gr.alloc ?_ _ | with_reducible refine Gr.gr ?_ _ _ | with_reducible refine Gr.drew ?_ | with_reducible refine Gr.drewN ?_ _)))) (fun u hu => cl3_one hu) (by unfold maxLen; omega) (by omega) (Gr.below (show Gr W _ from (by repeat (first | with_reducible exact Gr.refl _ | with_reducible refine Gr.alloc ?_ _ | with_reducible refine Gr.gr ?_ _ _ | with_reducible refine Gr.drew ?_ | with_reducible refine Gr.drewN ?_ _)))).size ?_; intro v4 w4 hown4 hgr4'; have hgr4 : World.grownBy _ w4 (some W.heap.size) := hgr4'; clear hgr4'; have HV4 := Lib.hid hown4; have HB4 := Lib.hid ((Gr.below (show Gr W _ from (by repeat (first | with_reducible exact Gr.refl _ | with_reducible refine Gr.alloc ?_ _ | with_reducible refine Gr.gr ?_ _ _ | with_reducible refine Gr.drew ?_ | with_reducible refine Gr.drewN ?_ _)))).grown hgr4 (Gr.below (show Gr W _ from (by repeat (first | with_reducible exact Gr.refl _ | with_reducible refine Gr.alloc ?_ _ | with_reducible refine Gr.gr ?_ _ _ | with_reducible refine Gr.drew ?_ | with_reducible refine Gr.drewN ?_ _)))).size (fun q hq => by injection hq with hq; have hq2 : W.heap.size = q := hq; omega)); obtain ⟨⟨s0, s1⟩, s2⟩ := HQQ.out w4 HB4.out; clear hown4 hgr4)
        | (refine step_append_own9 rfl _ _ 47 rfl W.heap.size 60 i0 (.agg #[.int .i64 0, .int .i64 0, .int .i64 0]) 3 24 Tryd.underlying47 hi hz0 hz1 hz2 rfl (by decide) _ _ _ rfl F2.out ⟨g, 0, none⟩ k cap ((xs.take k).flatMap cl3) rfl HTL.out (fun _ q u hq => HTC.out q u hq _ (Gr.below (by repeat (first | with_reducible exact Gr.refl _ | with_reducible refine Gr.alloc ?_ _ | with_reducible refine Gr.gr ?_ _ _ | with_reducible refine Gr.drew ?_ | with_reducible refine Gr.drewN ?_ _)))) (fun u hu => cl3_one hu) (by unfold maxLen; omega) (by omega) (Gr.below (show Gr W _ from (by repeat (first | with_reducible exact Gr.refl _ | with_reducible refine Gr.alloc ?_ _ | with_reducible refine Gr.gr ?_ _ _ | with_reducible refine Gr.drew ?_ | with_reducible refine Gr.drewN ?_ _)))).size ?_; intro v4 w4 hown4 hgr4'; have hgr4 : World.grownBy _ w4 (some W.heap.size) := hgr4'; clear hgr4'; have HV4 := Lib.hid hown4; have HB4 := Lib.hid ((Gr.below (show Gr W _ from (by repeat (first | with_reducible exact Gr.refl _ | with_reducible refine Gr.alloc ?_ _ | with_reducible refine Gr.gr ?_ _ _ | with_reducible refine Gr.drew ?_ | with_reducible refine Gr.drewN ?_ _)))).grown hgr4 (Gr.below (show Gr W _ from (by repeat (first | with_reducible exact Gr.refl _ | with_reducible refine Gr.alloc ?_ _ | with_reducible refine Gr.gr ?_ _ _ | with_reducible refine Gr.drew ?_ | with_reducible refine Gr.drewN ?_ _)))).size (fun q hq => by injection hq with hq; have hq2 : W.heap.size = q := hq; omega)); have HT4 := Lib.hid (fun q u (hq : [vi a, vi b, vi c][q]? = some u) => show w4.cell? ((⟨W.heap.size + 1, 0, none⟩ : Addr).add q) = some u from (World.cell?_of_block (w := ((W.alloc (.cells #[] 60)).alloc (.cells #[vi a, vi b, vi c] 60)).drew) (w' := w4) (show w4.heap[((⟨W.heap.size + 1, 0, none⟩ : Addr).add q).block]? = _ from by rw [add_plain]; exact hgr4.block (W.heap.size + 1) (by simp) (by simp))).trans (T2.out q u hq)); clear hown4 hgr4)
        | (refine step_append_own9 rfl _ _ 47 rfl W.heap.size 60 i0 (.agg #[.int .i64 0, .int .i64 0, .int .i64 0]) 3 24 Tryd.underlying47 hi hz0 hz1 hz2 rfl (by decide) _ _ _ rfl F3.out ⟨g, 0, none⟩ k cap ((xs.take k).flatMap cl3) rfl HTL.out (fun _ q u hq => HTC.out q u hq _ (Gr.below (by repeat (first | with_reducible exact Gr.refl _ | with_reducible refine Gr.alloc ?_ _ | with_reducible refine Gr.gr ?_ _ _ | with_reducible refine Gr.drew ?_ | with_reducible refine Gr.drewN ?_ _)))) (fun u hu => cl3_one hu) (by unfold maxLen; omega) (by omega) (Gr.below (show Gr W _ from (by repeat (first | with_reducible exact Gr.refl _ | with_reducible refine Gr.alloc ?_ _ | with_reducible refine Gr.gr ?_ _ _ | with_reducible refine Gr.drew ?_ | with_reducible refine Gr.drewN ?_ _)))).size ?_; intro v4 w4 hown4 hgr4'; have hgr4 : World.grownBy _ w4 (some (W.heap.size + 1)) := hgr4'; clear hgr4'; have HV4 := Lib.hid hown4; have HB4 := Lib.hid ((Gr.below (show Gr W _ from (by repeat (first | with_reducible exact Gr.refl _ | with_reducible refine Gr.alloc ?_ _ | with_reducible refine Gr.gr ?_ _ _ | with_reducible refine Gr.drew ?_ | with_reducible refine Gr.drewN ?_ _)))).grown hgr4 (Gr.below (show Gr W _ from (by repeat (first | with_reducible exact Gr.refl _ | with_reducible refine Gr.alloc ?_ _ | with_reducible refine Gr.gr ?_ _ _ | with_reducible refine Gr.drew ?_ | with_reducible refine Gr.drewN ?_ _)))).size (fun q hq => by injection hq with hq; have hq2 : W.heap.size + 1 = q := hq; omega)); have HT4 := Lib.hid (fun q u (hq : [vi a, vi b, vi c][q]? = some u) => show w4.cell? ((⟨W.heap.size, 0, none⟩ : Addr).add q) = some u from (World.cell?_of_block (w := ((W.alloc (.cells #[vi a, vi b, vi c] 60)).alloc (.cells #[] 60)).drew) (w' := w4) (show w4.heap[((⟨W.heap.size, 0, none⟩ : Addr).add q).block]? = _ from by rw [add_plain]; exact hgr4.block W.heap.size (Nat.lt_of_lt_of_le (Nat.lt_succ_self _) (by simp)) (by simp))).trans (T3.out q u hq)); clear hown4 hgr4)
        | (refine step_append_own9 rfl _ _ 47 rfl W.heap.size 60 i0 (.agg #[.int .i64 0, .int .i64 0, .int .i64 0]) 3 24 Tryd.underlying47 hi hz0 hz1 hz2 rfl (by decide) _ _ _ rfl (World.ownsRow.alloc HV4.out _) _ 1 1 [vi a, vi b, vi c] rfl rfl (fun _ => three_cells_new _ _ _ _ _) (by simp [Value.oneCell']) (by unfold maxLen; omega) (by omega) (Nat.le_trans HB4.out.size (by simp)) ?_; intro v5 w5 hown5 hgr5; have HV5 := Lib.hid hown5; have HB5 := Lib.hid ((Below.alloc HB4.out HB4.out.size _).grown hgr5 (Nat.le_trans HB4.out.size (by simp)) (fun q hq => (World.ownsRow.lt HV4.out q hq).1)); clear hown5 hgr5)
        | (refine step_append_own9 rfl _ _ 47 rfl W.heap.size 60 i0 (.agg #[.int .i64 0, .int .i64 0, .int .i64 0]) 3 24 Tryd.underlying47 hi hz0 hz1 hz2 rfl (by decide) _ _ _ rfl HV4.out _ 1 1 [vi a, vi b, vi c] rfl rfl (fun _ => HT4.out) (by simp [Value.oneCell']) (by unfold maxLen; omega) (by omega) HB4.out.size ?_; intro v5 w5 hown5 hgr5; have HV5 := Lib.hid hown5; have HB5 := Lib.hid (HB4.out.grown hgr5 HB4.out.size (fun q hq => (World.ownsRow.lt HV4.out q hq).1)); clear hown5 hgr5)
        | (refine step_append_own9 rfl _ _ 47 rfl W.heap.size 60 i0 (.agg #[.int .i64 0, .int .i64 0, .int .i64 0]) 3 24 Tryd.underlying47 hi hz0 hz1 hz2 rfl (by decide) _ _ _ rfl HV5.out ⟨g, o2, none⟩ (n - k) E2 ((xs.drop k).flatMap cl3) rfl HDL.out (fun h q u hq => HDC.out h q u hq _ HB5.out) (fun u hu => cl3_one hu) (by unfold maxLen; omega) (by omega) HB5.out.size ?_; intro v6 w6 hown6 hgr6; have HV6 := Lib.hid hown6; have HB6 := Lib.hid (HB5.out.grown hgr6 HB5.out.size (fun q hq => (World.ownsRow.lt HV5.out q hq).1)); clear hown6 hgr6))
      all_goals
        have HF6 := Lib.hid (show LstT w6 w.heap.size v6 (insB bfT (a, b, c) xs) from by
          have h9 := World.ownsRow.mono HV6.out hgW2
          have e1 : 0 + k + 1 + (n - k) = (insB bfT (a, b, c) xs).length := by rw [HBL.out, HL.out]; omega
          have e2 : [] ++ (xs.take k).flatMap cl3 ++ [vi a, vi b, vi c] ++ (xs.drop k).flatMap cl3 = (insB bfT (a, b, c) xs).flatMap cl3 := by
            rw [HIE.out, HK.out]
            simp
          rw [e1, e2] at h9
          exact h9)
        have HBZ := Lib.hid ((HG0.out.trans HGW.out).below.trans (HB6.out.mono hgW2))
        go_wp2
        go_ret
        exact ⟨⟨_, rfl, HF6.out⟩, HBZ.out⟩
    · have hd0 : decide (0 < (k : Int)) = true := decide_eq_true (by omega)
      have hd1 : decide (0 < k) = true := decide_eq_true (by omega)
      have hk1 : 0 < k := by omega
      obtain ⟨y, hy⟩ := some_at (l := xs) (k := k - 1) (by rw [HL.out]; omega)
      have HRr := (HR.out.gr HG.out)
      obtain ⟨g2, o2, eg, hg, y0, y1, y2⟩ := LstG.at3 (xs := xs) (show Reads wr wr.heap.size (some ⟨g, 0, none⟩) (xs.flatMap cl3) from by
        intro j hj
        obtain ⟨g2, o2, e2, l2, c2⟩ := HRr.reads j (by rw [List.length_append]; omega)
        exact ⟨g2, o2, e2, l2, by rw [c2, List.getElem_append_left hj]⟩) hy
      injection eg with eg
      injection eg with eg1 eg2
      subst eg1 eg2
      rw [Nat.zero_add] at y0 y1 y2
      have hk2 : (1 : Int) ≤ (k : Int) := by omega
      have hk3 : (k : Int) - 1 < (n : Int) := by omega
      have hwk2 : IntKind.i64.wrap ((k : Int) - 1) = (k : Int) - 1 := IntWalk.i64_in _ (by omega)
      have HC := Lib.hid (fun W => HF.out y W)
      have HS := Lib.hid (HSU.out (k - 1))
      rw [show k - 1 + 1 = k by omega] at HS
      simp only [hy, Option.map_some, Option.getD_some] at HS
      obtain ⟨ya, yb, yc⟩ := y
      simp only at y0 y1 y2
      clear hy hk0 HRr
      cases hb : bfT (a, b, c) (ya, yb, yc)
      · rw [hb] at HS HC
        clear hb
        have HK := Lib.hid (show insN bfT (a, b, c) xs = k from by rw [hE.out, HS.out]; rfl)
        go_wp2
        ((first | refine region_gr_on (by kernel_rfl) (by kernel_rfl) ?_ | refine region_gr (by kernel_rfl) (by kernel_rfl) ?_); (repeat (quiet_step (exact Calls.gr_of (HC.out _)))); refine wpQuiet_nil ?_; intro _ hw'; obtain ⟨⟨kq, oq⟩, hw''⟩ := hw'; subst hw'')
        have HGW := Lib.hid (HG.out.gr kq oq)
        simp only
        clear y0 y1 y2 hg q0 q1 q2 hblx
        generalize gr wr kq oq = W at *
        have r0 := HQ0.out _ HGW.out
        have r1 := HQ1.out _ HGW.out
        have r2 := HQ2.out _ HGW.out
        have hbW : w.heap.size < W.heap.size := World.block_lt_of_cell? _ _ r0
        have hgW : g < W.heap.size := by have := HGW.out.below.size; omega
        have hgW2 : w.heap.size ≤ W.heap.size := Nat.le_of_lt hbW
        have hkc : (k : Int) ≤ (cap : Int) := by omega
        have hkn : (k : Int) ≤ (n : Int) := by omega
        have hk00 : (0 : Int) ≤ (k : Int) := by omega
        obtain ⟨o2, E2, hS2, hD2⟩ := cut_at Tryd.underlying47 hi hz1 g n cap k hk
        have HD2 := Lib.hid (fun h => hD2 h hcap)
        have HRW2 := Lib.hid (HR.out.gr HGW.out)
        have HTL := Lib.hid (show ((xs.take k).flatMap cl3).length = k * 3 by rw [flat_len cl3_len, List.length_take, HL.out, Nat.min_eq_left hk])
        have HDL := Lib.hid (show ((xs.drop k).flatMap cl3).length = (n - k) * 3 by rw [flat_len cl3_len, List.length_drop, HL.out])
        have HTC := Lib.hid (fun (q : Nat) (u : Value) (hq : ((xs.take k).flatMap cl3)[q]? = some u) W' (hb : Below W.heap.size W W') => show W'.cell? ((⟨g, 0, none⟩ : Addr).add q) = some u from by
          rw [add_plain, Nat.zero_add, (hb.cell (p := ⟨g, q, none⟩) hgW), HRW2.out.cell]
          rw [← flat_take cl3_len xs k (by rw [HL.out]; exact hk), List.getElem?_take] at hq
          split at hq
          · obtain ⟨hl, -⟩ := List.getElem?_eq_some_iff.1 hq
            rw [List.getElem?_append_left hl]
            exact hq
          · cases hq)
        have HDC := Lib.hid (fun (h : 0 < n - k) (q : Nat) (u : Value) (hq : ((xs.drop k).flatMap cl3)[q]? = some u) W' (hb : Below W.heap.size W W') => show W'.cell? ((⟨g, o2, none⟩ : Addr).add q) = some u from by
          rw [HD2.out (by omega), add_plain, (hb.cell (p := ⟨g, k * 3 + q, none⟩) hgW), HRW2.out.cell]
          rw [← flat_drop cl3_len xs k (by rw [HL.out]; exact hk), List.getElem?_drop] at hq
          obtain ⟨hl, -⟩ := List.getElem?_eq_some_iff.1 hq
          rw [List.getElem?_append_left hl]
          exact hq)
        have hsz1 : (W.alloc (.cells #[] 60)).heap.size = W.heap.size + 1 := by simp
        have hsz2 : (W.alloc (.cells #[vi a, vi b, vi c] 60)).heap.size = W.heap.size + 1 := by simp
        have F1 := Lib.hid (emptyT (W := (W.alloc (.cells #[] 60)).drew) (T := 60) (B := W.heap.size) (b := W.heap.size) (Nat.le_refl _) (heap_alloc_new W _))
        have F2 := Lib.hid (emptyT (W := ((W.alloc (.cells #[] 60)).alloc (.cells #[vi a, vi b, vi c] 60)).drew) (T := 60) (B := W.heap.size) (b := W.heap.size) (Nat.le_refl _) ((Below.heap_alloc (W.alloc (.cells #[] 60)) _ _ (by omega)).trans (heap_alloc_new W _)))
        have F3 := Lib.hid (emptyT (W := ((W.alloc (.cells #[vi a, vi b, vi c] 60)).alloc (.cells #[] 60)).drew) (T := 60) (B := W.heap.size) (b := W.heap.size + 1) (by omega) (by rw [← hsz2]; exact heap_alloc_new _ _))
        have T2 := Lib.hid (fun q u (hq : [vi a, vi b, vi c][q]? = some u) => show (((W.alloc (.cells #[] 60)).alloc (.cells #[vi a, vi b, vi c] 60)).drew).cell? ((⟨W.heap.size + 1, 0, none⟩ : Addr).add q) = some u from by rw [← hsz1]; exact three_cells_new _ _ _ _ _ q u hq)
        have T3 := Lib.hid (fun q u (hq : [vi a, vi b, vi c][q]? = some u) => show (((W.alloc (.cells #[vi a, vi b, vi c] 60)).alloc (.cells #[] 60)).drew).cell? ((⟨W.heap.size, 0, none⟩ : Addr).add q) = some u from (World.cell?_of_block (by rw [add_plain]; exact Below.heap_alloc (W.alloc (.cells #[vi a, vi b, vi c] 60)) _ W.heap.size (by omega))).trans (three_cells_new W _ _ _ _ q u hq))
        clear r0 r1 r2 hsz1 hsz2
        have HQQ := Lib.hid (fun W' (hb : Below W.heap.size W W') => show (W'.cell? ⟨w.heap.size, 0, none⟩ = some (vi a) ∧ W'.cell? ⟨w.heap.size, 1, none⟩ = some (vi b)) ∧ W'.cell? ⟨w.heap.size, 2, none⟩ = some (vi c) from ⟨⟨(hb.cell (p := ⟨w.heap.size, 0, none⟩) hbW).trans (HQ0.out _ HGW.out), (hb.cell (p := ⟨w.heap.size, 1, none⟩) hbW).trans (HQ1.out _ HGW.out)⟩, (hb.cell (p := ⟨w.heap.size, 2, none⟩) hbW).trans (HQ2.out _ HGW.out)⟩)
        obtain ⟨⟨z00, z01⟩, z02⟩ := HQQ.out (W.drew) (Gr.below (by repeat (first | with_reducible exact Gr.refl _ | with_reducible refine Gr.alloc ?_ _ | with_reducible refine Gr.gr ?_ _ _ | with_reducible refine Gr.drew ?_ | with_reducible refine Gr.drewN ?_ _)))
        obtain ⟨⟨z10, z11⟩, z12⟩ := HQQ.out ((W.alloc (.cells #[] 60)).drew) (Gr.below (by repeat (first | with_reducible exact Gr.refl _ | with_reducible refine Gr.alloc ?_ _ | with_reducible refine Gr.gr ?_ _ _ | with_reducible refine Gr.drew ?_ | with_reducible refine Gr.drewN ?_ _)))
        go_wp2
        go_region_law (first
          | (refine step_append_own9 rfl _ _ 47 rfl W.heap.size 60 i0 (.agg #[.int .i64 0, .int .i64 0, .int .i64 0]) 3 24 Tryd.underlying47 hi hz0 hz1 hz2 rfl (by decide) _ _ _ rfl F1.out ⟨g, 0, none⟩ k cap ((xs.take k).flatMap cl3) rfl HTL.out (fun _ q u hq => HTC.out q u hq _ (Gr.below (by repeat (first | with_reducible exact Gr.refl _ | with_reducible refine Gr.alloc ?_ _ | with_reducible refine Gr.gr ?_ _ _ | with_reducible refine Gr.drew ?_ | with_reducible refine Gr.drewN ?_ _)))) (fun u hu => cl3_one hu) (by unfold maxLen; omega) (by omega) (Gr.below (show Gr W _ from (by repeat (first | with_reducible exact Gr.refl _ | with_reducible refine Gr.alloc ?_ _ | with_reducible refine Gr.gr ?_ _ _ | with_reducible refine Gr.drew ?_ | with_reducible refine Gr.drewN ?_ _)))).size ?_; intro v4 w4 hown4 hgr4'; have hgr4 : World.grownBy _ w4 (some W.heap.size) := hgr4'; clear hgr4'; have HV4 := Lib.hid hown4; have HB4 := Lib.hid ((Gr.below (show Gr W _ from (by repeat (first | with_reducible exact Gr.refl _ | with_reducible refine Gr.alloc ?_ _ | with_reducible refine Gr.gr ?_ _ _ | with_reducible refine Gr.drew ?_ | with_reducible refine Gr.drewN ?_ _)))).grown hgr4 (Gr.below (show Gr W _ from (by repeat (first | with_reducible exact Gr.refl _ | with_reducible refine Gr.alloc ?_ _ | with_reducible refine Gr.gr ?_ _ _ | with_reducible refine Gr.drew ?_ | with_reducible refine Gr.drewN ?_ _)))).size (fun q hq => by injection hq with hq; have hq2 : W.heap.size = q := hq; omega)); obtain ⟨⟨s0, s1⟩, s2⟩ := HQQ.out w4 HB4.out; clear hown4 hgr4)
          | (refine step_append_own9 rfl _ _ 47 rfl W.heap.size 60 i0 (.agg #[.int .i64 0, .int .i64 0, .int .i64 0]) 3 24 Tryd.underlying47 hi hz0 hz1 hz2 rfl (by decide) _ _ _ rfl F2.out ⟨g, 0, none⟩ k cap ((xs.take k).flatMap cl3) rfl HTL.out (fun _ q u hq => HTC.out q u hq _ (Gr.below (by repeat (first | with_reducible exact Gr.refl _ | with_reducible refine Gr.alloc ?_ _ | with_reducible refine Gr.gr ?_ _ _ | with_reducible refine Gr.drew ?_ | with_reducible refine Gr.drewN ?_ _)))) (fun u hu => cl3_one hu) (by unfold maxLen; omega) (by omega) (Gr.below (show Gr W _ from (by repeat (first | with_reducible exact Gr.refl _ | with_reducible refine Gr.alloc ?_ _ | with_reducible refine Gr.gr ?_ _ _ | with_reducible refine Gr.drew ?_ | with_reducible refine Gr.drewN ?_ _)))).size ?_; intro v4 w4 hown4 hgr4'; have hgr4 : World.grownBy _ w4 (some W.heap.size) := hgr4'; clear hgr4'; have HV4 := Lib.hid hown4; have HB4 := Lib.hid ((Gr.below (show Gr W _ from (by repeat (first | with_reducible exact Gr.refl _ | with_reducible refine Gr.alloc ?_ _ | with_reducible refine Gr.gr ?_ _ _ | with_reducible refine Gr.drew ?_ | with_reducible refine Gr.drewN ?_ _)))).grown hgr4 (Gr.below (show Gr W _ from (by repeat (first | with_reducible exact Gr.refl _ | with_reducible refine Gr.alloc ?_ _ | with_reducible refine Gr.gr ?_ _ _ | with_reducible refine Gr.drew ?_ | with_reducible refine Gr.drewN ?_ _)))).size (fun q hq => by injection hq with hq; have hq2 : W.heap.size = q := hq; omega)); have HT4 := Lib.hid (fun q u (hq : [vi a, vi b, vi c][q]? = some u) => show w4.cell? ((⟨W.heap.size + 1, 0, none⟩ : Addr).add q) = some u from (World.cell?_of_block (w := ((W.alloc (.cells #[] 60)).alloc (.cells #[vi a, vi b, vi c] 60)).drew) (w' := w4) (show w4.heap[((⟨W.heap.size + 1, 0, none⟩ : Addr).add q).block]? = _ from by rw [add_plain]; exact hgr4.block (W.heap.size + 1) (by simp) (by simp))).trans (T2.out q u hq)); clear hown4 hgr4)
          | (refine step_append_own9 rfl _ _ 47 rfl W.heap.size 60 i0 (.agg #[.int .i64 0, .int .i64 0, .int .i64 0]) 3 24 Tryd.underlying47 hi hz0 hz1 hz2 rfl (by decide) _ _ _ rfl F3.out ⟨g, 0, none⟩ k cap ((xs.take k).flatMap cl3) rfl HTL.out (fun _ q u hq => HTC.out q u hq _ (Gr.below (by repeat (first | with_reducible exact Gr.refl _ | with_reducible refine Gr.alloc ?_ _ | with_reducible refine Gr.gr ?_ _ _ | with_reducible refine Gr.drew ?_ | with_reducible refine Gr.drewN ?_ _)))) (fun u hu => cl3_one hu) (by unfold maxLen; omega) (by omega) (Gr.below (show Gr W _ from (by repeat (first | with_reducible exact Gr.refl _ | with_reducible refine Gr.alloc ?_ _ | with_reducible refine Gr.gr ?_ _ _ | with_reducible refine Gr.drew ?_ | with_reducible refine Gr.drewN ?_ _)))).size ?_; intro v4 w4 hown4 hgr4'; have hgr4 : World.grownBy _ w4 (some (W.heap.size + 1)) := hgr4'; clear hgr4'; have HV4 := Lib.hid hown4; have HB4 := Lib.hid ((Gr.below (show Gr W _ from (by repeat (first | with_reducible exact Gr.refl _ | with_reducible refine Gr.alloc ?_ _ | with_reducible refine Gr.gr ?_ _ _ | with_reducible refine Gr.drew ?_ | with_reducible refine Gr.drewN ?_ _)))).grown hgr4 (Gr.below (show Gr W _ from (by repeat (first | with_reducible exact Gr.refl _ | with_reducible refine Gr.alloc ?_ _ | with_reducible refine Gr.gr ?_ _ _ | with_reducible refine Gr.drew ?_ | with_reducible refine Gr.drewN ?_ _)))).size (fun q hq => by injection hq with hq; have hq2 : W.heap.size + 1 = q := hq; omega)); have HT4 := Lib.hid (fun q u (hq : [vi a, vi b, vi c][q]? = some u) => show w4.cell? ((⟨W.heap.size, 0, none⟩ : Addr).add q) = some u from (World.cell?_of_block (w := ((W.alloc (.cells #[vi a, vi b, vi c] 60)).alloc (.cells #[] 60)).drew) (w' := w4) (show w4.heap[((⟨W.heap.size, 0, none⟩ : Addr).add q).block]? = _ from by rw [add_plain]; exact hgr4.block W.heap.size (Nat.lt_of_lt_of_le (Nat.lt_succ_self _) (by simp)) (by simp))).trans (T3.out q u hq)); clear hown4 hgr4)
          | (refine step_append_own9 rfl _ _ 47 rfl W.heap.size 60 i0 (.agg #[.int .i64 0, .int .i64 0, .int .i64 0]) 3 24 Tryd.underlying47 hi hz0 hz1 hz2 rfl (by decide) _ _ _ rfl (World.ownsRow.alloc HV4.out _) _ 1 1 [vi a, vi b, vi c] rfl rfl (fun _ => three_cells_new _ _ _ _ _) (by simp [Value.oneCell']) (by unfold maxLen; omega) (by omega) (Nat.le_trans HB4.out.size (by simp)) ?_; intro v5 w5 hown5 hgr5; have HV5 := Lib.hid hown5; have HB5 := Lib.hid ((Below.alloc HB4.out HB4.out.size _).grown hgr5 (Nat.le_trans HB4.out.size (by simp)) (fun q hq => (World.ownsRow.lt HV4.out q hq).1)); clear hown5 hgr5)
          | (refine step_append_own9 rfl _ _ 47 rfl W.heap.size 60 i0 (.agg #[.int .i64 0, .int .i64 0, .int .i64 0]) 3 24 Tryd.underlying47 hi hz0 hz1 hz2 rfl (by decide) _ _ _ rfl HV4.out _ 1 1 [vi a, vi b, vi c] rfl rfl (fun _ => HT4.out) (by simp [Value.oneCell']) (by unfold maxLen; omega) (by omega) HB4.out.size ?_; intro v5 w5 hown5 hgr5; have HV5 := Lib.hid hown5; have HB5 := Lib.hid (HB4.out.grown hgr5 HB4.out.size (fun q hq => (World.ownsRow.lt HV4.out q hq).1)); clear hown5 hgr5)
          | (refine step_append_own9 rfl _ _ 47 rfl W.heap.size 60 i0 (.agg #[.int .i64 0, .int .i64 0, .int .i64 0]) 3 24 Tryd.underlying47 hi hz0 hz1 hz2 rfl (by decide) _ _ _ rfl HV5.out ⟨g, o2, none⟩ (n - k) E2 ((xs.drop k).flatMap cl3) rfl HDL.out (fun h q u hq => HDC.out h q u hq _ HB5.out) (fun u hu => cl3_one hu) (by unfold maxLen; omega) (by omega) HB5.out.size ?_; intro v6 w6 hown6 hgr6; have HV6 := Lib.hid hown6; have HB6 := Lib.hid (HB5.out.grown hgr6 HB5.out.size (fun q hq => (World.ownsRow.lt HV5.out q hq).1)); clear hown6 hgr6))
        all_goals
          have HF6 := Lib.hid (show LstT w6 w.heap.size v6 (insB bfT (a, b, c) xs) from by
            have h9 := World.ownsRow.mono HV6.out hgW2
            have e1 : 0 + k + 1 + (n - k) = (insB bfT (a, b, c) xs).length := by rw [HBL.out, HL.out]; omega
            have e2 : [] ++ (xs.take k).flatMap cl3 ++ [vi a, vi b, vi c] ++ (xs.drop k).flatMap cl3 = (insB bfT (a, b, c) xs).flatMap cl3 := by
              rw [HIE.out, HK.out]
              simp
            rw [e1, e2] at h9
            exact h9)
          have HBZ := Lib.hid ((HG0.out.trans HGW.out).below.trans (HB6.out.mono hgW2))
          go_wp2
          go_ret
          exact ⟨⟨_, rfl, HF6.out⟩, HBZ.out⟩
      · rw [hb] at HS HC
        clear hb
        go_wp2
        ((first | refine region_gr_on (by kernel_rfl) (by kernel_rfl) ?_ | refine region_gr (by kernel_rfl) (by kernel_rfl) ?_); (repeat (quiet_step (exact Calls.gr_of (HC.out _)))); refine wpQuiet_nil ?_; intro _ hw'; obtain ⟨⟨kq, oq⟩, hw''⟩ := hw'; subst hw'')
        go_wp2
        go_roundw
        case rel => exact ⟨k - 1, by omega, by congr 1; omega, Lib.hid (by rw [hE.out, HS.out]; rfl), HG.out.gr kq oq⟩
        case measure => simp [intOf]; omega
end Go.Proofs.YtggflladheemoaaDoor

/- Contracts of chapter 8: the ticks of a graduation, in the model. -/
namespace Go.Proofs.YtggflladheemoaaDoor
open Go.RowKit Go.Shelf Go.ChangeShapes Go.WideShapes Go.ChangeAt
set_option linter.unusedVariables false
set_option linter.unusedSimpArgs false

/-- The code of the ticks of a graduation, and the ticks. -/
def toE (zs : List P3) (s l f t : Int) : Int := if gd zs = false then 1 else if sc s = false ∨ ln l = false ∨ inR 1000 9999 f = false ∨ inR 1000 9999 t = false then 2 else if 150 < (mrL zs f t).length then 3 else 0
def tkOf (s l m : Int) : P3 := (m, mdl s l m, hgt m)
def toF (s l : Int) (ms : List Int) : List P3 := ms.foldl (fun xs m => insB bfT (tkOf s l m) xs) []
def toL (zs : List P3) (s l f t : Int) : List P3 := if toE zs s l f t = 0 then toF s l (mrL zs f t) else []
theorem toF_snoc (s l : Int) (ms : List Int) (m : Int) : toF s l (ms ++ [m]) = insB bfT (tkOf s l m) (toF s l ms) := by unfold toF; rw [List.foldl_append]; rfl
theorem toF_take (s l : Int) {ms : List Int} {k : Nat} {m : Int} (h : ms[k]? = some m) : toF s l (ms.take (k + 1)) = insB bfT (tkOf s l m) (toF s l (ms.take k)) := by
  obtain ⟨hk, e⟩ := List.getElem?_eq_some_iff.1 h
  rw [List.take_succ_eq_append_getElem hk, e, toF_snoc]
theorem toF_go_len (s l : Int) : ∀ (ms : List Int) (xs : List P3), (ms.foldl (fun xs m => insB bfT (tkOf s l m) xs) xs).length = xs.length + ms.length
  | [], xs => rfl
  | m :: ms, xs => by
    rw [List.foldl_cons, toF_go_len s l ms, insB_len, List.length_cons]
    omega
theorem toF_len (s l : Int) (ms : List Int) : (toF s l ms).length = ms.length := by
  unfold toF
  rw [toF_go_len, List.length_nil]
  omega
theorem toF_go_mem (s l : Int) (x : P3) : ∀ (ms : List Int) (xs : List P3), x ∈ ms.foldl (fun xs m => insB bfT (tkOf s l m) xs) xs → x ∈ xs ∨ x.1 ∈ ms
  | [], xs, h => .inl h
  | m :: ms, xs, h => by
    rw [List.foldl_cons] at h
    rcases toF_go_mem s l x ms _ h with h | h
    · rcases (insB_mem _ _ _ _).1 h with rfl | h
      · exact .inr (List.mem_cons_self)
      · exact .inl h
    · exact .inr (List.mem_cons_of_mem _ h)
theorem toF_mem (s l : Int) (ms : List Int) (x : P3) (h : x ∈ toF s l ms) : x.1 ∈ ms := by
  rcases toF_go_mem s l x ms [] h with h | h
  · cases h
  · exact h
/-- By places alone: the program's order, where marks come by their sizes. -/
def ilT (x y : P3) : Bool := decide (x.2.1 < y.2.1)
theorem insB_left (x : P3) (xs : List P3) (h : ∀ y ∈ xs, y.1 < x.1) : insB bfT x xs = insB ilT x xs := by
  have e : insN bfT x xs = insN ilT x xs := by
    unfold insN
    refine insA_congr _ (fun j hj => ?_)
    rw [List.getElem?_eq_getElem hj]
    simp only [Option.map_some, Option.getD_some]
    have := h _ (List.getElem_mem hj)
    unfold bfT ilT
    rw [decide_eq_decide]
    constructor
    · rintro (h1 | ⟨-, h1⟩)
      · exact h1
      · omega
    · exact .inl
  rw [insB_eq, insB_eq, e]
theorem take_less {L : List Int} (hp : L.Pairwise (· < ·)) {k : Nat} {x : Int} (hx : L[k]? = some x) : ∀ y ∈ L.take k, y < x := by
  intro y hy
  obtain ⟨hk, e⟩ := List.getElem?_eq_some_iff.1 hx
  obtain ⟨j, hj, rfl⟩ := List.mem_take_iff_getElem.1 hy
  rw [← e]
  exact List.pairwise_iff_getElem.1 hp j k (by omega) hk (by omega)
theorem toE_gd {zs : List P3} {s l f t : Int} (h : gd zs = false) : toE zs s l f t = 1 ∧ toL zs s l f t = [] := by
  have e : toE zs s l f t = 1 := by unfold toE; rw [if_pos h]
  exact ⟨e, by unfold toL; rw [if_neg (by omega)]⟩
theorem toE_rg {zs : List P3} {s l f t : Int} (h : gd zs = true) (h2 : sc s = false ∨ ln l = false ∨ inR 1000 9999 f = false ∨ inR 1000 9999 t = false) : toE zs s l f t = 2 ∧ toL zs s l f t = [] := by
  have e : toE zs s l f t = 2 := by unfold toE; rw [if_neg (by rw [h]; simp), if_pos h2]
  exact ⟨e, by unfold toL; rw [if_neg (by omega)]⟩
theorem toE_in {zs : List P3} {s l f t : Int} (h : gd zs = true) (h1 : sc s = true) (h2 : ln l = true) (h3 : inR 1000 9999 f = true) (h4 : inR 1000 9999 t = true) :
    (150 < (mrL zs f t).length → toE zs s l f t = 3 ∧ toL zs s l f t = []) ∧ (¬ 150 < (mrL zs f t).length → toE zs s l f t = 0 ∧ toL zs s l f t = toF s l (mrL zs f t)) := by
  have e : toE zs s l f t = if 150 < (mrL zs f t).length then 3 else 0 := by unfold toE; rw [if_neg (by rw [h]; simp), if_neg (by rw [h1, h2, h3, h4]; simp)]
  refine ⟨fun hl => ?_, fun hl => ?_⟩
  · rw [if_pos hl] at e
    exact ⟨e, by unfold toL; rw [if_neg (by omega)]⟩
  · rw [if_neg hl] at e
    exact ⟨e, by unfold toL; rw [if_pos e]⟩

/-- One tick is put into a list. -/
theorem put_step (W1 W : World) (g2 c2 k : Nat) (rest : List Value) (xs : List P3) (t : P3) (hn : xs.length = k) (hk : k ≤ 1000) (hc : k ≤ c2) (hW : Below W1.heap.size W1 W) (hR : Row W g2 60 (xs.flatMap cl3 ++ rest)) :
    Calls Tryd.prog 107 #[.slice (some ⟨g2, 0, none⟩) k c2, .agg #[vi t.1, vi t.2.1, vi t.2.2]] W fun e w' => ∃ (g' c' : Nat) (rest' : List Value), e = .returned (.slice (some ⟨g', 0, none⟩) (k + 1) c') ∧ k + 1 ≤ c' ∧
      Hid (Row w' g' 60 ((insB bfT t xs).flatMap cl3 ++ rest')) ∧ Hid (LstT w' W1.heap.size (.slice (some ⟨g', 0, none⟩) (k + 1) c') (insB bfT t xs)) ∧ Hid (Below W1.heap.size W1 w') := by
  refine (put_any g2 c2 k rest xs t W hn (by omega) hc hR).mono ?_
  rintro e w' ⟨⟨v, rfl, hv⟩, hb⟩
  have hl := insB_len bfT t xs
  rcases LstG.row hv with ⟨-, e⟩ | ⟨g', cap, rest', rfl, hB, hr, h1, h2, h3⟩
  · rw [e] at hl
    simp at hl
  · have hv2 := LstG.mono hv hW.size
    rw [hl, hn] at h1 hv2 ⊢
    exact ⟨g', cap, rest', rfl, h1, Lib.hid hr, Lib.hid hv2, Lib.hid (hW.trans (hb.mono hW.size))⟩
end Go.Proofs.YtggflladheemoaaDoor

/- Contracts of chapter 8: the ticks of a graduation, in the model. -/
namespace Go.Proofs.YtggflladheemoaaDoor
open Go.RowKit Go.Shelf Go.ChangeShapes Go.WideShapes Go.ChangeAt
set_option linter.unusedVariables false
set_option linter.unusedSimpArgs false

/-- The marks of a valid graduation, behind a world that has grown: where their row lies. -/
theorem marks_row2 (A : Option Addr) (n c : Nat) (zs : List P3) (w w1 : World) (hw : Gr w w1) (hn : zs.length = n) (hN : n ≤ 16777216) (hA : Reads w w.heap.size A (cells3 zs)) (hv : gd zs = true) :
    Calls Tryd.prog 92 #[.slice A n c] w1 fun e w2 => ∃ g cp : Nat, e = .returned (.slice (some ⟨g, 0, none⟩) (mks zs).length cp) ∧ g < w2.heap.size ∧ w1.heap.size ≤ g ∧ Hid (∀ k x, (mks zs)[k]? = some x → w2.cell? ⟨g, k, none⟩ = some (vi x)) ∧ Hid (Below w1.heap.size w1 w2) := by
  obtain ⟨f0, f1, f2, f3⟩ := mks_facts hv
  refine (marks_spec A n c zs w1 hn hN (hA.gr hw) hv).mono ?_
  rintro e w2 ⟨⟨v, rfl, hown⟩, hb⟩
  obtain ⟨g, cp, rfl, hg1, hg2, hcs⟩ := Lst.form hown (by omega)
  exact ⟨g, cp, rfl, hg2, hg1, Lib.hid hcs, Lib.hid hb⟩

set_option maxRecDepth 100000 in
set_option maxHeartbeats 8000000 in
/-- The main case: all in range. -/
theorem to_spec1 (A : Option Addr) (n c : Nat) (zs : List P3) (s l f t : Int) (w : World) (hn : zs.length = n) (hN : n ≤ 16777216) (hA : Reads w w.heap.size A (cells3 zs))
    (hv : gd zs = true) (hsc : sc s = true) (hln : ln l = true) (hd : decide (1000 ≤ f ∧ f ≤ 9999) = true) (hd2 : decide (1000 ≤ t ∧ t ≤ 9999) = true) :
    Calls Tryd.prog 31 #[.slice A n c, .int .i64 s, .int .i64 l, .int .i64 f, .int .i64 t] w fun e w' => (∃ v, e = .returned (.tuple #[v, .int .i64 (toE zs s l f t)]) ∧ LstT w' w.heap.size v (toL zs s l f t)) ∧ Below w.heap.size w w' := by
  have HG := Lib.hid (gd_spec A n c zs w hn hN hA)
  have HI := Lib.hid (fun W => in_any f 1000 9999 W)
  have HJ := Lib.hid (fun W => in_any t 1000 9999 W)
  have HS := Lib.hid (fun W => isScale_spec s W)
  have HN := Lib.hid (fun W => isLength_spec l W)
  rw [hv] at HG
  rw [hsc] at HS
  rw [hln] at HN
  rw [hd] at HI
  rw [hd2] at HJ
  have HNIL := Lib.hid (fun W => World.ownsRow_nil W w.heap.size 60 3)
  have HM := Lib.hid (fun W hW => marks_row2 A n c zs w W hW hn hN hA hv)
  obtain ⟨f0, f1, f2, f3⟩ := mks_facts hv
  obtain ⟨c3, c0⟩ := toE_in (zs := zs) (s := s) (l := l) (f := f) (t := t) hv hsc hln hd hd2
  have HC3 := Lib.hid c3
  have HC0 := Lib.hid c0
  have HML := Lib.hid (show mrL zs f t = (mks zs).filter (inR f t) from rfl)
  rw [HML.out] at HC3 HC0
  have HBD := Lib.hid (fun x (hx : x ∈ (mks zs).filter (inR f t)) => f1 x (List.mem_filter.1 hx).1)
  have HMID := Lib.hid (fun y W (y1 : 1000 ≤ y) (y2 : y ≤ 9999) => middle_spec s y l W hsc hln y1 y2)
  have HHG := Lib.hid (fun y W (y1 : 0 ≤ y) (y2 : y ≤ 100000) => hgt_spec y W y1 y2)
  clear hv hd hd2 hA hn f0 f1 c3 c0 HML hsc hln
  generalize mks zs = L at *
  have HP := Lib.hid (fun x W => in_any x f t W)
  have HIR := Lib.hid (show ∀ x, decide (f ≤ x ∧ x ≤ t) = inR f t x from fun _ => rfl)
  have HNR := Lib.hid (fun (k : Nat) (x : Int) (hx : L[k]? = some x) => flt_take (inR f t) hx)
  have HLN := Lib.hid (fun k => flt_len (inR f t) L k)
  obtain ⟨i0, hi, hz0, hz1, hz2⟩ := info_parts info_i7
  go_enter Tryd.func31, Tryd.ntmps31
  go_wp2_with (first | (go_at_call 90; refine (HG.out).mono ?_; rintro e w' ⟨rfl, kk, os, rfl⟩) | (go_at_call 77; refine (HS.out _).mono ?_; rintro e w' ⟨rfl, rfl⟩) | (go_at_call 78; refine (HN.out _).mono ?_; rintro e w' ⟨rfl, rfl⟩) | (go_at_call 79; with_reducible refine (HI.out _).mono ?_; rintro e w' ⟨rfl, rfl⟩) | (go_at_call 79; with_reducible refine (HJ.out _).mono ?_; rintro e w' ⟨rfl, rfl⟩) | (go_at_call 92; refine (HM.out _ (by repeat (first | with_reducible exact Gr.refl _ | with_reducible refine Gr.alloc ?_ _ | with_reducible refine Gr.gr ?_ _ _ | with_reducible refine Gr.drew ?_ | with_reducible refine Gr.drewN ?_ _))).mono ?_; rintro e w2 ⟨g, cp, rfl, hg2, hgw, HCS, HB1⟩))
  have hb0 : w.heap.size ≤ (gr w kk os).heap.size := by rw [gr_size]; omega
  have O1 : Lst w2 w.heap.size (.slice (some ⟨(gr w kk os).heap.size, 0, none⟩) 0 0) [] := Lst.below (World.ownsRow_made (gr w kk os) #[] 0 hb0 (Nat.zero_le _) rfl) HB1.out
  have hs1 : ((gr w kk os).alloc (.cells #[] 2)).heap.size = (gr w kk os).heap.size + 1 := by simp
  have B1 : Below w.heap.size w w2 := (show Gr w ((gr w kk os).alloc (.cells #[] 2)) from (by repeat (first | with_reducible exact Gr.refl _ | with_reducible refine Gr.alloc ?_ _ | with_reducible refine Gr.gr ?_ _ _ | with_reducible refine Gr.drew ?_ | with_reducible refine Gr.drewN ?_ _))).below.trans (HB1.out.mono (by omega))
  have hgk : (gr w kk os).heap.size < g := by omega
  clear HB1 hs1 hgw
  generalize (gr w kk os).heap.size = b0 at *
  go_loopw [12, 14] (fun v i wr => ∃ k : Nat, i = .int .i64 k ∧ k ≤ L.length ∧ (∃ A1 n1 c1, v = .slice A1 n1 c1 ∧ n1 = ((L.take k).filter (inR f t)).length) ∧ Hid (Lst wr w.heap.size v ((L.take k).filter (inR f t))) ∧ Hid (∀ q, v.ownBlock = some q → q ≠ g) ∧ Hid (∀ k x, L[k]? = some x → wr.cell? ⟨g, k, none⟩ = some (vi x)) ∧ Hid (Below w.heap.size w wr)) (fun _ i _ => L.length - (intOf i).toNat)
  case atStart => exact ⟨0, rfl, by omega, ⟨_, _, _, rfl, by simp⟩, Lib.hid (by simpa using O1), Lib.hid (fun q hq => by injection hq with hq; have hq2 : b0 = q := hq; omega), HCS, Lib.hid B1⟩
  case round =>
    obtain ⟨k, rfl, hk, ⟨A1, n1, c1, rfl, hn1⟩, HO, HNE, HCW, HW⟩ := hrel
    clear O1 B1
    have hbs := HW.out.size
    by_cases hlt : k < L.length
    · obtain ⟨x, hx⟩ := some_at (l := L) (k := k) hlt
      have y0 := HCW.out k x hx
      have HT := Lib.hid (HNR.out k x hx)
      have hl := HLN.out k
      have HPX := Lib.hid (HP.out x)
      rw [HIR.out x] at HPX
      have hgr : g < wr.heap.size := World.block_lt_of_cell? _ _ y0
      clear hx
      generalize hxs : (L.take k).filter (inR f t) = xs at *
      clear hxs
      subst hn1
      rcases Bool.eq_false_or_eq_true (inR f t x) with hc | hc
      · rw [hc] at HPX
        rw [hc, if_pos rfl] at HT
        clear hc
        go_wp2_with (first | (go_at_call 79; with_reducible refine (HPX.out _).mono ?_; rintro e w' ⟨rfl, rfl⟩) | (at_builtin; refine wpList_append_ownB _ rfl _ _ 52 rfl w.heap.size 2 i0 (.int .i64 0) 1 8 Tryd.underlying52 hi hz0 hz1 hz2 rfl (by decide) _ _ _ rfl (HO.out.alloc _) ⟨wr.heap.size, 0, none⟩ 1 1 [.int .i64 x] rfl rfl (one_cell_new _ _ _) (by simp [Value.oneCell']) (by omega) (by unfold maxLen; omega) (by omega) (by simp; omega) ?_; intro v' w4 hown' hgrow hblk; obtain ⟨hA1, hA2⟩ := Lst.app (x := x) HW.out hbs (HO.out.alloc _) (by simpa using hown') hgrow; have HA1 := Lib.hid hA1; have HA2 := Lib.hid hA2; have HA3 := Lib.hid (fun q (hq : v'.ownBlock = some q) => show q ≠ g from (by rcases hblk with h | ⟨g3, h, h3⟩; exact HNE.out q (h.symm.trans hq); rw [hq] at h; injection h with h; simp at h3; omega)); have HA4 := Lib.hid (fun k2 x2 (h2 : L[k2]? = some x2) => show w4.cell? ⟨g, k2, none⟩ = some (vi x2) from World.grownBy.cell (grownBy_trans (grownBy_gr (show Gr wr (wr.alloc (.cells #[.int .i64 x] 2)) from (by repeat (first | with_reducible exact Gr.refl _ | with_reducible refine Gr.alloc ?_ _ | with_reducible refine Gr.gr ?_ _ _ | with_reducible refine Gr.drew ?_ | with_reducible refine Gr.drewN ?_ _))) _) hgrow) (HCW.out k2 x2 h2) (fun e => HNE.out g e.symm rfl)); clear hA1 hA2 hown' hgrow hblk))
        go_roundw
        case rel =>
          refine ⟨k + 1, by go_num, by omega, ?_, ?_, HA3, HA4, HA2⟩
          · obtain ⟨g4, c4, e4, -⟩ := Lst.form HA1.out (by simp)
            exact ⟨_, _, _, e4, by rw [HT.out]⟩
          · rw [HT.out]; exact HA1
        case measure => simp [intOf]; omega
      · rw [hc] at HPX
        rw [hc, if_neg (by simp), List.append_nil] at HT
        clear hc
        go_wp2_with (go_at_call 79; with_reducible refine (HPX.out _).mono ?_; rintro e w' ⟨rfl, rfl⟩)
        go_roundw
        case rel => exact ⟨k + 1, by go_num, by omega, ⟨_, _, _, rfl, by rw [HT.out]⟩, by rw [HT.out]; exact HO, HNE, HCW, HW⟩
        case measure => simp [intOf]; omega
    · have HF := Lib.hid (show L.take k = L from List.take_of_length_le (by omega))
      rw [HF.out] at hn1 HO
      have hl := HLN.out L.length
      rw [List.take_length] at hl
      clear HCW HNE HNR HLN HP HIR HCS HI HJ
      generalize L.filter (inR f t) = M at *
      by_cases hq : 150 < n1
      · have HC := Lib.hid (HC3.out (by rw [← hn1]; exact hq))
        go_wp2
        ((try simp only [Exit.inBlock, Exit.then]); refine bodyPost_ret (v := .tuple #[.slice none 0 0, .int .i64 3]) (by simp [results, Tryd.results31, go_sem]) rfl ?_)
        exact ⟨⟨_, by rw [HC.out.1], by rw [HC.out.2]; exact HNIL.out _⟩, HW.out⟩
      · have HC := Lib.hid (HC0.out (by rw [← hn1]; exact hq))
        have HCL : Hid (∀ k x, M[k]? = some x → ∃ g1, A1 = some ⟨g1, 0, none⟩ ∧ g1 < wr.heap.size ∧ wr.cell? ⟨g1, k, none⟩ = some (vi x)) := Lib.hid (fun k x hx => by
          obtain ⟨hkl, -⟩ := List.getElem?_eq_some_iff.1 hx
          obtain ⟨g1, c', e, -, h2, h3⟩ := Lst.form HO.out (by omega)
          injection e with e1
          exact ⟨g1, e1, h2, h3 k x hx⟩)
        have HN1 := Lib.hid hn1
        clear HO HC3 HC0 hn1 hl
        obtain ⟨W1, rfl⟩ : ∃ W1, W1 = wr := ⟨_, rfl⟩
        have HR0 : Hid (Row (W1.alloc (.cells #[] 60)) W1.heap.size 60 []) := Lib.hid (Row.new W1 _ [])
        have HL0 : Hid (LstT (W1.alloc (.cells #[] 60)) W1.heap.size (.slice (some ⟨W1.heap.size, 0, none⟩) 0 0) []) := Lib.hid (LstG.new _ _ _ (Nat.le_refl _))
        have HB0 : Hid (Below W1.heap.size W1 (W1.alloc (.cells #[] 60))) := Lib.hid ((Below.refl _ _).alloc (Nat.le_refl _) _)
        go_wp2
        go_loopw [15, 16] (fun v i wq => ∃ k : Nat, i = .int .i64 k ∧ k ≤ n1 ∧ (∃ (g2 c2 : Nat) (rest : List Value), v = .slice (some ⟨g2, 0, none⟩) k c2 ∧ k ≤ c2 ∧ Hid (Row wq g2 60 ((toF s l (M.take k)).flatMap cl3 ++ rest))) ∧ Hid (LstT wq W1.heap.size v (toF s l (M.take k))) ∧ Hid (Below W1.heap.size W1 wq)) (fun _ i _ => n1 - (intOf i).toNat)
        case atStart => exact ⟨0, rfl, by omega, ⟨_, _, [], rfl, by omega, HR0⟩, HL0, HB0⟩
        case round =>
          obtain ⟨k, rfl, hk, ⟨g2, c2, rest, rfl, hkc, HRW⟩, HL2, HBW⟩ := hrel
          clear HR0 HL0 HB0
          by_cases hlt : k < n1
          · obtain ⟨x, hx⟩ := some_at (l := M) (k := k) (by rw [← HN1.out]; exact hlt)
            obtain ⟨g1, rfl, hg1, hc1⟩ := HCL.out k x hx
            have hbx := HBD.out x (List.mem_of_getElem? hx)
            have HT := Lib.hid (toF_take s l hx)
            have HPUT := Lib.hid (fun W (h : Gr wr W) => put_step W1 W g2 c2 k rest (toF s l (M.take k)) (x, mdl s l x, hgt x) (by rw [toF_len, List.length_take, ← HN1.out]; omega) (by omega) hkc (HBW.out.trans ((Gr.below h).mono HBW.out.size)) (HRW.out.gr h))
            rw [show tkOf s l x = (x, mdl s l x, hgt x) from rfl] at HT
            simp only at HPUT
            have HM1 := Lib.hid (fun W => HMID.out x W (by omega) (by omega))
            have HH1 := Lib.hid (fun W => HHG.out x W (by omega) (by omega))
            generalize mdl s l x = md at *
            generalize hgt x = hg at *
            have y0 : wr.cell? ⟨g1, k, none⟩ = some (.int .i64 x) := (HBW.out.cell (p := ⟨g1, k, none⟩) hg1).trans hc1
            have HCEL := Lib.hid (fun W' (hb : Below W1.heap.size W1 W') => show W'.cell? ⟨g1, k, none⟩ = some (.int .i64 x) from (hb.cell (p := ⟨g1, k, none⟩) hg1).trans hc1)
            have hgr : g1 < wr.heap.size := World.block_lt_of_cell? _ _ y0
            have HCE2 := Lib.hid (fun W' (h : Gr wr W') => HCEL.out W' (HBW.out.trans ((Gr.below h).mono HBW.out.size)))
            have hkn : (k : Int) < (n1 : Int) := by omega
            have hk0 : (0 : Int) ≤ (k : Int) := by omega
            clear hx hc1 hbx HMID HHG HBD
            go_wp2
            go_region_held3 (fun w' => w'.cell? ⟨g1, k, none⟩ = some (.int .i64 x)) (first | assumption | exact HCE2.out _ (by repeat (first | with_reducible exact Gr.refl _ | with_reducible refine Gr.alloc ?_ _ | with_reducible refine Gr.gr ?_ _ _ | with_reducible refine Gr.drew ?_ | with_reducible refine Gr.drewN ?_ _))) (first | (go_at_call 108; refine (HM1.out _).mono ?_; rintro e w' ⟨rfl, k1, os1, rfl⟩) | (go_at_call 109; refine (HH1.out _).mono ?_; rintro e w' ⟨rfl, k2, os2, rfl⟩) | (go_at_call 107; refine (HPUT.out _ (by repeat (first | with_reducible exact Gr.refl _ | with_reducible refine Gr.alloc ?_ _ | with_reducible refine Gr.gr ?_ _ _ | with_reducible refine Gr.drew ?_ | with_reducible refine Gr.drewN ?_ _))).mono ?_; rintro e w' ⟨g', c', rest', rfl, hc', HR', HL', HB'⟩; have hq := HCEL.out _ HB'.out))
            all_goals
              go_wp2
              go_roundw
              case rel => exact ⟨k + 1, by go_num, by omega, ⟨g', c', rest', rfl, hc', by rw [HT.out]; exact HR'⟩, by rw [HT.out]; exact HL', HB'⟩
              case measure => simp [intOf]; omega
          · obtain rfl : k = n1 := by omega
            have HF2 := Lib.hid (show M.take k = M from List.take_of_length_le (by rw [← HN1.out]; exact Nat.le_refl _))
            rw [HF2.out] at HL2
            go_wp2
            ((try simp only [Exit.inBlock, Exit.then]); refine bodyPost_ret (v := .tuple #[.slice (some ⟨g2, 0, none⟩) k c2, .int .i64 0]) (by simp [results, Tryd.results31, go_sem]) rfl ?_)
            exact ⟨⟨_, by rw [HC.out.1], by rw [HC.out.2]; exact LstG.mono HL2.out hbs⟩, HW.out.trans (HBW.out.mono hbs)⟩
end Go.Proofs.YtggflladheemoaaDoor

/- Contracts of chapter 8: the ticks of a graduation, in the model and in the program. -/
namespace Go.Proofs.YtggflladheemoaaDoor
open Go.RowKit Go.Shelf Go.ChangeShapes Go.WideShapes Go.ChangeAt
set_option linter.unusedVariables false
set_option linter.unusedSimpArgs false

set_option maxRecDepth 100000 in
set_option maxHeartbeats 2000000 in
theorem to_spec (A : Option Addr) (n c : Nat) (zs : List P3) (s l f t : Int) (w : World) (hn : zs.length = n) (hN : n ≤ 16777216) (hA : Reads w w.heap.size A (cells3 zs)) :
    Calls Tryd.prog 31 #[.slice A n c, .int .i64 s, .int .i64 l, .int .i64 f, .int .i64 t] w fun e w' => (∃ v, e = .returned (.tuple #[v, .int .i64 (toE zs s l f t)]) ∧ LstT w' w.heap.size v (toL zs s l f t)) ∧ Below w.heap.size w w' := by
  have HG := Lib.hid (gd_spec A n c zs w hn hN hA)
  have HI := Lib.hid (fun W => in_any f 1000 9999 W)
  have HJ := Lib.hid (fun W => in_any t 1000 9999 W)
  have HS := Lib.hid (fun W => isScale_spec s W)
  have HN := Lib.hid (fun W => isLength_spec l W)
  have HNIL := Lib.hid (fun W => World.ownsRow_nil W w.heap.size 60 3)
  rcases Bool.eq_false_or_eq_true (gd zs) with hv | hv
  rotate_left
  · have HC := Lib.hid (toE_gd (s := s) (l := l) (f := f) (t := t) hv)
    rw [hv] at HG
    clear hv hA hn
    go_enter Tryd.func31, Tryd.ntmps31
    go_wp2_with (go_at_call 90; refine (HG.out).mono ?_; rintro e w' ⟨rfl, kk, os, rfl⟩)
    ((try simp only [Exit.inBlock, Exit.then]); refine bodyPost_ret (v := .tuple #[.slice none 0 0, .int .i64 1]) (by simp [results, Tryd.results31, go_sem]) rfl ?_)
    exact ⟨⟨_, by rw [HC.out.1], by rw [HC.out.2]; exact HNIL.out _⟩, Gr.below ⟨_, _, rfl⟩⟩
  rcases Bool.eq_false_or_eq_true (sc s) with hs | hs
  rotate_left
  · have HC := Lib.hid (toE_rg (l := l) (f := f) (t := t) hv (.inl hs))
    rw [hv] at HG
    rw [hs] at HS
    clear hv hA hn hs
    go_enter Tryd.func31, Tryd.ntmps31
    go_wp2_with (first | (go_at_call 90; refine (HG.out).mono ?_; rintro e w' ⟨rfl, kk, os, rfl⟩) | (go_at_call 77; refine (HS.out _).mono ?_; rintro e w' ⟨rfl, rfl⟩))
    ((try simp only [Exit.inBlock, Exit.then]); refine bodyPost_ret (v := .tuple #[.slice none 0 0, .int .i64 2]) (by simp [results, Tryd.results31, go_sem]) rfl ?_)
    exact ⟨⟨_, by rw [HC.out.1], by rw [HC.out.2]; exact HNIL.out _⟩, Gr.below ⟨_, _, rfl⟩⟩
  rcases Bool.eq_false_or_eq_true (ln l) with hl | hl
  rotate_left
  · have HC := Lib.hid (toE_rg (s := s) (f := f) (t := t) hv (.inr (.inl hl)))
    rw [hv] at HG
    rw [hs] at HS
    rw [hl] at HN
    clear hv hA hn hs hl
    go_enter Tryd.func31, Tryd.ntmps31
    go_wp2_with (first | (go_at_call 90; refine (HG.out).mono ?_; rintro e w' ⟨rfl, kk, os, rfl⟩) | (go_at_call 77; refine (HS.out _).mono ?_; rintro e w' ⟨rfl, rfl⟩) | (go_at_call 78; refine (HN.out _).mono ?_; rintro e w' ⟨rfl, rfl⟩))
    ((try simp only [Exit.inBlock, Exit.then]); refine bodyPost_ret (v := .tuple #[.slice none 0 0, .int .i64 2]) (by simp [results, Tryd.results31, go_sem]) rfl ?_)
    exact ⟨⟨_, by rw [HC.out.1], by rw [HC.out.2]; exact HNIL.out _⟩, Gr.below ⟨_, _, rfl⟩⟩
  rcases decb7 (1000 ≤ f ∧ f ≤ 9999) with hd | hd
  rotate_left
  · have HC := Lib.hid (toE_rg (s := s) (l := l) (t := t) hv (.inr (.inr (.inl (show inR 1000 9999 f = false from hd)))))
    rw [hv] at HG
    rw [hs] at HS
    rw [hl] at HN
    rw [hd] at HI
    clear hv hA hn hs hl hd
    go_enter Tryd.func31, Tryd.ntmps31
    go_wp2_with (first | (go_at_call 90; refine (HG.out).mono ?_; rintro e w' ⟨rfl, kk, os, rfl⟩) | (go_at_call 77; refine (HS.out _).mono ?_; rintro e w' ⟨rfl, rfl⟩) | (go_at_call 78; refine (HN.out _).mono ?_; rintro e w' ⟨rfl, rfl⟩) | (go_at_call 79; with_reducible refine (HI.out _).mono ?_; rintro e w' ⟨rfl, rfl⟩))
    ((try simp only [Exit.inBlock, Exit.then]); refine bodyPost_ret (v := .tuple #[.slice none 0 0, .int .i64 2]) (by simp [results, Tryd.results31, go_sem]) rfl ?_)
    exact ⟨⟨_, by rw [HC.out.1], by rw [HC.out.2]; exact HNIL.out _⟩, Gr.below ⟨_, _, rfl⟩⟩
  rcases decb7 (1000 ≤ t ∧ t ≤ 9999) with hd2 | hd2
  rotate_left
  · have HC := Lib.hid (toE_rg (s := s) (l := l) (f := f) hv (.inr (.inr (.inr (show inR 1000 9999 t = false from hd2)))))
    rw [hv] at HG
    rw [hs] at HS
    rw [hl] at HN
    rw [hd] at HI
    rw [hd2] at HJ
    clear hv hA hn hs hl hd hd2
    go_enter Tryd.func31, Tryd.ntmps31
    go_wp2_with (first | (go_at_call 90; refine (HG.out).mono ?_; rintro e w' ⟨rfl, kk, os, rfl⟩) | (go_at_call 77; refine (HS.out _).mono ?_; rintro e w' ⟨rfl, rfl⟩) | (go_at_call 78; refine (HN.out _).mono ?_; rintro e w' ⟨rfl, rfl⟩) | (go_at_call 79; with_reducible refine (HI.out _).mono ?_; rintro e w' ⟨rfl, rfl⟩) | (go_at_call 79; with_reducible refine (HJ.out _).mono ?_; rintro e w' ⟨rfl, rfl⟩))
    ((try simp only [Exit.inBlock, Exit.then]); refine bodyPost_ret (v := .tuple #[.slice none 0 0, .int .i64 2]) (by simp [results, Tryd.results31, go_sem]) rfl ?_)
    exact ⟨⟨_, by rw [HC.out.1], by rw [HC.out.2]; exact HNIL.out _⟩, Gr.below ⟨_, _, rfl⟩⟩
  exact to_spec1 A n c zs s l f t w hn hN hA hv hs hl hd hd2

theorem Dcs.blw {w w' : World} (h : Dcs w) (hb : Below w.heap.size w w') : Dcs w' := fun i hi => (hb.cell (World.block_lt_of_cell? w _ (h i hi))).trans (h i hi)
theorem Hts.blw {w w' : World} (h : Hts w) (hb : Below w.heap.size w w') : Hts w' := fun i x hx => (hb.cell (World.block_lt_of_cell? w _ (h i x hx))).trans (h i x hx)
theorem isLeft_any (x y : P3) (w : World) :
    Calls Tryd.prog 106 (#[.agg #[vi x.1, vi x.2.1, vi x.2.2], .agg #[vi y.1, vi y.2.1, vi y.2.2]] ++ #[]) w fun e w' => e = .returned (.bool (ilT x y)) ∧ Gr w w' := by
  have HB := Lib.hid (show ilT x y = decide (x.2.1 < y.2.1) from rfl)
  obtain ⟨a, b, c⟩ := x
  obtain ⟨a', b', c'⟩ := y
  simp only at HB
  rw [Array.append_empty]
  go_enter Tryd.func106, Tryd.ntmps106
  go_wp2
  go_ret
  exact ⟨ret_bool HB.out.symm, (by repeat (first | with_reducible exact Gr.refl _ | with_reducible refine Gr.alloc ?_ _ | with_reducible refine Gr.gr ?_ _ _ | with_reducible refine Gr.drew ?_ | with_reducible refine Gr.drewN ?_ _))⟩
theorem enters_left (args : Array Value) (w : World) : (callFunc 106 args).run Tryd.prog w = .ok (.enter 106 args) w := by kernel_rfl
/-- The marks' code and list, where the graduation, the scale and the length are in their ranges. -/
theorem to_marks {zs : List P3} {s l f t : Int} (hv : gd zs = true) (hs : sc s = true) (hl : ln l = true) :
    (mrC zs f t = 2 ∧ moL zs f t = [] ∧ toE zs s l f t = 2 ∧ toL zs s l f t = []) ∨ (mrC zs f t = 3 ∧ moL zs f t = [] ∧ toE zs s l f t = 3 ∧ toL zs s l f t = []) ∨
    (mrC zs f t = 0 ∧ moL zs f t = mrL zs f t ∧ 150 < (mrL zs f t).length ∧ toE zs s l f t = 3 ∧ toL zs s l f t = []) ∨
    (mrC zs f t = 0 ∧ moL zs f t = mrL zs f t ∧ (mrL zs f t).length ≤ 150 ∧ toE zs s l f t = 0 ∧ toL zs s l f t = toF s l (mrL zs f t)) := by
  have h0 : (if gd zs = false then (1 : Int) else if inR 1000 9999 f = false ∨ inR 1000 9999 t = false then 2 else if 200 < (mrL zs f t).length then 3 else 0) = mrC zs f t := rfl
  rw [if_neg (by rw [hv]; simp)] at h0
  by_cases hr : inR 1000 9999 f = false ∨ inR 1000 9999 t = false
  · rw [if_pos hr] at h0
    have := toE_rg (s := s) (l := l) hv (.inr (.inr hr))
    exact .inl ⟨h0.symm, by unfold moL; rw [← h0, if_neg (by omega)], this.1, this.2⟩
  · rw [if_neg hr] at h0
    have hf : inR 1000 9999 f = true := by cases e : inR 1000 9999 f; exact absurd (.inl e) hr; rfl
    have ht : inR 1000 9999 t = true := by cases e : inR 1000 9999 t; exact absurd (.inr e) hr; rfl
    obtain ⟨h3, h4⟩ := toE_in hv hs hl hf ht
    by_cases h200 : 200 < (mrL zs f t).length
    · rw [if_pos h200] at h0
      have := h3 (by omega)
      exact .inr (.inl ⟨h0.symm, by unfold moL; rw [← h0, if_neg (by omega)], this.1, this.2⟩)
    · rw [if_neg h200] at h0
      have hm : moL zs f t = mrL zs f t := by unfold moL; rw [← h0, if_pos rfl]
      by_cases h150 : 150 < (mrL zs f t).length
      · exact .inr (.inr (.inl ⟨h0.symm, hm, h150, h3 h150⟩))
      · exact .inr (.inr (.inr ⟨h0.symm, hm, by omega, h4 h150⟩))

theorem ins_below {w2 wr W w5 : World} {B : Nat} {v : Value} {xs : List P3} (hB : Below B w2 wr) (hL : LstT wr B v xs) (hs : B ≤ wr.heap.size) (h5 : W.grownBy w5 v.ownBlock) (hg : Gr wr W) : Below B w2 w5 :=
  hB.trans ((hg.below.mono hs).trans (LstG.below_of (LstG.below hL hg.below) (by have := hg.below.size; omega) h5))

set_option maxRecDepth 100000 in
set_option maxHeartbeats 4000000 in
theorem to_impl (A : Option Addr) (n c : Nat) (zs : List P3) (s l f t : Int) (w : World) (hD : Dcs w) (hH : Hts w) (hn : zs.length = n) (hN : n ≤ 16777216) (hA : Reads w w.heap.size A (cells3 zs)) (hW : Wf3 zs) :
    Calls Tryd.prog 30 #[.slice A n c, .int .i64 s, .int .i64 l, .int .i64 f, .int .i64 t] w fun e w' => (∃ v, e = .returned (.tuple #[v, .int .i64 (toE zs s l f t)]) ∧ LstT w' w.heap.size v (toL zs s l f t)) ∧ Below w.heap.size w w' := by
  have HG := Lib.hid (gd_impl A n c zs w hn hN hA hW)
  have HS := Lib.hid (fun W => isScale_impl s W)
  have HN := Lib.hid (fun W => isLength_impl l W)
  have HNIL := Lib.hid (fun W => World.ownsRow_nil W w.heap.size 60 3)
  rcases Bool.eq_false_or_eq_true (gd zs) with hv | hv
  rotate_left
  · have HC := Lib.hid (toE_gd (s := s) (l := l) (f := f) (t := t) hv)
    rw [hv] at HG
    clear hv hA hn hD hH hW
    go_enter Tryd.func30, Tryd.ntmps30
    go_wp2_with (go_at_call 22; refine (HG.out).mono ?_; rintro e w' ⟨rfl, kk, os, rfl⟩)
    ((try simp only [Exit.inBlock, Exit.then]); refine bodyPost_ret (v := .tuple #[.slice none 0 0, .int .i64 1]) (by simp [results, Tryd.results30, go_sem]) rfl ?_)
    exact ⟨⟨_, by rw [HC.out.1], by rw [HC.out.2]; exact HNIL.out _⟩, Gr.below ⟨_, _, rfl⟩⟩
  rcases Bool.eq_false_or_eq_true (sc s) with hs | hs
  rotate_left
  · have HC := Lib.hid (toE_rg (l := l) (f := f) (t := t) hv (.inl hs))
    rw [hv] at HG
    rw [hs] at HS
    clear hv hA hn hs hD hH hW
    go_enter Tryd.func30, Tryd.ntmps30
    go_wp2_with (first | (go_at_call 22; refine (HG.out).mono ?_; rintro e w' ⟨rfl, kk, os, rfl⟩) | (go_at_call 83; refine (HS.out _).mono ?_; rintro e w' ⟨rfl, rfl⟩))
    ((try simp only [Exit.inBlock, Exit.then]); refine bodyPost_ret (v := .tuple #[.slice none 0 0, .int .i64 2]) (by simp [results, Tryd.results30, go_sem]) rfl ?_)
    exact ⟨⟨_, by rw [HC.out.1], by rw [HC.out.2]; exact HNIL.out _⟩, Gr.below ⟨_, _, rfl⟩⟩
  rcases Bool.eq_false_or_eq_true (ln l) with hl | hl
  rotate_left
  · have HC := Lib.hid (toE_rg (s := s) (f := f) (t := t) hv (.inr (.inl hl)))
    rw [hv] at HG
    rw [hs] at HS
    rw [hl] at HN
    clear hv hA hn hs hl hD hH hW
    go_enter Tryd.func30, Tryd.ntmps30
    go_wp2_with (first | (go_at_call 22; refine (HG.out).mono ?_; rintro e w' ⟨rfl, kk, os, rfl⟩) | (go_at_call 83; refine (HS.out _).mono ?_; rintro e w' ⟨rfl, rfl⟩) | (go_at_call 84; refine (HN.out _).mono ?_; rintro e w' ⟨rfl, rfl⟩))
    ((try simp only [Exit.inBlock, Exit.then]); refine bodyPost_ret (v := .tuple #[.slice none 0 0, .int .i64 2]) (by simp [results, Tryd.results30, go_sem]) rfl ?_)
    exact ⟨⟨_, by rw [HC.out.1], by rw [HC.out.2]; exact HNIL.out _⟩, Gr.below ⟨_, _, rfl⟩⟩
  have HM := Lib.hid (fun W (hg : Gr w W) => mo_impl A n c zs f t W hn hN (hA.gr hg) hW)
  have HMI := Lib.hid (fun y (y1 : 1000 ≤ y) (y2 : y ≤ 9999) W (hd : Dcs W) => middleOf_any y s l W hd ((fg_iff _ _).2 ⟨⟨y1, y2⟩, by omega⟩) hs hl)
  have HPW := Lib.hid (mrL_facts zs f t hv).1
  have HBD := Lib.hid (fun x (hx : x ∈ mrL zs f t) => (mks_facts hv).2.1 x (List.mem_filter.1 hx).1)
  have hcs := to_marks (f := f) (t := t) hv hs hl
  rw [hv] at HG
  rw [hs] at HS
  rw [hl] at HN
  clear hv hs hl hA hn hW
  generalize toE zs s l f t = cd at *
  generalize toL zs s l f t = TL at *
  generalize mrC zs f t = mc at *
  generalize moL zs f t = ML at *
  rcases hcs with ⟨rfl, rfl, rfl, rfl⟩ | ⟨rfl, rfl, rfl, rfl⟩ | ⟨rfl, rfl, h150, rfl, rfl⟩ | ⟨rfl, rfl, h150, rfl, rfl⟩
  · clear HPW HBD HMI hD hH
    go_enter Tryd.func30, Tryd.ntmps30
    go_wp2_with (first | (go_at_call 22; refine (HG.out).mono ?_; rintro e w' ⟨rfl, kk, os, rfl⟩) | (go_at_call 83; refine (HS.out _).mono ?_; rintro e w' ⟨rfl, rfl⟩) | (go_at_call 84; refine (HN.out _).mono ?_; rintro e w' ⟨rfl, rfl⟩) | (go_at_call 102; refine (HM.out _ (by repeat (first | with_reducible exact Gr.refl _ | with_reducible refine Gr.alloc ?_ _ | with_reducible refine Gr.gr ?_ _ _ | with_reducible refine Gr.drew ?_ | with_reducible refine Gr.drewN ?_ _))).mono ?_; rintro e w2 ⟨⟨v, rfl, hv⟩, hb2⟩))
    ((try simp only [Exit.inBlock, Exit.then]); refine bodyPost_ret (v := .tuple #[.slice none 0 0, .int .i64 2]) (by simp [results, Tryd.results30, go_sem]) rfl ?_)
    exact ⟨⟨_, rfl, HNIL.out _⟩, (Gr.below (w := w) (by repeat (first | with_reducible exact Gr.refl _ | with_reducible refine Gr.alloc ?_ _ | with_reducible refine Gr.gr ?_ _ _ | with_reducible refine Gr.drew ?_ | with_reducible refine Gr.drewN ?_ _))).trans (hb2.mono (Gr.below (w := w) (by repeat (first | with_reducible exact Gr.refl _ | with_reducible refine Gr.alloc ?_ _ | with_reducible refine Gr.gr ?_ _ _ | with_reducible refine Gr.drew ?_ | with_reducible refine Gr.drewN ?_ _))).size)⟩
  · clear HPW HBD HMI hD hH
    go_enter Tryd.func30, Tryd.ntmps30
    go_wp2_with (first | (go_at_call 22; refine (HG.out).mono ?_; rintro e w' ⟨rfl, kk, os, rfl⟩) | (go_at_call 83; refine (HS.out _).mono ?_; rintro e w' ⟨rfl, rfl⟩) | (go_at_call 84; refine (HN.out _).mono ?_; rintro e w' ⟨rfl, rfl⟩) | (go_at_call 102; refine (HM.out _ (by repeat (first | with_reducible exact Gr.refl _ | with_reducible refine Gr.alloc ?_ _ | with_reducible refine Gr.gr ?_ _ _ | with_reducible refine Gr.drew ?_ | with_reducible refine Gr.drewN ?_ _))).mono ?_; rintro e w2 ⟨⟨v, rfl, hv⟩, hb2⟩))
    ((try simp only [Exit.inBlock, Exit.then]); refine bodyPost_ret (v := .tuple #[.slice none 0 0, .int .i64 3]) (by simp [results, Tryd.results30, go_sem]) rfl ?_)
    exact ⟨⟨_, rfl, HNIL.out _⟩, (Gr.below (w := w) (by repeat (first | with_reducible exact Gr.refl _ | with_reducible refine Gr.alloc ?_ _ | with_reducible refine Gr.gr ?_ _ _ | with_reducible refine Gr.drew ?_ | with_reducible refine Gr.drewN ?_ _))).trans (hb2.mono (Gr.below (w := w) (by repeat (first | with_reducible exact Gr.refl _ | with_reducible refine Gr.alloc ?_ _ | with_reducible refine Gr.gr ?_ _ _ | with_reducible refine Gr.drew ?_ | with_reducible refine Gr.drewN ?_ _))).size)⟩
  · clear HPW HBD HMI hD hH
    generalize mrL zs f t = M at *
    have h150' : (150 : Int) < (M.length : Int) := by omega
    go_enter Tryd.func30, Tryd.ntmps30
    go_wp2_with (first | (go_at_call 22; refine (HG.out).mono ?_; rintro e w' ⟨rfl, kk, os, rfl⟩) | (go_at_call 83; refine (HS.out _).mono ?_; rintro e w' ⟨rfl, rfl⟩) | (go_at_call 84; refine (HN.out _).mono ?_; rintro e w' ⟨rfl, rfl⟩) | (go_at_call 102; refine (HM.out _ (by repeat (first | with_reducible exact Gr.refl _ | with_reducible refine Gr.alloc ?_ _ | with_reducible refine Gr.gr ?_ _ _ | with_reducible refine Gr.drew ?_ | with_reducible refine Gr.drewN ?_ _))).mono ?_; rintro e w2 ⟨⟨v, rfl, hv⟩, hb2⟩; obtain ⟨g, cp, rfl, -, -, -⟩ := Lst.form hv (by omega)))
    ((try simp only [Exit.inBlock, Exit.then]); refine bodyPost_ret (v := .tuple #[.slice none 0 0, .int .i64 3]) (by simp [results, Tryd.results30, go_sem]) rfl ?_)
    exact ⟨⟨_, rfl, HNIL.out _⟩, (Gr.below (w := w) (by repeat (first | with_reducible exact Gr.refl _ | with_reducible refine Gr.alloc ?_ _ | with_reducible refine Gr.gr ?_ _ _ | with_reducible refine Gr.drew ?_ | with_reducible refine Gr.drewN ?_ _))).trans (hb2.mono (Gr.below (w := w) (by repeat (first | with_reducible exact Gr.refl _ | with_reducible refine Gr.alloc ?_ _ | with_reducible refine Gr.gr ?_ _ _ | with_reducible refine Gr.drew ?_ | with_reducible refine Gr.drewN ?_ _))).size)⟩
  · have HTK := Lib.hid (fun (k : Nat) (m : Int) (h : (mrL zs f t)[k]? = some m) => toF_take s l h)
    have HLS := Lib.hid (fun (k : Nat) (m : Int) (h : (mrL zs f t)[k]? = some m) (y : P3) (hy : y ∈ toF s l ((mrL zs f t).take k)) => take_less HPW.out h _ (toF_mem s l _ y hy))
    have HLN := Lib.hid (fun k => toF_len s l ((mrL zs f t).take k))
    clear HPW
    generalize mrL zs f t = M at *
    have HD := Lib.hid hD
    have HH := Lib.hid hH
    clear hD hH
    obtain ⟨q, hq⟩ : ∃ q, M.length = q := ⟨_, rfl⟩
    go_enter Tryd.func30, Tryd.ntmps30
    go_wp2_with (first | (go_at_call 22; refine (HG.out).mono ?_; rintro e w' ⟨rfl, kk, os, rfl⟩) | (go_at_call 83; refine (HS.out _).mono ?_; rintro e w' ⟨rfl, rfl⟩) | (go_at_call 84; refine (HN.out _).mono ?_; rintro e w' ⟨rfl, rfl⟩) | (go_at_call 102; refine (HM.out _ (by repeat (first | with_reducible exact Gr.refl _ | with_reducible refine Gr.alloc ?_ _ | with_reducible refine Gr.gr ?_ _ _ | with_reducible refine Gr.drew ?_ | with_reducible refine Gr.drewN ?_ _))).mono ?_; rintro e w2 ⟨⟨v, rfl, hv⟩, hb2⟩; obtain ⟨A1, c1, rfl, hr1⟩ := Lst.slice hv; rw [hq] at hv ⊢; have HR1 := Lib.hid hr1; clear hv hr1))
    have HW2 := Lib.hid ((Gr.below (show Gr w (gr w kk os) from (by repeat (first | with_reducible exact Gr.refl _ | with_reducible refine Gr.alloc ?_ _ | with_reducible refine Gr.gr ?_ _ _ | with_reducible refine Gr.drew ?_ | with_reducible refine Gr.drewN ?_ _)))).trans (hb2.mono (Gr.below (show Gr w (gr w kk os) from (by repeat (first | with_reducible exact Gr.refl _ | with_reducible refine Gr.alloc ?_ _ | with_reducible refine Gr.gr ?_ _ _ | with_reducible refine Gr.drew ?_ | with_reducible refine Gr.drewN ?_ _)))).size))
    clear hb2
    have hws := HW2.out.size
    have HL0 : Hid (LstT (w2.alloc (.cells #[] 60)) w2.heap.size (.slice (some ⟨w2.heap.size, 0, none⟩) 0 0) []) := Lib.hid (LstG.new _ _ _ (Nat.le_refl _))
    have HB0 : Hid (Below w2.heap.size w2 (w2.alloc (.cells #[] 60))) := Lib.hid ((Below.refl _ _).alloc (Nat.le_refl _) _)
    generalize w2.alloc (.cells #[] 60) = w3 at *
    go_loopw [14, 47] (fun v i wq => ∃ k : Nat, i = .int .i64 k ∧ k ≤ q ∧ Hid (LstT wq w2.heap.size v (toF s l (M.take k))) ∧ Hid (Below w2.heap.size w2 wq)) (fun _ i _ => q - (intOf i).toNat)
    case atStart => exact ⟨0, rfl, by omega, HL0, HB0⟩
    case round =>
      obtain ⟨k, rfl, hk, HL, HB⟩ := hrel
      clear HL0 HB0
      have hsz := HB.out.size
      by_cases hlt : k < q
      · obtain ⟨x, hx⟩ := some_at (l := M) (k := k) (by omega)
        obtain ⟨x1, x2⟩ := HBD.out x (List.mem_of_getElem? hx)
        have hx2 : (M.map vi)[k]? = some (vi x) := by rw [List.getElem?_map, hx]; rfl
        obtain ⟨g, o, rfl, hg, hc⟩ := ((HR1.out.below HB.out).at_ hx2)
        have HTX := Lib.hid (HTK.out k x hx)
        have HLX := Lib.hid (insB_left (tkOf s l x) (toF s l (M.take k)) (HLS.out k x hx))
        have HML := Lib.hid (HMI.out x x1 (by omega))
        have HDW := Lib.hid (HD.out.blw (HW2.out.trans (HB.out.mono hws)))
        have HHW := Lib.hid (HH.out.blw (HW2.out.trans (HB.out.mono hws)))
        have HTC := Lib.hid (fun W (hg : Gr wr W) => tick_any x (mdl s l x) W (by omega) (by omega) (HHW.out.gr hg))
        have HIN := Lib.hid (fun W (hg : Gr wr W) => insT_any 106 #[] ilT (tkOf s l x) u14 (toF s l (M.take k)) w2.heap.size W (by rw [HLN.out, List.length_take]; omega) (by have := hg.below.size; omega) (LstG.below HL.out hg.below) enters_left (fun W' _ y _ => isLeft_any (tkOf s l x) y W'))
        rw [← HLX.out, ← HTX.out, show tkOf s l x = (x, mdl s l x, hgt x) from rfl] at HIN
        simp only at HIN
        generalize mdl s l x = md at *
        generalize hgt x = ht at *
        clear hx hx2 HTX HLX
        go_wp2_with (first | (go_at_call 103; refine (HML.out _ HDW.out).mono ?_; rintro e w' ⟨rfl, k1, os1, rfl⟩) | (go_at_call 105; refine (HTC.out _ (by repeat (first | with_reducible exact Gr.refl _ | with_reducible refine Gr.alloc ?_ _ | with_reducible refine Gr.gr ?_ _ _ | with_reducible refine Gr.drew ?_ | with_reducible refine Gr.drewN ?_ _))).mono ?_; rintro e w' ⟨rfl, k2, os2, rfl⟩) | (go_at_call 104; refine (HIN.out _ (by repeat (first | with_reducible exact Gr.refl _ | with_reducible refine Gr.alloc ?_ _ | with_reducible refine Gr.gr ?_ _ _ | with_reducible refine Gr.drew ?_ | with_reducible refine Gr.drewN ?_ _))).mono ?_; rintro e w5 ⟨⟨v5, rfl, hv5, -⟩, hb5⟩; have HV5 := Lib.hid hv5; have HB5 := Lib.hid (ins_below HB.out HL.out hsz hb5 (by repeat (first | with_reducible exact Gr.refl _ | with_reducible refine Gr.alloc ?_ _ | with_reducible refine Gr.gr ?_ _ _ | with_reducible refine Gr.drew ?_ | with_reducible refine Gr.drewN ?_ _))); clear hv5 hb5))
        go_roundw
        case rel => exact ⟨k + 1, by go_num, by omega, HV5, HB5⟩
        case measure => simp [intOf]; omega
      · obtain rfl : k = q := by omega
        have HF2 := Lib.hid (show M.take k = M from List.take_of_length_le (by omega))
        rw [HF2.out] at HL
        go_wp2
        ((try simp only [Exit.inBlock, Exit.then]); refine bodyPost_ret (v := .tuple #[u14, .int .i64 0]) (by simp [results, Tryd.results30, go_sem]) rfl ?_)
        exact ⟨⟨_, rfl, LstG.mono HL.out hws⟩, HW2.out.trans (HB.out.mono hws)⟩
end Go.Proofs.YtggflladheemoaaDoor
