/- Contracts of chapter 13: the figure of a chain. -/
import Derived.Test.YtphebmbapllinaaC13a
import Derived.Test.Ytphebmbapllinaa2A
import Derived.Test.YtphebmbapllinaaLm
namespace Go.Proofs.Ytphebmbapllinaa
open Go.RowKit
set_option linter.unusedVariables false
set_option linter.unusedSimpArgs false

theorem applyTo_any (d t : Int) (b : Bool) (x y : Int) (w : World) :
    Calls Try.prog 58 #[.agg #[.int .i64 d, .int .i64 t, .bool b], .agg #[.int .i64 x, .int .i64 y]] w fun e w' => e = .returned (.tuple #[.agg #[.int .i64 (tmX (x, y) (d, t, b)).1.1, .int .i64 (tmX (x, y) (d, t, b)).1.2], .int .i64 (tmX (x, y) (d, t, b)).2]) ∧ Gr w w' := by
  cases b
  · have HM := Lib.hid (fun W => muR_impl x y d t W)
    rw [tmX_mul]
    simp only
    generalize muR x y d t = z at *
    go_enter Try.func58, Try.ntmps58
    go_wp2_with (go_at_call 87; (with_reducible refine (HM.out _).mono ?_); rintro e w' ⟨rfl, k, os, rfl⟩)
    ((try simp only [Exit.inBlock, Exit.then]); refine bodyPost_ret (v := .tuple #[.agg #[.int .i64 z.1.1, .int .i64 z.1.2], .int .i64 z.2]) (by simp [results, Try.results58, go_sem]) rfl ?_)
    exact ⟨rfl, (by repeat (first | with_reducible exact Gr.refl _ | with_reducible refine Gr.alloc ?_ _ | with_reducible refine Gr.gr ?_ _ _ | with_reducible refine Gr.drew ?_ | with_reducible refine Gr.drewN ?_ _))⟩
  · have HM := Lib.hid (fun W => diR_impl x y d t W)
    rw [tmX_div]
    simp only
    generalize diR x y d t = z at *
    go_enter Try.func58, Try.ntmps58
    go_wp2_with (go_at_call 86; (with_reducible refine (HM.out _).mono ?_); rintro e w' ⟨rfl, k, os, rfl⟩)
    ((try simp only [Exit.inBlock, Exit.then]); refine bodyPost_ret (v := .tuple #[.agg #[.int .i64 z.1.1, .int .i64 z.1.2], .int .i64 z.2]) (by simp [results, Try.results58, go_sem]) rfl ?_)
    exact ⟨rfl, (by repeat (first | with_reducible exact Gr.refl _ | with_reducible refine Gr.alloc ?_ _ | with_reducible refine Gr.gr ?_ _ _ | with_reducible refine Gr.drew ?_ | with_reducible refine Gr.drewN ?_ _))⟩
theorem hdF_at {cs : List Tm} {m : Tm} (h : cs[0]? = some m) : hdF cs = (m.1, m.2.1) := by
  cases cs with
  | nil => cases h
  | cons x r => simp at h; subst h; rfl
theorem tmX_0 (f : Int × Int) (m : Tm) : ((tmX f m).2 == 0) = true ∨ ((tmX f m).2 == 0) = false := by cases h : ((tmX f m).2 == 0) <;> simp
/-- A slice cut from a place on. -/
theorem cut_any {P : Program} {T : TypeId} (hT : P.underlying T = some (.slice (P.elem T))) {i0 : TypeInfo} {sz : Nat} (hi : P.info? (P.elem T) = some i0) (hs : i0.size = sz) (g o n cap l : Nat) (h : l ≤ n) (hc : n ≤ cap) :
    ∃ o' E, (∀ W, (Instr.sliceAt T (.slice (some ⟨g, o, none⟩) n cap) (some (.int .i64 (l : Int))) none none).run P W = .ok (.slice (some ⟨g, o', none⟩) (n - l) E) W) ∧ (l < n → o' = o + l * sz) ∧ n - l ≤ E := by
  refine ⟨if cap = l then o else o + l * sz, cap - l, fun W => ?_, fun h1 => if_neg (by omega), by omega⟩
  rw [run_sliceAt_slice W T _ _ _ _ hT, run_slice_l W T _ n cap hT .i64 (l : Int) (by omega) (by omega)]
  have hsz : (sizeOf (P.elem T)).run P W = .ok sz W := by simp [sizeOf, typeInfo, hi, hs]
  rw [hsz]
  simp only [Result.andThen, sliced, Int.toNat_natCast]
  by_cases hc : cap = l
  · rw [if_pos hc, if_pos hc]
  · rw [if_neg hc, if_neg hc]
    simp only [Option.map_some, Addr.add]
    split <;> first | rfl | simp_all
/-- The same of terms: what is left reads as the rest. -/
theorem cut_terms (g o n cap l : Nat) (cs : List Tm) (hn : cs.length = n) (h : l ≤ n) (hc : n ≤ cap) :
    ∃ o' E, (∀ W, (Instr.sliceAt 24 (.slice (some ⟨g, o, none⟩) n cap) (some (.int .i64 (l : Int))) none none).run Try.prog W = .ok (.slice (some ⟨g, o', none⟩) (n - l) E) W) ∧ (∀ (W : World) B, Reads W B (some ⟨g, o, none⟩) (tcells cs) → Reads W B (some ⟨g, o', none⟩) (tcells (cs.drop l))) ∧ n - l ≤ E := by
  obtain ⟨o', E, h1, h2, h3⟩ := cut_any (P := Try.prog) (T := 24) (sz := 3) (by kernel_rfl) (i0 := (Try.prog.info? 64).get (by kernel_rfl)) (by kernel_rfl) (by kernel_rfl) g o n cap l h hc
  refine ⟨o', E, h1, fun W B hR => ?_, h3⟩
  by_cases hl : l < n
  · rw [h2 hl]
    exact Reads.tailt hR l (by omega)
  · rw [List.drop_eq_nil_of_le (by omega)]
    exact Reads.nil _ _ _
theorem cfR_impl (A : Option Addr) (n c : Nat) (cs : List Tm) (w : World) (hn : cs.length = n) (hN : n ≤ 16777216) (hc : n ≤ c) (hA : Reads w w.heap.size A (tcells cs)) :
    Calls Try.prog 27 #[.slice A n c] w fun e w' => e = .returned (.tuple #[.agg #[.int .i64 (cfR cs).1.1, .int .i64 (cfR cs).1.2], .int .i64 (cfR cs).2]) ∧ Gr w w' := by
  have HI := Lib.hid (fun W h => isChain_impl A n c cs W hn hN h)
  have HL := Lib.hid hn
  have HM := Lib.hid hA
  rcases chnB_tf cs with hb | hb
  rotate_left
  · rw [hb] at HI
    have HR := Lib.hid (cfR_no hb)
    clear hb hn hA
    go_enter Try.func27, Try.ntmps27
    go_wp2_with (go_at_call 23; (with_reducible refine (HI.out _ (HM.out.gr (by repeat (first | with_reducible exact Gr.refl _ | with_reducible refine Gr.alloc ?_ _ | with_reducible refine Gr.gr ?_ _ _ | with_reducible refine Gr.drew ?_ | with_reducible refine Gr.drewN ?_ _)))).mono ?_); rintro e w' ⟨rfl, k, os, rfl⟩)
    ((try simp only [Exit.inBlock, Exit.then]); refine bodyPost_ret (v := .tuple #[.agg #[.int .i64 0, .int .i64 0], .int .i64 1]) (by simp [results, Try.results27, go_sem]) rfl ?_)
    exact ⟨ret_fig (by rw [HR.out]) (by rw [HR.out]) (by rw [HR.out]), (by repeat (first | with_reducible exact Gr.refl _ | with_reducible refine Gr.alloc ?_ _ | with_reducible refine Gr.gr ?_ _ _ | with_reducible refine Gr.drew ?_ | with_reducible refine Gr.drewN ?_ _))⟩
  obtain ⟨⟨l1, l6⟩, -, -⟩ := (chnB_iff cs).1 hb
  rw [hn] at l1 l6
  obtain ⟨m, hm⟩ := some_at (l := cs) (k := 0) (by rw [hn]; omega)
  obtain ⟨g, o, rfl, hg, -, -, -⟩ := hA.att hm
  have HR := Lib.hid (cfR_ok hb)
  rw [hdF_at hm] at HR
  obtain ⟨o', E, hcut, hrd, -⟩ := cut_terms g o n c 1 cs hn l1 hc
  have HT := Lib.hid (fun W (h : Gr w W) => hrd W W.heap.size (hA.gr h))
  have hcut1 : ∀ W, (Instr.sliceAt 24 (.slice (some ⟨g, o, none⟩) n c) (some (.int .i64 1)) none none).run Try.prog W = .ok (.slice (some ⟨g, o', none⟩) (n - 1) E) W := hcut
  have HDF := Lib.hid (fun i x (h : (cs.drop 1)[i]? = some x) => chnB_fg hb (cs := cs) (i := 1 + i) (by rw [← List.getElem?_drop]; exact h))
  have hGa : Gr w (w.alloc (.cells #[.int .i64 0, .int .i64 0] 38)) := (by repeat (first | with_reducible exact Gr.refl _ | with_reducible refine Gr.alloc ?_ _ | with_reducible refine Gr.gr ?_ _ _ | with_reducible refine Gr.drew ?_ | with_reducible refine Gr.drewN ?_ _))
  have P0 := Blk.new w 38 #[.int .i64 0, .int .i64 0]
  have HLT := Lib.hid (show (cs.drop 1).length = n - 1 by rw [List.length_drop, hn])
  have HX := Lib.hid (fun W (h : Gr w W) => (hA.gr h).att hm)
  obtain ⟨d, t, b⟩ := m
  simp only at HX HR
  rw [hb] at HI
  clear hb hn hA hm hcut hrd
  generalize cs.drop 1 = ds at *
  go_enter Try.func27, Try.ntmps27
  go_wp2_with fail
  generalize w.alloc (.cells #[.int .i64 0, .int .i64 0] 38) = w0 at *
  refine (HI.out _ (HM.out.gr hGa)).mono ?_
  rintro e w1 ⟨rfl, hg1⟩
  have hG1 := hGa.trans hg1
  replace P0 := P0.gr hg1
  have hs0 := P0.lt
  obtain ⟨g', o2, e', hgl, x0, x1, x2⟩ := HX.out w1 hG1
  injection e' with e'
  injection e' with ea eb
  subst ea eb
  simp only [Nat.zero_mul, Nat.add_zero] at x0 x1 x2
  clear hg1 hGa
  go_wp2_with fail
  clear x0 x1 x2
  have P1 := Blk.new w1 38 #[.int .i64 d, .int .i64 t]
  replace P0 := P0.alloc (.cells #[.int .i64 d, .int .i64 t] 38)
  have hB1 : Below w.heap.size w (w1.alloc (.cells #[.int .i64 d, .int .i64 t] 38)) := (hG1.alloc _).below
  generalize w1.alloc (.cells #[.int .i64 d, .int .i64 t] 38) = v1 at *
  have hlt1 := P1.lt
  go_loopw [20] (fun i wr => ∃ (k : Nat) (f : Int × Int), k ≤ n - 1 ∧ i = .int .i64 k ∧ Hid (cfR cs = cfS f (ds.drop k)) ∧ Blk wr w.heap.size 38 #[.int .i64 0, .int .i64 0] ∧ Blk wr w1.heap.size 38 #[.int .i64 f.1, .int .i64 f.2] ∧ Below w.heap.size w wr) (fun i _ => (n - 1) - (intOf i).toNat)
  case atStart => exact ⟨0, (d, t), by omega, rfl, by rw [List.drop_zero]; exact HR, P0, P1, hB1⟩
  case round =>
    clear P0 P1 hB1
    obtain ⟨k, f, hk, rfl, HE, Q0, Q1, hB⟩ := hrel
    obtain ⟨fx, fy⟩ := f
    simp only at Q1
    by_cases hlt : k < n - 1
    · obtain ⟨m, hm⟩ := some_at (l := ds) (k := k) (by rw [HLT.out]; exact hlt)
      obtain ⟨g', o2, e', hg2, x0, x1, x2⟩ := (HT.out wr (Gr.of_below hB)).att hm
      injection e' with e'
      injection e' with ea eb
      subst ea eb
      have HD := Lib.hid (dropT_at hm)
      obtain ⟨d2, t2, b2⟩ := m
      simp only at x0 x1 x2
      have HA := Lib.hid (fun W => applyTo_any d2 t2 b2 fx fy W)
      have HOK := Lib.hid (fun h => cfS_ok (fx, fy) (d2, t2, b2) (ds.drop (k + 1)) h)
      have HNO := Lib.hid (fun h => cfS_no (fx, fy) (d2, t2, b2) (ds.drop (k + 1)) h)
      rw [HD.out] at HE
      clear hm
      generalize tmX (fx, fy) (d2, t2, b2) = z at *
      obtain ⟨⟨zx, zy⟩, zc⟩ := z
      simp only at HA HOK HNO
      obtain ⟨c0, c1, -⟩ := Q1.two
      have ql := Q1.lt
      go_wp2_with fail
      have R0 := Q0.alloc (.cells #[.int .i64 d2, .int .i64 t2, .bool b2] 64)
      have R1 := Q1.alloc (.cells #[.int .i64 d2, .int .i64 t2, .bool b2] 64)
      have hB2 := hB.alloc hB.size (.cells #[.int .i64 d2, .int .i64 t2, .bool b2] 64)
      clear c0 c1 Q0 Q1 x0 x1 x2 hB ql
      generalize wr.alloc (.cells #[.int .i64 d2, .int .i64 t2, .bool b2] 64) = v2 at *
      refine (HA.out _).mono ?_
      rintro e w3 ⟨rfl, hg3⟩
      replace R0 := R0.gr hg3
      replace R1 := R1.gr hg3
      have hB3 := hB2.trans (hg3.below.mono hB2.size)
      obtain ⟨c0, c1, cf⟩ := R1.two
      obtain ⟨d0, d1, df⟩ := R0.two
      have rl := R1.lt
      have rl0 := R0.lt
      clear hg3 hB2
      rcases (show (zc != 0) = true ∨ (zc != 0) = false by cases h : (zc != 0) <;> simp) with hz | hz
      · have HQ := Lib.hid (HNO.out (by simpa using hz))
        have S0 : Blk _ _ _ #[.int .i64 0, .int .i64 0] := ((R0.set 0 (.int .i64 0)).set 1 (.int .i64 0)).alloc (.cells #[.int .i64 zx, .int .i64 zy] 38)
        obtain ⟨r0, r1, -⟩ := S0.two
        go_wp2_with fail
        ((try simp only [Exit.inBlock, Exit.then]); refine bodyPost_ret (v := .tuple #[.agg #[.int .i64 0, .int .i64 0], .int .i64 zc]) (by simp [results, Try.results27, go_sem, r0, r1, World.cell?_setCell_same']) rfl ?_)
        have hB4 := (hB3.setCell (p := ⟨w.heap.size, 0, none⟩) (Nat.le_refl _) (.int .i64 0)).setCell (p := ⟨w.heap.size, 1, none⟩) (Nat.le_refl _) (.int .i64 0)
        exact ⟨ret_fig (by rw [HE.out, HQ.out]) (by rw [HE.out, HQ.out]) (by rw [HE.out, HQ.out]), Gr.of_below (hB4.alloc hB4.size _)⟩
      · have HQ := Lib.hid (HOK.out (by simpa using hz))
        have S1 : Blk _ _ _ #[.int .i64 zx, .int .i64 zy] := ((R1.set 0 (.int .i64 zx)).set 1 (.int .i64 zy)).alloc (.cells #[.int .i64 zx, .int .i64 zy] 38)
        have S0 := ((R0.far (a := ⟨w1.heap.size, 0, none⟩) (by show w1.heap.size ≠ w.heap.size; omega) (.int .i64 zx)).far (a := ⟨w1.heap.size, 1, none⟩) (by show w1.heap.size ≠ w.heap.size; omega) (.int .i64 zy)).alloc (.cells #[.int .i64 zx, .int .i64 zy] 38)
        have hB5 := (hB3.setCell (p := ⟨w1.heap.size, 0, none⟩) (by show w.heap.size ≤ w1.heap.size; omega) (.int .i64 zx)).setCell (p := ⟨w1.heap.size, 1, none⟩) (by show w.heap.size ≤ w1.heap.size; omega) (.int .i64 zy)
        have hB4 := hB5.alloc hB5.size (.cells #[.int .i64 zx, .int .i64 zy] 38)
        go_wp2_with fail
        go_roundw
        case rel => exact ⟨k + 1, (zx, zy), by omega, by go_num, Lib.hid (by rw [HE.out, HQ.out]), S0, S1, hB4⟩
        case measure => simp [intOf]; omega
    · obtain rfl : k = n - 1 := by omega
      have HN2 := Lib.hid (show ds.drop (n - 1) = [] from List.drop_eq_nil_of_le (by rw [HLT.out]; omega))
      rw [HN2.out, cfS_nil] at HE
      obtain ⟨c0, c1, -⟩ := Q1.two
      obtain ⟨d0, d1, df⟩ := Q0.two
      go_wp2
      ((try simp only [Exit.inBlock, Exit.then]); refine bodyPost_ret (v := .tuple #[.agg #[.int .i64 fx, .int .i64 fy], .int .i64 0]) (by simp [results, Try.results27, go_sem, c0, c1, d0, d1, World.cell?_setCell_same']) rfl ?_)
      exact ⟨ret_fig (by rw [HE.out]) (by rw [HE.out]) (by rw [HE.out]), Gr.of_below ((hB.setCell (p := ⟨w.heap.size, 0, none⟩) (Nat.le_refl _) _).setCell (p := ⟨w.heap.size, 1, none⟩) (Nat.le_refl _) _)⟩
set_option maxRecDepth 100000 in
set_option maxHeartbeats 4000000 in
theorem cfR_spec (A : Option Addr) (n c : Nat) (cs : List Tm) (w : World) (hn : cs.length = n) (hN : n ≤ 16777216) (hA : Reads w w.heap.size A (tcells cs)) :
    Calls Try.prog 28 #[.slice A n c] w fun e w' => e = .returned (.tuple #[.agg #[.int .i64 (cfR cs).1.1, .int .i64 (cfR cs).1.2], .int .i64 (cfR cs).2]) ∧ Gr w w' := by
  have HI := Lib.hid (fun W h => isChain_spec A n c cs W hn hN h)
  have HL := Lib.hid hn
  have HM := Lib.hid hA
  rcases chnB_tf cs with hb | hb
  rotate_left
  · rw [hb] at HI
    have HR := Lib.hid (cfR_no hb)
    clear hb hn hA
    go_enter Try.func28, Try.ntmps28
    go_wp2_with (go_at_call 36; (with_reducible refine (HI.out _ (HM.out.gr (by repeat (first | with_reducible exact Gr.refl _ | with_reducible refine Gr.alloc ?_ _ | with_reducible refine Gr.gr ?_ _ _ | with_reducible refine Gr.drew ?_ | with_reducible refine Gr.drewN ?_ _)))).mono ?_); rintro e w' ⟨rfl, k, os, rfl⟩)
    ((try simp only [Exit.inBlock, Exit.then]); refine bodyPost_ret (v := .tuple #[.agg #[.int .i64 0, .int .i64 0], .int .i64 1]) (by simp [results, Try.results28, go_sem]) rfl ?_)
    exact ⟨ret_fig (by rw [HR.out]) (by rw [HR.out]) (by rw [HR.out]), (by repeat (first | with_reducible exact Gr.refl _ | with_reducible refine Gr.alloc ?_ _ | with_reducible refine Gr.gr ?_ _ _ | with_reducible refine Gr.drew ?_ | with_reducible refine Gr.drewN ?_ _))⟩
  obtain ⟨⟨l1, l6⟩, -, -⟩ := (chnB_iff cs).1 hb
  rw [hn] at l1 l6
  obtain ⟨m, hm⟩ := some_at (l := cs) (k := 0) (by rw [hn]; omega)
  obtain ⟨g, o, rfl, hg, -, -, -⟩ := hA.att hm
  have HR := Lib.hid (cfR_ok hb)
  rw [hdF_at hm] at HR
  have hGa : Gr w (w.alloc (.cells #[.int .i64 0, .int .i64 0] 38)) := (by repeat (first | with_reducible exact Gr.refl _ | with_reducible refine Gr.alloc ?_ _ | with_reducible refine Gr.gr ?_ _ _ | with_reducible refine Gr.drew ?_ | with_reducible refine Gr.drewN ?_ _))
  have P0 := Blk.new w 38 #[.int .i64 0, .int .i64 0]
  have HX := Lib.hid (fun W (h : Gr w W) => (hA.gr h).att hm)
  obtain ⟨d, t, b⟩ := m
  simp only at HX HR
  rw [hb] at HI
  clear hb hn hA hm
  go_enter Try.func28, Try.ntmps28
  go_wp2_with fail
  generalize w.alloc (.cells #[.int .i64 0, .int .i64 0] 38) = w0 at *
  refine (HI.out _ (HM.out.gr hGa)).mono ?_
  rintro e w1 ⟨rfl, hg1⟩
  have hG1 := hGa.trans hg1
  replace P0 := P0.gr hg1
  have hs0 := P0.lt
  obtain ⟨g', o2, e', hgl, x0, x1, x2⟩ := HX.out w1 hG1
  injection e' with e'
  injection e' with ea eb
  subst ea eb
  simp only [Nat.zero_mul, Nat.add_zero] at x0 x1 x2
  clear hg1 hGa
  go_wp2_with fail
  clear x0 x1 x2
  have P1 := Blk.new w1 38 #[.int .i64 d, .int .i64 t]
  replace P0 := P0.alloc (.cells #[.int .i64 d, .int .i64 t] 38)
  have hB1 : Below w.heap.size w (w1.alloc (.cells #[.int .i64 d, .int .i64 t] 38)) := (hG1.alloc _).below
  generalize w1.alloc (.cells #[.int .i64 d, .int .i64 t] 38) = v1 at *
  have hlt1 := P1.lt
  go_loopw [5] (fun i wr => ∃ (k : Nat) (f : Int × Int), 1 ≤ k ∧ k ≤ n ∧ i = .int .i64 k ∧ Hid (cfR cs = cfS f (cs.drop k)) ∧ Blk wr w.heap.size 38 #[.int .i64 0, .int .i64 0] ∧ Blk wr w1.heap.size 38 #[.int .i64 f.1, .int .i64 f.2] ∧ Below w.heap.size w wr) (fun i _ => n - (intOf i).toNat)
  case atStart => exact ⟨1, (d, t), by omega, by omega, rfl, HR, P0, P1, hB1⟩
  case round =>
    clear P0 P1 hB1
    obtain ⟨k, f, hk1, hk, rfl, HE, Q0, Q1, hB⟩ := hrel
    obtain ⟨fx, fy⟩ := f
    simp only at Q1
    by_cases hlt : k < n
    · obtain ⟨m, hm⟩ := some_at (l := cs) (k := k) (by rw [HL.out]; exact hlt)
      have HCs := Lib.hid (fun W (h : Below w.heap.size w W) => (HM.out.below h).att hm)
      have HD := Lib.hid (dropT_at hm)
      obtain ⟨d2, t2, b2⟩ := m
      simp only at HCs
      have HMu := Lib.hid (fun W => muR_spec fx fy d2 t2 W)
      have HDi := Lib.hid (fun W => diR_spec fx fy d2 t2 W)
      have hxm := tmX_mul (fx, fy) d2 t2
      have hxd := tmX_div (fx, fy) d2 t2
      have HOK := Lib.hid (fun h => cfS_ok (fx, fy) (d2, t2, b2) (cs.drop (k + 1)) h)
      have HNO := Lib.hid (fun h => cfS_no (fx, fy) (d2, t2, b2) (cs.drop (k + 1)) h)
      rw [HD.out] at HE
      clear hm
      simp only at hxm hxd
      have HB := Lib.hid hB
      have HQ1 := Lib.hid Q1
      have hws := hB.size
      have hlq0 := Q0.lt
      have hlq1 := Q1.lt
      go_wp2_with fail
      generalize muR fx fy d2 t2 = zm at *
      obtain ⟨⟨mx, my⟩, mc⟩ := zm
      refine region_mix 11 38 #[.int .i64 mx, .int .i64 my] [(6, .is (.tuple #[.agg #[.int .i64 mx, .int .i64 my], .int .i64 mc])), (10, .made wr.heap.size 2)] (by kernel_rfl) (by kernel_rfl) ?_
      (refine lz_one rfl (fun K hK => ?_); refine ⟨rfl, ?_⟩; apply Exists.intro; refine ⟨fun wz hz => ?_, ?_⟩; (focus (obtain ⟨f0, f1, -⟩ := (HQ1.out.gr hz).two; go_simp; (first | done | exact ⟨rfl, rfl⟩ | trivial))); (go_simp; refine hK _ _ ?_; clear hK K))
      (refine lz_one rfl (fun K hK => ?_); refine ⟨rfl, ?_⟩; apply Exists.intro; refine ⟨fun wz hz => ?_, ?_⟩; (focus (skip; go_simp; (first | done | exact ⟨rfl, rfl⟩ | trivial))); (go_simp; refine hK _ _ ?_; clear hK K))
      (refine lz_one rfl (fun K hK => ?_); refine ⟨rfl, ?_⟩; apply Exists.intro; refine ⟨fun wz hz => ?_, ?_⟩; (focus (skip; go_simp; (first | done | exact ⟨rfl, rfl⟩ | trivial))); (go_simp; refine hK _ _ ?_; clear hK K))
      (refine lz_one rfl (fun K hK => ?_); refine ⟨rfl, ?_⟩; apply Exists.intro; refine ⟨fun wz hz => ?_, ?_⟩; (focus (skip; go_simp; (first | done | exact ⟨rfl, rfl⟩ | trivial))); (go_simp; refine hK _ _ ?_; clear hK K))
      (refine lz_one rfl (fun K hK => ?_); refine ⟨rfl, ?_⟩; apply Exists.intro; refine ⟨fun wz hz => ?_, ?_⟩; (focus (skip; go_simp; (first | done | exact ⟨rfl, rfl⟩ | trivial))); (go_simp; refine hK _ _ ?_; clear hK K))
      (refine lz_one rfl (fun K hK => ?_); refine ⟨rfl, ?_⟩; apply Exists.intro; refine ⟨fun wz hz => ?_, ?_⟩; (focus (obtain ⟨g'', o'', e'', -, y0, y1, -⟩ := HCs.out wz (HB.out.trans (hz.below.mono hws)); injection e'' with e''; injection e'' with ea eb; subst ea eb; go_simp; (first | done | exact ⟨rfl, rfl⟩ | trivial))); (go_simp; refine hK _ _ ?_; clear hK K))
      (refine lz_many _ rfl (fun K hK => ?_); refine ⟨rfl, fun wz hz ha => ?_, fun vz wz hz hf => ?_⟩; (focus (go_simp; exact lm_call (by decide) hz (HMu.out _))); (obtain rfl := hf; clear hz wz; go_simp; refine hK _ _ ?_; clear hK K))
      (refine lz_one rfl (fun K hK => ?_); refine ⟨rfl, ?_⟩; apply Exists.intro; refine ⟨fun wz hz => ?_, ?_⟩; (focus (skip; go_simp; (first | done | exact ⟨rfl, rfl⟩ | trivial))); (go_simp; refine hK _ _ ?_; clear hK K))
      (refine lz_one rfl (fun K hK => ?_); refine ⟨rfl, ?_⟩; apply Exists.intro; refine ⟨fun wz hz => ?_, ?_⟩; (focus (skip; go_simp; (first | done | exact ⟨rfl, rfl⟩ | trivial))); (go_simp; refine hK _ _ ?_; clear hK K))
      (refine lz_one rfl (fun K hK => ?_); refine ⟨rfl, ?_⟩; apply Exists.intro; refine ⟨fun wz hz => ?_, ?_⟩; (focus (skip; go_simp; (first | done | exact ⟨rfl, rfl⟩ | trivial))); (go_simp; refine hK _ _ ?_; clear hK K))
      (refine lz_many _ rfl (fun K hK => ?_); refine ⟨rfl, fun wz hz ha => ?_, fun vz wz hz hf => ?_⟩; (focus (go_simp; exact lm_made (by decide) hz (Nat.le_refl _) rfl)); (obtain ⟨gg, rfl, hgg, -⟩ := hf; clear hz wz; go_simp; refine hK _ _ ?_; clear hK K))
      (refine lz_many _ rfl (fun K hK => ?_); refine ⟨rfl, fun wz hz ha => ?_, fun vz wz hz hf => ?_⟩; (focus (obtain ⟨g', e', hb', ds, h1, h2⟩ := ha ⟨10, .data⟩ (by simp) rfl; cases e'; obtain ⟨y0, y1, rfl⟩ := two_of h1; obtain ⟨c0, c1, cf⟩ := h2.two; have cl := h2.lt; go_simp; exact lm_two hz hb' h2 rfl)); (obtain - := hf; clear hz wz; go_simp; refine hK _ _ ?_; clear hK K))
      (refine lz_one rfl (fun K hK => ?_); refine ⟨rfl, ?_⟩; apply Exists.intro; refine ⟨fun wz hz => ?_, ?_⟩; (focus (skip; go_simp; (first | done | exact ⟨rfl, rfl⟩ | trivial))); (go_simp; refine hK _ _ ?_; clear hK K))
      refine lz_nil ?_
      intro w2 hz hg
      obtain ⟨g6, e6, R6⟩ := hg 11
      cases e6
      clear hg
      have hB2 := HB.out.trans (hz.below.mono hws)
      replace Q0 := Q0.gr hz
      replace Q1 := Q1.gr hz
      obtain ⟨g'', o'', e'', hgl2, -, -, y2⟩ := HCs.out w2 hB2
      injection e'' with e''
      injection e'' with ea eb
      subst ea eb
      clear hz hB HB HQ1
      have hgw : w.heap.size ≠ gg ∧ w1.heap.size ≠ gg := by constructor <;> omega
      cases b2
      · rw [hxm] at HOK HNO
        clear hxm hxd HDi
        simp only at HOK HNO
        have R0 := Q0
        have R1 := Q1
        have hBo := hB2
        clear Q0 Q1 hB2
        generalize mx = zx at *
        generalize my = zy at *
        generalize mc = zc at *
        have HBo := Lib.hid hBo
        rcases (show (zc != 0) = true ∨ (zc != 0) = false by cases h : (zc != 0) <;> simp) with hz | hz
        · have HQ := Lib.hid (HNO.out (by simpa using hz))
          obtain ⟨d0, d1, df⟩ := R0.two
          have rl0 := R0.lt
          have S0 : Blk _ _ _ #[.int .i64 0, .int .i64 0] := (R0.set 0 (.int .i64 0)).set 1 (.int .i64 0)
          obtain ⟨r0, r1, -⟩ := S0.two
          obtain ⟨e0, e1, -⟩ := R6.two
          go_wp2_with fail
          ((try simp only [Exit.inBlock, Exit.then]); refine bodyPost_ret (v := .tuple #[.agg #[.int .i64 0, .int .i64 0], .int .i64 zc]) (by simp [results, Try.results28, go_sem, r0, r1, World.cell?_setCell_same']) rfl ?_)
          have hB4 := (HBo.out.setCell (p := ⟨w.heap.size, 0, none⟩) (Nat.le_refl _) (.int .i64 0)).setCell (p := ⟨w.heap.size, 1, none⟩) (Nat.le_refl _) (.int .i64 0)
          exact ⟨ret_fig (by rw [HE.out, HQ.out]) (by rw [HE.out, HQ.out]) (by rw [HE.out, HQ.out]), Gr.of_below hB4⟩
        · have HQ := Lib.hid (HOK.out (by simpa using hz))
          obtain ⟨c0, c1, cf⟩ := R1.two
          obtain ⟨e0, e1, -⟩ := R6.two
          have rl := R1.lt
          have S1 : Blk _ _ _ #[.int .i64 zx, .int .i64 zy] := (R1.set 0 (.int .i64 zx)).set 1 (.int .i64 zy)
          have S0 := (R0.far (a := ⟨w1.heap.size, 0, none⟩) (by show w1.heap.size ≠ w.heap.size; omega) (.int .i64 zx)).far (a := ⟨w1.heap.size, 1, none⟩) (by show w1.heap.size ≠ w.heap.size; omega) (.int .i64 zy)
          have hB4 := (HBo.out.setCell (p := ⟨w1.heap.size, 0, none⟩) (by show w.heap.size ≤ w1.heap.size; omega) (.int .i64 zx)).setCell (p := ⟨w1.heap.size, 1, none⟩) (by show w.heap.size ≤ w1.heap.size; omega) (.int .i64 zy)
          go_wp2_with fail
          go_roundw
          case rel => exact ⟨k + 1, (zx, zy), by omega, by omega, by go_num, Lib.hid (by rw [HE.out, HQ.out]), S0, S1, hB4⟩
          case measure => simp [intOf]; omega
      · rw [hxd] at HOK HNO
        clear hxm hxd HMu
        generalize diR fx fy d2 t2 = zd at *
        obtain ⟨⟨zx, zy⟩, zc⟩ := zd
        simp only at HOK HNO HDi
        go_wp2_with fail
        clear y2
        have HQ0 := Lib.hid Q0
        have HQ1 := Lib.hid Q1
        have HB2 := Lib.hid hB2
        have hp : ∀ a' b', Gr a' b' → (∃ y z, Blk a' gg 38 #[y, z]) → (∃ y z, Blk b' gg 38 #[y, z]) := fun a' b' hg ⟨y, z, h⟩ => ⟨y, z, h.gr hg⟩
        have hws2 := hB2.size
        refine region_writes 10 gg 38 #[.int .i64 zx, .int .i64 zy] [(6, .tuple #[.agg #[.int .i64 zx, .int .i64 zy], .int .i64 zc])] (fun wz => ∃ y z, Blk wz gg 38 #[y, z]) ⟨_, _, R6⟩ (by kernel_rfl) (by kernel_rfl) ?_
        (refine lz_one rfl (fun K hK => ?_); refine ⟨rfl, ?_⟩; apply Exists.intro; refine ⟨fun wz hz => ?_, ?_⟩; (focus (obtain ⟨f0, f1, -⟩ := (hz.gx.keeps HQ1.out hgw.2).two; go_simp; (first | done | exact ⟨rfl, rfl⟩ | trivial))); (go_simp; refine hK _ _ ?_; clear hK K))
        (refine lz_one rfl (fun K hK => ?_); refine ⟨rfl, ?_⟩; apply Exists.intro; refine ⟨fun wz hz => ?_, ?_⟩; (focus (skip; go_simp; (first | done | exact ⟨rfl, rfl⟩ | trivial))); (go_simp; refine hK _ _ ?_; clear hK K))
        (refine lz_one rfl (fun K hK => ?_); refine ⟨rfl, ?_⟩; apply Exists.intro; refine ⟨fun wz hz => ?_, ?_⟩; (focus (skip; go_simp; (first | done | exact ⟨rfl, rfl⟩ | trivial))); (go_simp; refine hK _ _ ?_; clear hK K))
        (refine lz_one rfl (fun K hK => ?_); refine ⟨rfl, ?_⟩; apply Exists.intro; refine ⟨fun wz hz => ?_, ?_⟩; (focus (skip; go_simp; (first | done | exact ⟨rfl, rfl⟩ | trivial))); (go_simp; refine hK _ _ ?_; clear hK K))
        (refine lz_one rfl (fun K hK => ?_); refine ⟨rfl, ?_⟩; apply Exists.intro; refine ⟨fun wz hz => ?_, ?_⟩; (focus (skip; go_simp; (first | done | exact ⟨rfl, rfl⟩ | trivial))); (go_simp; refine hK _ _ ?_; clear hK K))
        (refine lz_one rfl (fun K hK => ?_); refine ⟨rfl, ?_⟩; apply Exists.intro; refine ⟨fun wz hz => ?_, ?_⟩; (focus (obtain ⟨g'', o'', e'', -, y0, y1, -⟩ := HCs.out wz (HB2.out.trans (hz.gx.below (by omega) hws2)); injection e'' with e''; injection e'' with ea eb; subst ea eb; go_simp; (first | done | exact ⟨rfl, rfl⟩ | trivial))); (go_simp; refine hK _ _ ?_; clear hK K))
        (refine lz_many _ rfl (fun K hK => ?_); refine ⟨rfl, fun wz hz ha => ?_, fun vz wz hz hf => ?_⟩; (focus (go_simp; exact lw_call (by decide) hp hz (HDi.out _))); (obtain rfl := hf; clear hz wz; go_simp; refine hK _ _ ?_; clear hK K))
        (refine lz_one rfl (fun K hK => ?_); refine ⟨rfl, ?_⟩; apply Exists.intro; refine ⟨fun wz hz => ?_, ?_⟩; (focus (skip; go_simp; (first | done | exact ⟨rfl, rfl⟩ | trivial))); (go_simp; refine hK _ _ ?_; clear hK K))
        (refine lz_one rfl (fun K hK => ?_); refine ⟨rfl, ?_⟩; apply Exists.intro; refine ⟨fun wz hz => ?_, ?_⟩; (focus (skip; go_simp; (first | done | exact ⟨rfl, rfl⟩ | trivial))); (go_simp; refine hK _ _ ?_; clear hK K))
        (refine lz_one rfl (fun K hK => ?_); refine ⟨rfl, ?_⟩; apply Exists.intro; refine ⟨fun wz hz => ?_, ?_⟩; (focus (skip; go_simp; (first | done | exact ⟨rfl, rfl⟩ | trivial))); (go_simp; refine hK _ _ ?_; clear hK K))
        (refine lz_many _ rfl (fun K hK => ?_); refine ⟨rfl, fun wz hz ha => ?_, fun vz wz hz hf => ?_⟩; (focus (obtain ⟨y', z', hB⟩ := hz.at'; obtain ⟨b0, b1, bf⟩ := hB.two; have bl := hB.lt; go_simp; exact lw_store hz (by simp) (((Gx.of (Gr.refl _)).set 0 _).set 1 _) ⟨_, _, (hB.set 0 _).set 1 _⟩ ((hB.set 0 _).set 1 _))); (obtain - := hf; clear hz wz; go_simp; refine hK _ _ ?_; clear hK K))
        (refine lz_one rfl (fun K hK => ?_); refine ⟨rfl, ?_⟩; apply Exists.intro; refine ⟨fun wz hz => ?_, ?_⟩; (focus (skip; go_simp; (first | done | exact ⟨rfl, rfl⟩ | trivial))); (go_simp; refine hK _ _ ?_; clear hK K))
        refine lz_nil ?_
        intro w3 hz hg
        clear R6
        have R6 : Blk w3 gg 38 #[.int .i64 zx, .int .i64 zy] := hg 10
        have R0 := hz.gx.keeps Q0 hgw.1
        have R1 := hz.gx.keeps Q1 hgw.2
        have hBo := hB2.trans (hz.gx.below (B := w.heap.size) (by omega) hws2)
        clear hg hz Q0 Q1 hB2 HQ0 HQ1 HB2
        have HBo := Lib.hid hBo
        rcases (show (zc != 0) = true ∨ (zc != 0) = false by cases h : (zc != 0) <;> simp) with hz | hz
        · have HQ := Lib.hid (HNO.out (by simpa using hz))
          obtain ⟨d0, d1, df⟩ := R0.two
          have rl0 := R0.lt
          have S0 : Blk _ _ _ #[.int .i64 0, .int .i64 0] := (R0.set 0 (.int .i64 0)).set 1 (.int .i64 0)
          obtain ⟨r0, r1, -⟩ := S0.two
          obtain ⟨e0, e1, -⟩ := R6.two
          go_wp2_with fail
          ((try simp only [Exit.inBlock, Exit.then]); refine bodyPost_ret (v := .tuple #[.agg #[.int .i64 0, .int .i64 0], .int .i64 zc]) (by simp [results, Try.results28, go_sem, r0, r1, World.cell?_setCell_same']) rfl ?_)
          have hB4 := (HBo.out.setCell (p := ⟨w.heap.size, 0, none⟩) (Nat.le_refl _) (.int .i64 0)).setCell (p := ⟨w.heap.size, 1, none⟩) (Nat.le_refl _) (.int .i64 0)
          exact ⟨ret_fig (by rw [HE.out, HQ.out]) (by rw [HE.out, HQ.out]) (by rw [HE.out, HQ.out]), Gr.of_below hB4⟩
        · have HQ := Lib.hid (HOK.out (by simpa using hz))
          obtain ⟨c0, c1, cf⟩ := R1.two
          obtain ⟨e0, e1, -⟩ := R6.two
          have rl := R1.lt
          have S1 : Blk _ _ _ #[.int .i64 zx, .int .i64 zy] := (R1.set 0 (.int .i64 zx)).set 1 (.int .i64 zy)
          have S0 := (R0.far (a := ⟨w1.heap.size, 0, none⟩) (by show w1.heap.size ≠ w.heap.size; omega) (.int .i64 zx)).far (a := ⟨w1.heap.size, 1, none⟩) (by show w1.heap.size ≠ w.heap.size; omega) (.int .i64 zy)
          have hB4 := (HBo.out.setCell (p := ⟨w1.heap.size, 0, none⟩) (by show w.heap.size ≤ w1.heap.size; omega) (.int .i64 zx)).setCell (p := ⟨w1.heap.size, 1, none⟩) (by show w.heap.size ≤ w1.heap.size; omega) (.int .i64 zy)
          go_wp2_with fail
          go_roundw
          case rel => exact ⟨k + 1, (zx, zy), by omega, by omega, by go_num, Lib.hid (by rw [HE.out, HQ.out]), S0, S1, hB4⟩
          case measure => simp [intOf]; omega
    · obtain rfl : k = n := by omega
      have HN2 := Lib.hid (show cs.drop k = [] from List.drop_eq_nil_of_le (by rw [HL.out]; omega))
      rw [HN2.out, cfS_nil] at HE
      obtain ⟨c0, c1, -⟩ := Q1.two
      obtain ⟨d0, d1, df⟩ := Q0.two
      go_wp2
      ((try simp only [Exit.inBlock, Exit.then]); refine bodyPost_ret (v := .tuple #[.agg #[.int .i64 fx, .int .i64 fy], .int .i64 0]) (by simp [results, Try.results28, go_sem, c0, c1, d0, d1, World.cell?_setCell_same']) rfl ?_)
      exact ⟨ret_fig (by rw [HE.out]) (by rw [HE.out]) (by rw [HE.out]), Gr.of_below ((hB.setCell (p := ⟨w.heap.size, 0, none⟩) (Nat.le_refl _) _).setCell (p := ⟨w.heap.size, 1, none⟩) (Nat.le_refl _) _)⟩
end Go.Proofs.Ytphebmbapllinaa
