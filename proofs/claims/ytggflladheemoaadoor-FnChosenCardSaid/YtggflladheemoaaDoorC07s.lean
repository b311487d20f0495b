/- Contracts of chapter 7: the chosen graduation, in the program. -/
import Derived.Test.YtggflladheemoaaDoorC07q
import Derived.Test.YtggflladheemoaaDoor7B
namespace Go.Proofs.YtggflladheemoaaDoor
open Go.RowKit
set_option linter.unusedVariables false
set_option linter.unusedSimpArgs false

/-- The table of the parts to choose lies as the program's text lays it. -/
def Chp (w : World) : Prop := ∀ (i : Nat) (x : Int), ([1000, 2000, 0, 2000, 5000, 0, 5000, 10000, 0] : List Int)[i]? = some x → w.cell? ⟨0, i, none⟩ = some (.int .i64 x)
theorem Chp.gr {w w' : World} (h : Chp w) (hg : Gr w w') : Chp w' := fun i x hx =>
  (World.cell?_of_block (hg.below.block _ (World.block_lt_of_cell? w _ (h i x hx)))).trans (h i x hx)
/-- A table of structs of three integers, as a row lists it. -/
def s3Data {H : Type} (zs : List P3) : DataW H := .agg (zs.map fun z => .agg [.lit (.int .i64 z.1), .lit (.int .i64 z.2.1), .lit (.int .i64 z.2.2)])
theorem cells_of_s3 {H : Type} {enc : TypeId × Value → H} {P : Program} {w : World} {base : Nat} {sp : Nat → Bool} {held : Bool} {fuel : Nat} {t e : TypeId} {f0 f1 f2 : Field} {n : Nat} {cs : List Value} {zs : List P3} {p : List MemPlace}
    (ht : P.underlying t = some (.array n e)) (he : P.underlying e = some (.struct #[f0, f1, f2])) (hce : P.cellsOf e = 3) (hct : P.cellsOf t = n * 3)
    (o0 : f0.offset = 0) (o1 : f1.offset = 1) (o2 : f2.offset = 2) (k0 : P.underlying f0.type = some (.int .i64)) (k1 : P.underlying f1.type = some (.int .i64)) (k2 : P.underlying f2.type = some (.int .i64))
    (c0 : P.cellsOf f0.type = 1) (c1 : P.cellsOf f1.type = 1) (c2 : P.cellsOf f2.type = 1)
    (h : DataW.trod enc P w base sp held fuel t cs = some (s3Data zs, p)) : ∀ i z, zs[i]? = some z → cs[i * 3]? = some (vi z.1) ∧ cs[i * 3 + 1]? = some (vi z.2.1) ∧ cs[i * 3 + 2]? = some (vi z.2.2) := by
  cases fuel with
  | zero => simp [DataW.trod] at h
  | succ fuel =>
    simp only [DataW.trod, ht, hce, hct] at h
    split at h
    · rename_i hl
      obtain ⟨xs, hm, hx⟩ := Option.map_eq_some_iff.1 h
      have hxs : xs.map (·.1) = zs.map fun z => (DataW.agg [.lit (.int .i64 z.1), .lit (.int .i64 z.2.1), .lit (.int .i64 z.2.2)] : DataW H) := by
        have := congrArg Prod.fst hx
        simpa [s3Data] using this
      have hxl : xs.length = n := by simpa using Lib.mapM_length hm
      have hzl : zs.length = n := by
        have := congrArg List.length hxs
        simp at this
        omega
      intro i z hz
      have hi : i < n := by
        obtain ⟨hk, -⟩ := List.getElem?_eq_some_iff.1 hz
        omega
      obtain ⟨b, hb, hf⟩ := Lib.mapM_at hm i i (by simp [hi])
      obtain ⟨y0, y1, y2, m, rfl, -, t0, t1, t2⟩ := Deep.trod_struct3 he hf
      rw [o0, c0] at t0
      rw [o1, c1] at t1
      rw [o2, c2] at t2
      have e := congrArg (·[i]?) hxs
      simp only [List.getElem?_map, hb, hz, Option.map_some, Option.some.injEq, DataW.agg.injEq, List.cons.injEq, and_true] at e
      obtain ⟨e0, e1, e2⟩ := e
      obtain ⟨z0, hc0, g0, -⟩ := DataW.trod_int k0 t0
      obtain ⟨z1, hc1, g1, -⟩ := DataW.trod_int k1 t1
      obtain ⟨z2, hc2, g2, -⟩ := DataW.trod_int k2 t2
      rw [g0] at e0
      rw [g1] at e1
      rw [g2] at e2
      injection e0 with e0
      injection e1 with e1
      injection e2 with e2
      injection e0 with _ e0
      injection e1 with _ e1
      injection e2 with _ e2
      subst e0 e1 e2
      have r0 := congrArg (·[0]?) hc0
      have r1 := congrArg (·[0]?) hc1
      have r2 := congrArg (·[0]?) hc2
      simp [List.getElem?_take, List.getElem?_drop] at r0 r1 r2
      exact ⟨r0, r1, r2⟩
    · cases h
theorem chp_of {w : World} {rest : List (String × DataW Unit)} (h : laidMet Tryd.prog (("loop.example/g00951/impl.chosenParts", s3Data [(1000, 2000, 0), (2000, 5000, 0), (5000, 10000, 0)]) :: rest) w) : Chp w := by
  obtain ⟨ps, ⟨g', t', cs, fuel, p, q, hg', ht', hvar, hd, _, _⟩, _⟩ := h
  have hg : Tryd.prog.globalNamed "loop.example/g00951/impl.chosenParts" = some 0 := by kernel_rfl
  have hty : (Tryd.prog.globals[0]?).map (·.type) = some 87 := by kernel_rfl
  obtain rfl := Option.some.inj (hg.symm.trans hg')
  obtain rfl := Option.some.inj (hty.symm.trans ht')
  have H := cells_of_s3 Tryd.underlying87 Tryd.underlying39 (by kernel_rfl) (by kernel_rfl) rfl rfl rfl Tryd.underlying2 Tryd.underlying2 Tryd.underlying2 (by kernel_rfl) (by kernel_rfl) (by kernel_rfl) hd
  obtain ⟨a0, a1, a2⟩ := H 0 _ rfl
  obtain ⟨b0, b1, b2⟩ := H 1 _ rfl
  obtain ⟨d0, d1, d2⟩ := H 2 _ rfl
  intro i x hx
  have hi : i < 9 := by
    obtain ⟨hk, -⟩ := List.getElem?_eq_some_iff.1 hx
    exact hk
  have hcell := World.var?_cell hg hvar i
  rcases (show i = 0 ∨ i = 1 ∨ i = 2 ∨ i = 3 ∨ i = 4 ∨ i = 5 ∨ i = 6 ∨ i = 7 ∨ i = 8 by omega) with rfl | rfl | rfl | rfl | rfl | rfl | rfl | rfl | rfl <;> simp at hx <;> subst hx
  · rw [hcell]; simpa using a0
  · rw [hcell]; simpa using a1
  · rw [hcell]; simpa using a2
  · rw [hcell]; simpa using b0
  · rw [hcell]; simpa using b1
  · rw [hcell]; simpa using b2
  · rw [hcell]; simpa using d0
  · rw [hcell]; simpa using d1
  · rw [hcell]; simpa using d2
theorem chp_i0 (w : World) : (Instr.index 87 (.agg #[.int .i64 1000, .int .i64 2000, .int .i64 0, .int .i64 2000, .int .i64 5000, .int .i64 0, .int .i64 5000, .int .i64 10000, .int .i64 0]) (.int .i64 0)).run Tryd.prog w = .ok (.agg #[.int .i64 1000, .int .i64 2000, .int .i64 0]) w := by kernel_rfl
theorem chp_i1 (w : World) : (Instr.index 87 (.agg #[.int .i64 1000, .int .i64 2000, .int .i64 0, .int .i64 2000, .int .i64 5000, .int .i64 0, .int .i64 5000, .int .i64 10000, .int .i64 0]) (.int .i64 1)).run Tryd.prog w = .ok (.agg #[.int .i64 2000, .int .i64 5000, .int .i64 0]) w := by kernel_rfl
theorem chp_i2 (w : World) : (Instr.index 87 (.agg #[.int .i64 1000, .int .i64 2000, .int .i64 0, .int .i64 2000, .int .i64 5000, .int .i64 0, .int .i64 5000, .int .i64 10000, .int .i64 0]) (.int .i64 2)).run Tryd.prog w = .ok (.agg #[.int .i64 5000, .int .i64 10000, .int .i64 0]) w := by kernel_rfl
theorem okF_okC {s l f t lim : Int} (h : okC s l lim = false) : okF s l f t lim = false := by
  unfold okC at h
  unfold okF
  cases hs : (sc s && ln l)
  · rfl
  · rw [hs, Bool.true_and] at h
    rw [Bool.true_and]
    exact decide_eq_false (fun g => (of_decide_eq_false h) g.2.2)
theorem okF_ok {s l f t lim : Int} (h : okC s l lim = true) (h1 : 1000 ≤ f) (h2 : f < t) (h3 : t ≤ 10000) : okF s l f t lim = true := by
  unfold okC at h
  rw [Bool.and_eq_true] at h
  unfold okF
  rw [h.1, Bool.true_and]
  exact decide_eq_true ⟨⟨h1, by omega⟩, ⟨by omega, h3⟩, of_decide_eq_true h.2⟩

set_option maxRecDepth 100000 in
set_option maxHeartbeats 8000000 in
theorem co_impl (s l lim : Int) (w : World) (hD : Dcs w) (hU : Uss w) (hP : Chp w) :
    Calls Tryd.prog 13 #[.int .i64 s, .int .i64 l, .int .i64 lim] w fun e w' => (∃ v, e = .returned (.tuple #[v, .int .i64 (chC s l lim)]) ∧ Lst3 39 w' w.heap.size v (coL s l lim)) ∧ Below w.heap.size w w' := by
  have HRG := Lib.hid (fun (h : okC s l lim = false) => chC_rg h)
  have HNO := Lib.hid (fun (h : okC s l lim = true) h0 => chC_no h h0)
  have HYES := Lib.hid (fun (h : okC s l lim = true) h1 h2 h3 => chC_yes h h1 h2 h3)
  obtain ⟨i0, hi, hz0, hz1, hz2⟩ := info_parts info_part
  have HD := Lib.hid hD
  have HU := Lib.hid hU
  have hgl := World.block_lt_of_cell? w _ (hP 0 1000 rfl)
  have hP2 : Chp (w.alloc (.cells #[] 39)) := hP.gr (by repeat (first | with_reducible exact Gr.refl _ | with_reducible refine Gr.alloc ?_ _ | with_reducible refine Gr.gr ?_ _ _ | with_reducible refine Gr.drew ?_ | with_reducible refine Gr.drewN ?_ _))
  have c0 := hP2 0 1000 rfl
  have c1 := hP2 1 2000 rfl
  have c2 := hP2 2 0 rfl
  have c3 := hP2 3 2000 rfl
  have c4 := hP2 4 5000 rfl
  have c5 := hP2 5 0 rfl
  have c6 := hP2 6 5000 rfl
  have c7 := hP2 7 10000 rfl
  have c8 := hP2 8 0 rfl
  have I0 := chp_i0
  have I1 := chp_i1
  have I2 := chp_i2
  clear hD hU hP hP2
  have HO1 := Lib.hid (Lst3.new 39 w w.heap.size (Nat.le_refl _))
  have HB1 : Hid (Below w.heap.size w (w.alloc (.cells #[] 39))) := Lib.hid (Gr.below (by repeat (first | with_reducible exact Gr.refl _ | with_reducible refine Gr.alloc ?_ _ | with_reducible refine Gr.gr ?_ _ _ | with_reducible refine Gr.drew ?_ | with_reducible refine Gr.drewN ?_ _)))
  go_enter Tryd.func13, Tryd.ntmps13
  go_wp2
  clear c0 c1 c2 c3 c4 c5 c6 c7 c8
  generalize w.alloc (.cells #[] 39) = w2 at *
  go_loopw [8, 15] (fun v i wr => ∃ k : Nat, k ≤ 3 ∧ i = .int .i64 (k : Int) ∧ Lst3 39 wr w.heap.size v ((chG s l lim).take k) ∧ Below w.heap.size w wr ∧ Hid ((0 < k → okC s l lim = true) ∧ (0 < k → fnS s l 1000 2000 lim ≠ 0) ∧ (1 < k → fnS s l 2000 5000 lim ≠ 0) ∧ (2 < k → fnS s l 5000 10000 lim ≠ 0))) (fun _ i _ => 4 - (intOf i).toNat)
  case atStart => exact ⟨0, by omega, rfl, HO1.out, HB1.out, Lib.hid ⟨fun h => absurd h (by omega), fun h => absurd h (by omega), fun h => absurd h (by omega), fun h => absurd h (by omega)⟩⟩
  case round =>
    obtain ⟨k, hk, rfl, hO, hB, hN⟩ := hrel
    have hsz := hB.size
    have HO := Lib.hid hO
    have HB := Lib.hid hB
    clear hO hB
    rcases (show k = 0 ∨ k = 1 ∨ k = 2 ∨ k = 3 by omega) with rfl | rfl | rfl | rfl
    · have HX : Hid ((chG s l lim).take (0 + 1) = (chG s l lim).take 0 ++ [(1000, 2000, fnS s l 1000 2000 lim)]) := Lib.hid rfl
      have hxl : ((chG s l lim).take 0).length ≤ 3 := by simp [chG]
      generalize (chG s l lim).take 0 = xs at *
      have HBA := Lib.hid ((Below.refl wr.heap.size wr).alloc (Nat.le_refl _) (.cells #[.int .i64 1000, .int .i64 2000, .int .i64 0] 39))
      have y0 : (wr.alloc (.cells #[.int .i64 1000, .int .i64 2000, .int .i64 0] 39)).cell? ⟨wr.heap.size, 0, none⟩ = some (.int .i64 1000) := by simp
      have y1 : (wr.alloc (.cells #[.int .i64 1000, .int .i64 2000, .int .i64 0] 39)).cell? ⟨wr.heap.size, 1, none⟩ = some (.int .i64 2000) := by simp
      have yl : wr.heap.size < (wr.alloc (.cells #[.int .i64 1000, .int .i64 2000, .int .i64 0] 39)).heap.size := by simp
      by_cases hok : okC s l lim = true
      rotate_left
      · have HC := Lib.hid (HRG.out (by simpa using hok))
        have HF := Lib.hid (fun W hD hU => fnR_impl s l 1000 2000 lim W hD hU)
        rw [fnR_rg s l 1000 2000 lim (okF_okC (by simpa using hok))] at HF
        go_wp2_with (go_at_call 16; refine (HF.out _ (HD.out.gr (Gr.of_below (HB.out.trans (HBA.out.mono hsz)))) (HU.out.gr (Gr.of_below (HB.out.trans (HBA.out.mono hsz))))).mono ?_; rintro e w5 ⟨rfl, hb5⟩)
        ((try simp only [Exit.inBlock, Exit.then]); refine bodyPost_ret (v := .tuple #[.slice none 0 0, .int .i64 2]) (by simp [results, Tryd.results13, go_sem]) rfl ?_)
        exact ⟨⟨_, by rw [HC.out.1], by rw [HC.out.2]; exact Lst3.nil _ _ _⟩, (HB.out.trans (HBA.out.mono hsz)).trans (hb5.mono (by simp; omega))⟩
      by_cases hq : fnS s l 1000 2000 lim = 0
      · have HC := Lib.hid (HNO.out hok (.inl hq))
        have HF := Lib.hid (fun W hD hU => fnR_impl s l 1000 2000 lim W hD hU)
        rw [fnR_no s l 1000 2000 lim (okF_ok hok (by omega) (by omega) (by omega)) hq] at HF
        go_wp2_with (go_at_call 16; refine (HF.out _ (HD.out.gr (Gr.of_below (HB.out.trans (HBA.out.mono hsz)))) (HU.out.gr (Gr.of_below (HB.out.trans (HBA.out.mono hsz))))).mono ?_; rintro e w5 ⟨rfl, hb5⟩)
        ((try simp only [Exit.inBlock, Exit.then]); refine bodyPost_ret (v := .tuple #[.slice none 0 0, .int .i64 4]) (by simp [results, Tryd.results13, go_sem]) rfl ?_)
        exact ⟨⟨_, by rw [HC.out.1], by rw [HC.out.2]; exact Lst3.nil _ _ _⟩, (HB.out.trans (HBA.out.mono hsz)).trans (hb5.mono (by simp; omega))⟩
      · have HF := Lib.hid (fun W hD hU => fnR_impl s l 1000 2000 lim W hD hU)
        rw [fnR_ok s l 1000 2000 lim (okF_ok hok (by omega) (by omega) (by omega)) hq] at HF
        have HQ := Lib.hid hq
        clear hq
        generalize hx : fnS s l 1000 2000 lim = x at *
        have HXE := Lib.hid hx
        clear hx
        go_wp2_with (first
          | (go_at_call 16; refine (HF.out _ (HD.out.gr (Gr.of_below (HB.out.trans (HBA.out.mono hsz)))) (HU.out.gr (Gr.of_below (HB.out.trans (HBA.out.mono hsz))))).mono ?_; rintro e w5 ⟨rfl, hb5⟩; replace y0 := (hb5.cell (p := ⟨wr.heap.size, 0, none⟩) yl).trans y0; replace y1 := (hb5.cell (p := ⟨wr.heap.size, 1, none⟩) yl).trans y1; have HO5 := Lib.hid (Lst3.below (HO.out.alloc (.cells #[.int .i64 1000, .int .i64 2000, .int .i64 0] 39)) hb5); have HB5 := Lib.hid ((HB.out.trans (HBA.out.mono hsz)).trans (hb5.mono (Nat.le_trans hsz (Nat.le_of_lt yl)))); have hsz5 := HB5.out.size; clear hb5)
          | (at_builtin; refine wpList_append_own _ rfl _ _ 26 rfl w.heap.size 39 i0 (.agg #[.int .i64 0, .int .i64 0, .int .i64 0]) 3 24 Tryd.underlying26 hi hz0 hz1 hz2 rfl (by decide) _ _ _ rfl (HO5.out.alloc _) ⟨w5.heap.size, 0, none⟩ 1 1 [.int .i64 1000, .int .i64 2000, .int .i64 x] rfl rfl (three_cells_new _ _ _ _ _) (by simp [Value.oneCell']) (by unfold maxLen; omega) (by omega) (by simp; omega) ?_; intro v' w6 hown' hgrow _; obtain ⟨hA1, hA2⟩ := Lst3.app HB5.out hsz5 (HO5.out.alloc _) hown' hgrow; have HA1 := Lib.hid hA1; have HA2 := Lib.hid hA2; clear hA1 hA2 hown' hgrow))
        go_roundw
        case rel => exact ⟨0 + 1, by omega, by simp, by rw [HX.out]; exact HA1.out, HA2.out, Lib.hid ⟨fun _ => hok, fun _ => by first | exact HQ.out | (rw [HXE.out]; exact HQ.out), fun h => absurd h (by omega), fun h => absurd h (by omega)⟩⟩
        case measure => simp [intOf]
    · have HX : Hid ((chG s l lim).take (1 + 1) = (chG s l lim).take 1 ++ [(2000, 5000, fnS s l 2000 5000 lim)]) := Lib.hid rfl
      have hxl : ((chG s l lim).take 1).length ≤ 3 := by simp [chG]
      generalize (chG s l lim).take 1 = xs at *
      have HBA := Lib.hid ((Below.refl wr.heap.size wr).alloc (Nat.le_refl _) (.cells #[.int .i64 2000, .int .i64 5000, .int .i64 0] 39))
      have y0 : (wr.alloc (.cells #[.int .i64 2000, .int .i64 5000, .int .i64 0] 39)).cell? ⟨wr.heap.size, 0, none⟩ = some (.int .i64 2000) := by simp
      have y1 : (wr.alloc (.cells #[.int .i64 2000, .int .i64 5000, .int .i64 0] 39)).cell? ⟨wr.heap.size, 1, none⟩ = some (.int .i64 5000) := by simp
      have yl : wr.heap.size < (wr.alloc (.cells #[.int .i64 2000, .int .i64 5000, .int .i64 0] 39)).heap.size := by simp
      by_cases hok : okC s l lim = true
      rotate_left
      · have HC := Lib.hid (HRG.out (by simpa using hok))
        have HF := Lib.hid (fun W hD hU => fnR_impl s l 2000 5000 lim W hD hU)
        rw [fnR_rg s l 2000 5000 lim (okF_okC (by simpa using hok))] at HF
        go_wp2_with (go_at_call 16; refine (HF.out _ (HD.out.gr (Gr.of_below (HB.out.trans (HBA.out.mono hsz)))) (HU.out.gr (Gr.of_below (HB.out.trans (HBA.out.mono hsz))))).mono ?_; rintro e w5 ⟨rfl, hb5⟩)
        ((try simp only [Exit.inBlock, Exit.then]); refine bodyPost_ret (v := .tuple #[.slice none 0 0, .int .i64 2]) (by simp [results, Tryd.results13, go_sem]) rfl ?_)
        exact ⟨⟨_, by rw [HC.out.1], by rw [HC.out.2]; exact Lst3.nil _ _ _⟩, (HB.out.trans (HBA.out.mono hsz)).trans (hb5.mono (by simp; omega))⟩
      by_cases hq : fnS s l 2000 5000 lim = 0
      · have HC := Lib.hid (HNO.out hok (.inr (.inl hq)))
        have HF := Lib.hid (fun W hD hU => fnR_impl s l 2000 5000 lim W hD hU)
        rw [fnR_no s l 2000 5000 lim (okF_ok hok (by omega) (by omega) (by omega)) hq] at HF
        go_wp2_with (go_at_call 16; refine (HF.out _ (HD.out.gr (Gr.of_below (HB.out.trans (HBA.out.mono hsz)))) (HU.out.gr (Gr.of_below (HB.out.trans (HBA.out.mono hsz))))).mono ?_; rintro e w5 ⟨rfl, hb5⟩)
        ((try simp only [Exit.inBlock, Exit.then]); refine bodyPost_ret (v := .tuple #[.slice none 0 0, .int .i64 4]) (by simp [results, Tryd.results13, go_sem]) rfl ?_)
        exact ⟨⟨_, by rw [HC.out.1], by rw [HC.out.2]; exact Lst3.nil _ _ _⟩, (HB.out.trans (HBA.out.mono hsz)).trans (hb5.mono (by simp; omega))⟩
      · have HF := Lib.hid (fun W hD hU => fnR_impl s l 2000 5000 lim W hD hU)
        rw [fnR_ok s l 2000 5000 lim (okF_ok hok (by omega) (by omega) (by omega)) hq] at HF
        have HQ := Lib.hid hq
        clear hq
        generalize hx : fnS s l 2000 5000 lim = x at *
        have HXE := Lib.hid hx
        clear hx
        go_wp2_with (first
          | (go_at_call 16; refine (HF.out _ (HD.out.gr (Gr.of_below (HB.out.trans (HBA.out.mono hsz)))) (HU.out.gr (Gr.of_below (HB.out.trans (HBA.out.mono hsz))))).mono ?_; rintro e w5 ⟨rfl, hb5⟩; replace y0 := (hb5.cell (p := ⟨wr.heap.size, 0, none⟩) yl).trans y0; replace y1 := (hb5.cell (p := ⟨wr.heap.size, 1, none⟩) yl).trans y1; have HO5 := Lib.hid (Lst3.below (HO.out.alloc (.cells #[.int .i64 2000, .int .i64 5000, .int .i64 0] 39)) hb5); have HB5 := Lib.hid ((HB.out.trans (HBA.out.mono hsz)).trans (hb5.mono (Nat.le_trans hsz (Nat.le_of_lt yl)))); have hsz5 := HB5.out.size; clear hb5)
          | (at_builtin; refine wpList_append_own _ rfl _ _ 26 rfl w.heap.size 39 i0 (.agg #[.int .i64 0, .int .i64 0, .int .i64 0]) 3 24 Tryd.underlying26 hi hz0 hz1 hz2 rfl (by decide) _ _ _ rfl (HO5.out.alloc _) ⟨w5.heap.size, 0, none⟩ 1 1 [.int .i64 2000, .int .i64 5000, .int .i64 x] rfl rfl (three_cells_new _ _ _ _ _) (by simp [Value.oneCell']) (by unfold maxLen; omega) (by omega) (by simp; omega) ?_; intro v' w6 hown' hgrow _; obtain ⟨hA1, hA2⟩ := Lst3.app HB5.out hsz5 (HO5.out.alloc _) hown' hgrow; have HA1 := Lib.hid hA1; have HA2 := Lib.hid hA2; clear hA1 hA2 hown' hgrow))
        go_roundw
        case rel => exact ⟨1 + 1, by omega, by simp, by rw [HX.out]; exact HA1.out, HA2.out, Lib.hid ⟨fun _ => hok, fun _ => hN.out.2.1 (by omega), fun h => by first | exact HQ.out | (rw [HXE.out]; exact HQ.out), fun h => absurd h (by omega)⟩⟩
        case measure => simp [intOf]
    · have HX : Hid ((chG s l lim).take (2 + 1) = (chG s l lim).take 2 ++ [(5000, 10000, fnS s l 5000 10000 lim)]) := Lib.hid rfl
      have hxl : ((chG s l lim).take 2).length ≤ 3 := by simp [chG]
      generalize (chG s l lim).take 2 = xs at *
      have HBA := Lib.hid ((Below.refl wr.heap.size wr).alloc (Nat.le_refl _) (.cells #[.int .i64 5000, .int .i64 10000, .int .i64 0] 39))
      have y0 : (wr.alloc (.cells #[.int .i64 5000, .int .i64 10000, .int .i64 0] 39)).cell? ⟨wr.heap.size, 0, none⟩ = some (.int .i64 5000) := by simp
      have y1 : (wr.alloc (.cells #[.int .i64 5000, .int .i64 10000, .int .i64 0] 39)).cell? ⟨wr.heap.size, 1, none⟩ = some (.int .i64 10000) := by simp
      have yl : wr.heap.size < (wr.alloc (.cells #[.int .i64 5000, .int .i64 10000, .int .i64 0] 39)).heap.size := by simp
      by_cases hok : okC s l lim = true
      rotate_left
      · have HC := Lib.hid (HRG.out (by simpa using hok))
        have HF := Lib.hid (fun W hD hU => fnR_impl s l 5000 10000 lim W hD hU)
        rw [fnR_rg s l 5000 10000 lim (okF_okC (by simpa using hok))] at HF
        go_wp2_with (go_at_call 16; refine (HF.out _ (HD.out.gr (Gr.of_below (HB.out.trans (HBA.out.mono hsz)))) (HU.out.gr (Gr.of_below (HB.out.trans (HBA.out.mono hsz))))).mono ?_; rintro e w5 ⟨rfl, hb5⟩)
        ((try simp only [Exit.inBlock, Exit.then]); refine bodyPost_ret (v := .tuple #[.slice none 0 0, .int .i64 2]) (by simp [results, Tryd.results13, go_sem]) rfl ?_)
        exact ⟨⟨_, by rw [HC.out.1], by rw [HC.out.2]; exact Lst3.nil _ _ _⟩, (HB.out.trans (HBA.out.mono hsz)).trans (hb5.mono (by simp; omega))⟩
      by_cases hq : fnS s l 5000 10000 lim = 0
      · have HC := Lib.hid (HNO.out hok (.inr (.inr hq)))
        have HF := Lib.hid (fun W hD hU => fnR_impl s l 5000 10000 lim W hD hU)
        rw [fnR_no s l 5000 10000 lim (okF_ok hok (by omega) (by omega) (by omega)) hq] at HF
        go_wp2_with (go_at_call 16; refine (HF.out _ (HD.out.gr (Gr.of_below (HB.out.trans (HBA.out.mono hsz)))) (HU.out.gr (Gr.of_below (HB.out.trans (HBA.out.mono hsz))))).mono ?_; rintro e w5 ⟨rfl, hb5⟩)
        ((try simp only [Exit.inBlock, Exit.then]); refine bodyPost_ret (v := .tuple #[.slice none 0 0, .int .i64 4]) (by simp [results, Tryd.results13, go_sem]) rfl ?_)
        exact ⟨⟨_, by rw [HC.out.1], by rw [HC.out.2]; exact Lst3.nil _ _ _⟩, (HB.out.trans (HBA.out.mono hsz)).trans (hb5.mono (by simp; omega))⟩
      · have HF := Lib.hid (fun W hD hU => fnR_impl s l 5000 10000 lim W hD hU)
        rw [fnR_ok s l 5000 10000 lim (okF_ok hok (by omega) (by omega) (by omega)) hq] at HF
        have HQ := Lib.hid hq
        clear hq
        generalize hx : fnS s l 5000 10000 lim = x at *
        have HXE := Lib.hid hx
        clear hx
        go_wp2_with (first
          | (go_at_call 16; refine (HF.out _ (HD.out.gr (Gr.of_below (HB.out.trans (HBA.out.mono hsz)))) (HU.out.gr (Gr.of_below (HB.out.trans (HBA.out.mono hsz))))).mono ?_; rintro e w5 ⟨rfl, hb5⟩; replace y0 := (hb5.cell (p := ⟨wr.heap.size, 0, none⟩) yl).trans y0; replace y1 := (hb5.cell (p := ⟨wr.heap.size, 1, none⟩) yl).trans y1; have HO5 := Lib.hid (Lst3.below (HO.out.alloc (.cells #[.int .i64 5000, .int .i64 10000, .int .i64 0] 39)) hb5); have HB5 := Lib.hid ((HB.out.trans (HBA.out.mono hsz)).trans (hb5.mono (Nat.le_trans hsz (Nat.le_of_lt yl)))); have hsz5 := HB5.out.size; clear hb5)
          | (at_builtin; refine wpList_append_own _ rfl _ _ 26 rfl w.heap.size 39 i0 (.agg #[.int .i64 0, .int .i64 0, .int .i64 0]) 3 24 Tryd.underlying26 hi hz0 hz1 hz2 rfl (by decide) _ _ _ rfl (HO5.out.alloc _) ⟨w5.heap.size, 0, none⟩ 1 1 [.int .i64 5000, .int .i64 10000, .int .i64 x] rfl rfl (three_cells_new _ _ _ _ _) (by simp [Value.oneCell']) (by unfold maxLen; omega) (by omega) (by simp; omega) ?_; intro v' w6 hown' hgrow _; obtain ⟨hA1, hA2⟩ := Lst3.app HB5.out hsz5 (HO5.out.alloc _) hown' hgrow; have HA1 := Lib.hid hA1; have HA2 := Lib.hid hA2; clear hA1 hA2 hown' hgrow))
        go_roundw
        case rel => exact ⟨2 + 1, by omega, by simp, by rw [HX.out]; exact HA1.out, HA2.out, Lib.hid ⟨fun _ => hok, fun _ => hN.out.2.1 (by omega), fun h => hN.out.2.2.1 (by omega), fun h => by first | exact HQ.out | (rw [HXE.out]; exact HQ.out)⟩⟩
        case measure => simp [intOf]
    · have HC := Lib.hid (HYES.out (hN.out.1 (by omega)) (hN.out.2.1 (by omega)) (hN.out.2.2.1 (by omega)) (hN.out.2.2.2 (by omega)))
      go_wp2
      ((try simp only [Exit.inBlock, Exit.then]); refine bodyPost_ret (v := .tuple #[u8, .int .i64 0]) (by simp [results, Tryd.results13, go_sem]) rfl ?_)
      exact ⟨⟨_, by rw [HC.out.1], by rw [HC.out.2]; exact HO.out⟩, HB.out⟩
end Go.Proofs.YtggflladheemoaaDoor
