/- Contracts of chapter 6, the program's: what it answers of readings. -/
import Derived.Test.YtgadkpkpdpphbaaDoorC06m
import Derived.Test.YtgadkpkpdpphbaaDoorC06h
import Derived.Test.YtgadkpkpdpphbaaDoorC02e
namespace Go.Proofs.YtgadkpkpdpphbaaDoor
open Go.RowKit Go.Maps
set_option linter.unusedVariables false
set_option linter.unusedSimpArgs false

theorem ok6_no (s l p e : Int) (h : ok6 s l p e = false) : sc s = false ∨ (sc s = true ∧ ln l = false) ∨ (sc s = true ∧ ln l = true ∧ decide (0 ≤ p ∧ p ≤ l) = false) ∨ (sc s = true ∧ ln l = true ∧ decide (0 ≤ p ∧ p ≤ l) = true ∧ decide (0 ≤ e ∧ e ≤ 200) = false) := by
  rcases sc_tf s with h1 | h1
  · rcases ln_tf l with h2 | h2
    · rcases decb_tf (0 ≤ p ∧ p ≤ l) with h3 | h3
      · rcases decb_tf (0 ≤ e ∧ e ≤ 200) with h4 | h4
        · unfold ok6 at h; rw [h1, h2, h3, h4] at h; cases h
        · exact .inr (.inr (.inr ⟨h1, h2, h3, h4⟩))
      · exact .inr (.inr (.inl ⟨h1, h2, h3⟩))
    · exact .inr (.inl ⟨h1, h2⟩)
  · exact .inl h1
theorem rank_on {x y : Nat} (h : 10000 * atT x + atD x ≤ 10000 * atT y + atD y) : x ≤ y := by
  unfold atT atD at h
  omega
theorem Gb.gr_of {w w' : World} {mb : Nat} (h : Gb mb w w') (hm : w.heap.size ≤ mb) : Gr w w' := Gr.of_below (h.below hm (Nat.le_refl _))

theorem readingsOf_no (s l p e : Int) (w : World) (h : ok6 s l p e = false) :
    Calls Tryd.prog 47 #[.int .i64 s, .int .i64 l, .int .i64 p, .int .i64 e] w fun en w' => en = .returned (.tuple #[.slice none 0 0, .int .i64 2]) ∧ Gr w w' := by
  rcases ok6_no s l p e h with h1 | ⟨h1, h2⟩ | ⟨h1, h2, h3⟩ | ⟨h1, h2, h3, h4⟩
  all_goals
    clear h
    have E1 := Lib.hid h1
    (try have E2 := Lib.hid h2)
    (try have E3 := Lib.hid h3)
    (try have E4 := Lib.hid h4)
    (try clear h1); (try clear h2); (try clear h3); (try clear h4)
    go_enter Tryd.func47, Tryd.ntmps47
    go_wp2_with (first
      | (go_at_call 48; refine (isScale_impl _ _).mono ?_; rw [E1.out]; rintro e' w' ⟨rfl, rfl⟩)
      | (go_at_call 50; refine (isLength_impl _ _).mono ?_; rw [E2.out]; rintro e' w' ⟨rfl, rfl⟩)
      | (go_at_call 53; refine (isPoint_any _ _ _).mono ?_; rw [E3.out]; rintro e' w' ⟨rfl, rfl⟩)
      | (go_at_call 54; refine (isEye_any _ _).mono ?_; rw [E4.out]; rintro e' w' ⟨rfl, rfl⟩))
    go_ret2
    exact ⟨rfl, (by repeat (first | with_reducible exact Gr.refl _ | with_reducible refine Gr.alloc ?_ _ | with_reducible refine Gr.gr ?_ _ _ | with_reducible refine Gr.drew ?_ | with_reducible refine Gr.drewN ?_ _))⟩

theorem gr_gb {w u v : World} {mb : Nat} (h : Gr w u) (h' : Gb mb u v) (hm : w.heap.size ≤ mb) : Gr w v := Gr.of_below (h.below.trans (h'.below hm h.below.size))
/-- Two blocks of one cell that have just been made. -/
theorem one_one_new (w : World) (T U : TypeId) (x y : Value) :
    ((w.alloc (.cells #[x] T)).alloc (.cells #[y] U)).cell? ⟨w.heap.size, 0, none⟩ = some x ∧ ((w.alloc (.cells #[x] T)).alloc (.cells #[y] U)).cell? ⟨w.heap.size + 1, 0, none⟩ = some y ∧ Gr w ((w.alloc (.cells #[x] T)).alloc (.cells #[y] U)) := by
  have B0 := (Blk.new w T #[x]).alloc (.cells #[y] U)
  have B1 := Blk.new (w.alloc (.cells #[x] T)) U #[y]
  rw [World.size_alloc] at B1
  exact ⟨by rw [cell_of_row _ _ 0 _ _ _ B0]; rfl, by rw [cell_of_row _ _ 0 _ _ _ B1]; rfl, ((Gr.refl w).alloc _).alloc _⟩
theorem cell_gr {w v : World} {n i : Nat} {x : Value} (hg : Gr w v) (h : w.cell? ⟨n, i, none⟩ = some x) : v.cell? ⟨n, i, none⟩ = some x := (hg.below.cell (p := ⟨n, i, none⟩) (World.block_lt_of_cell? w _ h)).trans h

set_option maxRecDepth 100000 in
set_option maxHeartbeats 2000000 in
theorem readingsOf_ok (s l p e : Int) (w : World) (hD : Dcs w) (h : ok6 s l p e = true) :
    Calls Tryd.prog 47 #[.int .i64 s, .int .i64 l, .int .i64 p, .int .i64 e] w fun en w' => (∃ v B, en = .returned (.tuple #[v, .int .i64 0]) ∧ Figs w' B v (rdB s l p e - rdA s l p e) (fun k => atD (onF s (rdA s l p e + k))) (fun k => atT (onF s (rdA s l p e + k)))) ∧ Gr w w' := by
  obtain ⟨hs, hl, ⟨hp1, hp2⟩, he1, he2⟩ := (ok6_iff _ _ _ _).1 h
  have l12 := (ln_iff l).1 hl
  have E1 := Lib.hid hs
  have E2 := Lib.hid hl
  have E3 := Lib.hid (decide_eq_true (show 0 ≤ p ∧ p ≤ l from ⟨hp1, hp2⟩))
  have E4 := Lib.hid (decide_eq_true (show 0 ≤ e ∧ e ≤ 200 from ⟨he1, he2⟩))
  have HD := Lib.hid hD
  have HB := Lib.hid (fun W (sb mb be bp : Nat) (h : Sht W sb mb s l) (hc : W.cell? ⟨be, 0, none⟩ = some (.int .i64 e)) (hc' : W.cell? ⟨bp, 0, none⟩ = some (.int .i64 p)) =>
    show Calls Tryd.prog 79 #[.pointer (some ⟨sb, 0, none⟩), .func (.func 90) #[] #[.pointer (some ⟨be, 0, none⟩), .pointer (some ⟨bp, 0, none⟩)], .func (.func 91) #[] #[.pointer (some ⟨be, 0, none⟩), .pointer (some ⟨bp, 0, none⟩)]] W
      (fun en w' => (∃ v, en = .returned v ∧ Figs w' W.heap.size v (rdB s l p e - rdA s l p e) (fun k => atD (onF s (rdA s l p e + k))) (fun k => atT (onF s (rdA s l p e + k)))) ∧ Gb mb W w' ∧ Sht w' sb mb s l) from
    midFigs_any _ _ _ _ (fun i => decide (p ≤ hiF s l i + e)) (fun i => decide (p < loF s l i - e)) sb mb s l W h hs hl (fun _ _ => by kernel_rfl) (fun _ _ => by kernel_rfl)
      (fun W' hg hs' i hi => by
        have := plF_bd s l hs hl i hi
        have sm := Same.of h hs' hg
        exact cond1_any be bp e p (loF s l i) (hiF s l i) W' ((sm.cell _ _ (World.block_lt_of_cell? W _ hc)).trans hc) ((sm.cell _ _ (World.block_lt_of_cell? W _ hc')).trans hc') (by omega) (by omega) he1 he2)
      (fun W' hg hs' i hi => by
        have := plF_bd s l hs hl i hi
        have sm := Same.of h hs' hg
        exact cond2_any be bp e p (loF s l i) (hiF s l i) W' ((sm.cell _ _ (World.block_lt_of_cell? W _ hc)).trans hc) ((sm.cell _ _ (World.block_lt_of_cell? W _ hc')).trans hc') (by omega) (by omega) he1 he2)
      (fun a b x y z => by
        have := (pl_mono s l hs hl a b x y).2
        have z := of_decide_eq_true z
        exact decide_eq_true (by omega))
      (fun a b x y z => by
        have := (pl_mono s l hs hl a b x y).1
        have z := of_decide_eq_true z
        exact decide_eq_true (by omega)))
  generalize rdB s l p e - rdA s l p e = n at *
  generalize (fun k => atD (onF s (rdA s l p e + k))) = D at *
  generalize (fun k => atT (onF s (rdA s l p e + k))) = T at *
  clear h hs hl hp1 hp2 he1 he2 l12 hD
  go_enter Tryd.func47, Tryd.ntmps47
  go_wp2_with (first
    | (go_at_call 48; refine (isScale_impl _ _).mono ?_; rw [E1.out]; rintro e' w' ⟨rfl, rfl⟩)
    | (go_at_call 50; refine (isLength_impl _ _).mono ?_; rw [E2.out]; rintro e' w' ⟨rfl, rfl⟩)
    | (go_at_call 53; refine (isPoint_any _ _ _).mono ?_; rw [E3.out]; rintro e' w' ⟨rfl, rfl⟩)
    | (go_at_call 54; refine (isEye_any _ _).mono ?_; rw [E4.out]; rintro e' w' ⟨rfl, rfl⟩))
  obtain ⟨cp, ce, G0⟩ := one_one_new w 2 2 (.int .i64 p) (.int .i64 e)
  generalize (w.alloc (.cells #[.int .i64 p] 2)).alloc (.cells #[.int .i64 e] 2) = v at *
  refine (newSheet_any s l v (HD.out.gr G0)).mono ?_
  rintro e' w1 ⟨rfl, hg1, hs1⟩
  have HB' := Lib.hid (HB.out w1 _ _ _ _ hs1 (cell_gr hg1 ce) (cell_gr hg1 cp))
  have hsz := Lib.hid G0.below.size
  clear HB hs1 cp ce
  go_wp2_with (go_at_call 79; refine HB'.out.mono ?_; rintro en w2 ⟨⟨v', rfl, hf⟩, hg2, hs2⟩)
  go_ret2
  exact ⟨⟨_, _, rfl, hf⟩, gr_gb (G0.trans hg1) hg2 hsz.out⟩

/-- The least and the greatest reading. -/
theorem outer_ok (s l p e : Int) (w : World) (hD : Dcs w) (h : ok6 s l p e = true) (hn : fstN s l p e < 0) :
    Calls Tryd.prog 43 #[.int .i64 s, .int .i64 l, .int .i64 p, .int .i64 e] w fun en w' => en = .returned (.tuple #[.agg #[.int .i64 0, .int .i64 0], .agg #[.int .i64 0, .int .i64 0], .int .i64 4]) ∧ Gr w w' := by
  obtain ⟨hs, hl, -, he, -⟩ := (ok6_iff _ _ _ _).1 h
  have h0 : rdB s l p e - rdA s l p e = 0 := by
    have hc := rd_count s l p e hs hl he
    rcases rd_none_or s l p e with ⟨-, -, e3⟩ | ⟨h1, -⟩
    · omega
    · omega
  have HR := Lib.hid (fun W (hD : Dcs W) => readingsOf_ok s l p e W hD h)
  rw [h0] at HR
  have HD := Lib.hid hD
  generalize (fun k => atD (onF s (rdA s l p e + k))) = D at *
  generalize (fun k => atT (onF s (rdA s l p e + k))) = T at *
  clear h hn hs hl he h0 hD
  go_enter Tryd.func43, Tryd.ntmps43
  go_wp2_with fail
  obtain ⟨nv, B0, B1, G0⟩ := two_new w 27 27 (.int .i64 0) (.int .i64 0) (.int .i64 0) (.int .i64 0)
  generalize (w.alloc (.cells #[.int .i64 0, .int .i64 0] 27)).alloc (.cells #[.int .i64 0, .int .i64 0] 27) = v at *
  refine (HR.out v (HD.out.gr G0)).mono ?_
  rintro en w2 ⟨⟨v', B, rfl, hf⟩, hg2⟩
  obtain ⟨A, c, rfl⟩ := hf.val
  have C0 := B0.gr hg2
  have C1 := B1.gr hg2
  have HG := Lib.hid (G0.trans hg2)
  clear B0 B1 nv G0 hg2 hf HR HD
  obtain ⟨x0, x1, xf⟩ := C0.two
  obtain ⟨y0, y1, yf⟩ := C1.two
  have lx := C0.lt
  have ly := C1.lt
  go_wp2
  ((try simp only [Exit.inBlock, Exit.then]); refine bodyPost_ret (v := .tuple #[.agg #[.int .i64 0, .int .i64 0], .agg #[.int .i64 0, .int .i64 0], .int .i64 4]) (by simp [results, Tryd.results43, go_sem, x0, x1, y0, y1, World.cell?_setCell_same']) rfl ?_)
  exact ⟨rfl, Gr.of_below (((((HG.out.below).setCell (by simp) _).setCell (by simp) _).setCell (by simp) _).setCell (by simp) _)⟩

theorem outer_rg (s l p e : Int) (w : World) (h : ok6 s l p e = false) :
    Calls Tryd.prog 43 #[.int .i64 s, .int .i64 l, .int .i64 p, .int .i64 e] w fun en w' => en = .returned (.tuple #[.agg #[.int .i64 0, .int .i64 0], .agg #[.int .i64 0, .int .i64 0], .int .i64 2]) ∧ Gr w w' := by
  have HR := Lib.hid (fun W => readingsOf_no s l p e W h)
  clear h
  go_enter Tryd.func43, Tryd.ntmps43
  go_wp2_with fail
  obtain ⟨nv, B0, B1, G0⟩ := two_new w 27 27 (.int .i64 0) (.int .i64 0) (.int .i64 0) (.int .i64 0)
  generalize (w.alloc (.cells #[.int .i64 0, .int .i64 0] 27)).alloc (.cells #[.int .i64 0, .int .i64 0] 27) = v at *
  refine (HR.out v).mono ?_
  rintro en w2 ⟨rfl, hg2⟩
  have C0 := B0.gr hg2
  have C1 := B1.gr hg2
  have HG := Lib.hid (G0.trans hg2)
  clear B0 B1 nv G0 hg2 HR
  obtain ⟨x0, x1, xf⟩ := C0.two
  obtain ⟨y0, y1, yf⟩ := C1.two
  have lx := C0.lt
  have ly := C1.lt
  go_wp2
  ((try simp only [Exit.inBlock, Exit.then]); refine bodyPost_ret (v := .tuple #[.agg #[.int .i64 0, .int .i64 0], .agg #[.int .i64 0, .int .i64 0], .int .i64 2]) (by simp [results, Tryd.results43, go_sem, x0, x1, y0, y1, World.cell?_setCell_same']) rfl ?_)
  exact ⟨rfl, Gr.of_below (((((HG.out.below).setCell (by simp) _).setCell (by simp) _).setCell (by simp) _).setCell (by simp) _)⟩

set_option maxHeartbeats 1000000 in
theorem outer_some (s l p e : Int) (w : World) (hD : Dcs w) (h : ok6 s l p e = true) (hn : ¬ fstN s l p e < 0) :
    Calls Tryd.prog 43 #[.int .i64 s, .int .i64 l, .int .i64 p, .int .i64 e] w fun en w' => en = .returned (.tuple #[.agg #[.int .i64 (atD (fstN s l p e).toNat), .int .i64 (atT (fstN s l p e).toNat)], .agg #[.int .i64 (atD (lstN s l p e).toNat), .int .i64 (atT (lstN s l p e).toNat)], .int .i64 0]) ∧ Gr w w' := by
  obtain ⟨hs, hl, -, he, -⟩ := (ok6_iff _ _ _ _).1 h
  have hc := rd_count s l p e hs hl he
  have h1 : 1 ≤ rdB s l p e - rdA s l p e := by
    rcases rd_none_or s l p e with ⟨e1, -⟩ | ⟨-, -, -, h4⟩
    · omega
    · omega
  have hf1 := figs_bd s
  have hle := rd_le s l p e
  have h2 : rdB s l p e - rdA s l p e ≤ 1000000 := by omega
  have HF := Lib.hid (rd_fst s l p e hs hl he)
  have HL := Lib.hid (rd_lst s l p e hs hl he)
  have HB := Lib.hid (show ∀ k, k < rdB s l p e - rdA s l p e → (-1000000 ≤ atD (onF s (rdA s l p e + k)) ∧ atD (onF s (rdA s l p e + k)) ≤ 1000000) ∧ (-1000000 ≤ atT (onF s (rdA s l p e + k)) ∧ atT (onF s (rdA s l p e + k)) ≤ 1000000) from fun k hk => by
    have := at_bd (onF s (rdA s l p e + k)) (by have := onF_lt s (rdA s l p e + k) (by omega); omega)
    omega)
  have HR := Lib.hid (fun W (hD : Dcs W) => readingsOf_ok s l p e W hD h)
  have HD := Lib.hid hD
  generalize fstN s l p e = f at *
  generalize lstN s l p e = g at *
  generalize rdA s l p e = a at *
  generalize rdB s l p e = b at *
  clear h hn hs hl he hc hf1 hle hD
  go_enter Tryd.func43, Tryd.ntmps43
  go_wp2_with fail
  obtain ⟨nv, B0, B1, G0⟩ := two_new w 27 27 (.int .i64 0) (.int .i64 0) (.int .i64 0) (.int .i64 0)
  generalize (w.alloc (.cells #[.int .i64 0, .int .i64 0] 27)).alloc (.cells #[.int .i64 0, .int .i64 0] 27) = v at *
  refine (HR.out v (HD.out.gr G0)).mono ?_
  rintro en w2 ⟨⟨v', B, rfl, hf⟩, hg2⟩
  obtain ⟨gb, c, rfl, hrow⟩ := hf.row h1
  have HM := Lib.hid (minF_any gb 0 _ c _ _ w2 h1 h2 hrow HB.out)
  have HX := Lib.hid (fun W (hg : Gr w2 W) => maxF_any gb 0 _ c _ _ W h1 h2 (hrow.gr hg) HB.out)
  have D0 := B0.gr hg2
  have D1 := B1.gr hg2
  have HG0 := Lib.hid (G0.trans hg2)
  have hne : ¬ ((b - a : Nat) : Int) = 0 := by omega
  clear B0 B1 nv G0 hg2 HR HD hf hrow
  generalize hk : b - a = k at *
  have HK := Lib.hid hk
  clear hk
  go_wp2_with (first
    | (go_at_call 82; refine HM.out.mono ?_; rintro en w3 ⟨⟨m, hm, rfl, hmin⟩, hg3⟩; have HMin := Lib.hid (And.intro hm hmin); clear hm hmin)
    | (go_at_call 89; refine (HX.out w3 hg3).mono ?_; rintro en w4 ⟨⟨m', hm, rfl, hmax⟩, hg4⟩; have HMax := Lib.hid (And.intro hm hmax); clear hm hmax; have C0 := (D0.gr hg3).gr hg4; have C1 := (D1.gr hg3).gr hg4; have HG := Lib.hid ((HG0.out.trans hg3).trans hg4); obtain ⟨x0, x1, xf⟩ := C0.two; obtain ⟨y0, y1, yf⟩ := C1.two; have lx := C0.lt; have ly := C1.lt; clear hg3 hg4 D0 D1))
  have hF : f = onF s (a + m) := HF.out (a + m) (by have := HMin.out.1; have := HK.out; omega) (fun j j1 j2 => rank_on (by
    have := HMin.out.2 (j - a) (by have := HK.out; omega)
    rwa [show a + (j - a) = j by omega] at this))
  have hG : g = onF s (a + m') := HL.out (a + m') (by have := HMax.out.1; have := HK.out; omega) (fun j j1 j2 => rank_on (by
    have := HMax.out.2 (j - a) (by have := HK.out; omega)
    rwa [show a + (j - a) = j by omega] at this))
  rw [hF, hG]
  simp only [Int.toNat_natCast]
  generalize atD (onF s (a + m)) = d1 at *
  generalize atT (onF s (a + m)) = t1 at *
  generalize atD (onF s (a + m')) = d2 at *
  generalize atT (onF s (a + m')) = t2 at *
  ((try simp only [Exit.inBlock, Exit.then]); refine bodyPost_ret (v := .tuple #[.agg #[.int .i64 d1, .int .i64 t1], .agg #[.int .i64 d2, .int .i64 t2], .int .i64 0]) (by simp [results, Tryd.results43, go_sem, x0, x1, y0, y1, World.cell?_setCell_same']) rfl ?_)
  exact ⟨rfl, Gr.of_below (((((HG.out.below).setCell (by simp) _).setCell (by simp) _).setCell (by simp) _).setCell (by simp) _)⟩

theorem frR_impl (s l p e : Int) (w : World) (hD : Dcs w) :
    Calls Tryd.prog 14 #[.int .i64 s, .int .i64 l, .int .i64 p, .int .i64 e] w fun e' w' => e' = .returned (.tuple #[.agg #[.int .i64 (frR s l p e).1.1, .int .i64 (frR s l p e).1.2], .int .i64 (frR s l p e).2]) ∧ Gr w w' := by
  have HD := Lib.hid hD
  rcases ok6_tf s l p e with h | h
  · by_cases hn : fstN s l p e < 0
    · have HO := Lib.hid (fun W hD => outer_ok s l p e W hD h hn)
      have H := Lib.hid (show frR s l p e = ((0, 0), 4) from rdR_no _ _ h (by have := rd_none_or s l p e; omega))
      clear h hn hD
      go_enter Tryd.func14, Tryd.ntmps14
      go_wp2_with (go_at_call 43; refine (HO.out _ (HD.out.gr (by repeat (first | with_reducible exact Gr.refl _ | with_reducible refine Gr.alloc ?_ _ | with_reducible refine Gr.gr ?_ _ _ | with_reducible refine Gr.drew ?_ | with_reducible refine Gr.drewN ?_ _)))).mono ?_; rintro en w' ⟨rfl, k, os, rfl⟩)
      ((try simp only [Exit.inBlock, Exit.then]); refine bodyPost_ret (v := .tuple #[.agg #[.int .i64 0, .int .i64 0], .int .i64 4]) (by simp [results, Tryd.results14, go_sem]) rfl ?_)
      exact ⟨ps_no _ _ H.out, (by repeat (first | with_reducible exact Gr.refl _ | with_reducible refine Gr.alloc ?_ _ | with_reducible refine Gr.gr ?_ _ _ | with_reducible refine Gr.drew ?_ | with_reducible refine Gr.drewN ?_ _))⟩
    · have HO := Lib.hid (fun W hD => outer_some s l p e W hD h hn)
      have H := Lib.hid (show frR s l p e = ((atD (fstN s l p e).toNat, atT (fstN s l p e).toNat), 0) from rdR_ok _ _ h (by have := rd_none_or s l p e; omega))
      clear h hn hD
      generalize atD (fstN s l p e).toNat = a at *
      generalize atT (fstN s l p e).toNat = b at *
      generalize atD (lstN s l p e).toNat = c at *
      generalize atT (lstN s l p e).toNat = d at *
      go_enter Tryd.func14, Tryd.ntmps14
      go_wp2_with (go_at_call 43; refine (HO.out _ (HD.out.gr (by repeat (first | with_reducible exact Gr.refl _ | with_reducible refine Gr.alloc ?_ _ | with_reducible refine Gr.gr ?_ _ _ | with_reducible refine Gr.drew ?_ | with_reducible refine Gr.drewN ?_ _)))).mono ?_; rintro en w' ⟨rfl, k, os, rfl⟩)
      ((try simp only [Exit.inBlock, Exit.then]); refine bodyPost_ret (v := .tuple #[.agg #[.int .i64 a, .int .i64 b], .int .i64 0]) (by simp [results, Tryd.results14, go_sem]) rfl ?_)
      exact ⟨ps_yes _ _ _ H.out, (by repeat (first | with_reducible exact Gr.refl _ | with_reducible refine Gr.alloc ?_ _ | with_reducible refine Gr.gr ?_ _ _ | with_reducible refine Gr.drew ?_ | with_reducible refine Gr.drewN ?_ _))⟩
  · have HO := Lib.hid (fun W => outer_rg s l p e W h)
    have H := Lib.hid (show frR s l p e = ((0, 0), 2) from rdR_rg _ _ h)
    clear h hD
    go_enter Tryd.func14, Tryd.ntmps14
    go_wp2_with (go_at_call 43; refine (HO.out _).mono ?_; rintro en w' ⟨rfl, k, os, rfl⟩)
    ((try simp only [Exit.inBlock, Exit.then]); refine bodyPost_ret (v := .tuple #[.agg #[.int .i64 0, .int .i64 0], .int .i64 2]) (by simp [results, Tryd.results14, go_sem]) rfl ?_)
    exact ⟨ps_no _ _ H.out, (by repeat (first | with_reducible exact Gr.refl _ | with_reducible refine Gr.alloc ?_ _ | with_reducible refine Gr.gr ?_ _ _ | with_reducible refine Gr.drew ?_ | with_reducible refine Gr.drewN ?_ _))⟩

theorem lrR_impl (s l p e : Int) (w : World) (hD : Dcs w) :
    Calls Tryd.prog 16 #[.int .i64 s, .int .i64 l, .int .i64 p, .int .i64 e] w fun e' w' => e' = .returned (.tuple #[.agg #[.int .i64 (lrR s l p e).1.1, .int .i64 (lrR s l p e).1.2], .int .i64 (lrR s l p e).2]) ∧ Gr w w' := by
  have HD := Lib.hid hD
  rcases ok6_tf s l p e with h | h
  · by_cases hn : fstN s l p e < 0
    · have HO := Lib.hid (fun W hD => outer_ok s l p e W hD h hn)
      have H := Lib.hid (show lrR s l p e = ((0, 0), 4) from rdR_no _ _ h (by have := rd_none_or s l p e; omega))
      clear h hn hD
      go_enter Tryd.func16, Tryd.ntmps16
      go_wp2_with (go_at_call 43; refine (HO.out _ (HD.out.gr (by repeat (first | with_reducible exact Gr.refl _ | with_reducible refine Gr.alloc ?_ _ | with_reducible refine Gr.gr ?_ _ _ | with_reducible refine Gr.drew ?_ | with_reducible refine Gr.drewN ?_ _)))).mono ?_; rintro en w' ⟨rfl, k, os, rfl⟩)
      ((try simp only [Exit.inBlock, Exit.then]); refine bodyPost_ret (v := .tuple #[.agg #[.int .i64 0, .int .i64 0], .int .i64 4]) (by simp [results, Tryd.results16, go_sem]) rfl ?_)
      exact ⟨ps_no _ _ H.out, (by repeat (first | with_reducible exact Gr.refl _ | with_reducible refine Gr.alloc ?_ _ | with_reducible refine Gr.gr ?_ _ _ | with_reducible refine Gr.drew ?_ | with_reducible refine Gr.drewN ?_ _))⟩
    · have HO := Lib.hid (fun W hD => outer_some s l p e W hD h hn)
      have H := Lib.hid (show lrR s l p e = ((atD (lstN s l p e).toNat, atT (lstN s l p e).toNat), 0) from rdR_ok _ _ h (by have := rd_none_or s l p e; omega))
      clear h hn hD
      generalize atD (fstN s l p e).toNat = a at *
      generalize atT (fstN s l p e).toNat = b at *
      generalize atD (lstN s l p e).toNat = c at *
      generalize atT (lstN s l p e).toNat = d at *
      go_enter Tryd.func16, Tryd.ntmps16
      go_wp2_with (go_at_call 43; refine (HO.out _ (HD.out.gr (by repeat (first | with_reducible exact Gr.refl _ | with_reducible refine Gr.alloc ?_ _ | with_reducible refine Gr.gr ?_ _ _ | with_reducible refine Gr.drew ?_ | with_reducible refine Gr.drewN ?_ _)))).mono ?_; rintro en w' ⟨rfl, k, os, rfl⟩)
      ((try simp only [Exit.inBlock, Exit.then]); refine bodyPost_ret (v := .tuple #[.agg #[.int .i64 c, .int .i64 d], .int .i64 0]) (by simp [results, Tryd.results16, go_sem]) rfl ?_)
      exact ⟨ps_yes _ _ _ H.out, (by repeat (first | with_reducible exact Gr.refl _ | with_reducible refine Gr.alloc ?_ _ | with_reducible refine Gr.gr ?_ _ _ | with_reducible refine Gr.drew ?_ | with_reducible refine Gr.drewN ?_ _))⟩
  · have HO := Lib.hid (fun W => outer_rg s l p e W h)
    have H := Lib.hid (show lrR s l p e = ((0, 0), 2) from rdR_rg _ _ h)
    clear h hD
    go_enter Tryd.func16, Tryd.ntmps16
    go_wp2_with (go_at_call 43; refine (HO.out _).mono ?_; rintro en w' ⟨rfl, k, os, rfl⟩)
    ((try simp only [Exit.inBlock, Exit.then]); refine bodyPost_ret (v := .tuple #[.agg #[.int .i64 0, .int .i64 0], .int .i64 2]) (by simp [results, Tryd.results16, go_sem]) rfl ?_)
    exact ⟨ps_no _ _ H.out, (by repeat (first | with_reducible exact Gr.refl _ | with_reducible refine Gr.alloc ?_ _ | with_reducible refine Gr.gr ?_ _ _ | with_reducible refine Gr.drew ?_ | with_reducible refine Gr.drewN ?_ _))⟩

theorem crR_impl (s l p e : Int) (w : World) (hD : Dcs w) :
    Calls Tryd.prog 18 #[.int .i64 s, .int .i64 l, .int .i64 p, .int .i64 e] w fun e' w' => e' = .returned (.tuple #[.int .i64 (crR s l p e).1, .int .i64 (crR s l p e).2]) ∧ Gr w w' := by
  rcases ok6_tf s l p e with h | h
  · obtain ⟨hs, hl, -, he, -⟩ := (ok6_iff _ _ _ _).1 h
    have HR := Lib.hid (readingsOf_ok s l p e w hD h)
    have H := Lib.hid (show crR s l p e = (((rdB s l p e - rdA s l p e : Nat) : Int), 0) by rw [crR_ok _ _ _ _ h, rd_count s l p e hs hl he])
    have hb := figs_bd s
    have hle := rd_le s l p e
    generalize (fun k => atD (onF s (rdA s l p e + k))) = D at *
    generalize (fun k => atT (onF s (rdA s l p e + k))) = T at *
    have h2 : rdB s l p e - rdA s l p e ≤ 2700 := by omega
    generalize rdB s l p e - rdA s l p e = n at *
    clear h hs hl he hD hb hle
    go_enter Tryd.func18, Tryd.ntmps18
    go_wp2_with fail
    refine HR.out.mono ?_
    rintro en w2 ⟨⟨v', B, rfl, hf⟩, hg2⟩
    obtain ⟨A, c, rfl⟩ := hf.val
    clear hf HR
    go_wp2
    go_ret2
    exact ⟨ret_two (by rw [H.out]) (by rw [H.out]), hg2⟩
  · have HR := Lib.hid (readingsOf_no s l p e w h)
    have H := Lib.hid (crR_rg _ _ _ _ h)
    clear h hD
    go_enter Tryd.func18, Tryd.ntmps18
    go_wp2_with fail
    refine HR.out.mono ?_
    rintro en w2 ⟨rfl, hg2⟩
    clear HR
    go_wp2
    go_ret2
    exact ⟨ret_two (by rw [H.out]) (by rw [H.out]), hg2⟩

theorem rrR_impl (s l p e : Int) (w : World) (hD : Dcs w) :
    Calls Tryd.prog 37 #[.int .i64 s, .int .i64 l, .int .i64 p, .int .i64 e] w fun e' w' => e' = .returned (.tuple #[.int .i64 (rrR s l p e).1, .int .i64 (rrR s l p e).2]) ∧ Gr w w' := by
  have HD := Lib.hid hD
  rcases ok6_tf s l p e with h | h
  · by_cases hn : fstN s l p e < 0
    · have HO := Lib.hid (fun W hD => outer_ok s l p e W hD h hn)
      have H := Lib.hid (rrR_no s l p e h hn)
      clear h hn hD
      go_enter Tryd.func37, Tryd.ntmps37
      go_wp2_with (go_at_call 43; refine (HO.out _ (HD.out.gr (by repeat (first | with_reducible exact Gr.refl _ | with_reducible refine Gr.alloc ?_ _ | with_reducible refine Gr.gr ?_ _ _ | with_reducible refine Gr.drew ?_ | with_reducible refine Gr.drewN ?_ _)))).mono ?_; rintro en w' ⟨rfl, k, os, rfl⟩)
      go_ret2
      exact ⟨ret_two (by rw [H.out]) (by rw [H.out]), (by repeat (first | with_reducible exact Gr.refl _ | with_reducible refine Gr.alloc ?_ _ | with_reducible refine Gr.gr ?_ _ _ | with_reducible refine Gr.drew ?_ | with_reducible refine Gr.drewN ?_ _))⟩
    · have HO := Lib.hid (fun W hD => outer_some s l p e W hD h hn)
      have H := Lib.hid (rrR_ok s l p e h hn)
      clear h hn hD
      generalize atD (fstN s l p e).toNat = a at *
      generalize atT (fstN s l p e).toNat = b at *
      generalize atD (lstN s l p e).toNat = c at *
      generalize atT (lstN s l p e).toNat = d at *
      go_enter Tryd.func37, Tryd.ntmps37
      go_wp2_with (first
        | (go_at_call 43; refine (HO.out _ (HD.out.gr (by repeat (first | with_reducible exact Gr.refl _ | with_reducible refine Gr.alloc ?_ _ | with_reducible refine Gr.gr ?_ _ _ | with_reducible refine Gr.drew ?_ | with_reducible refine Gr.drewN ?_ _)))).mono ?_; rintro en w' ⟨rfl, k, os, rfl⟩)
        | (go_at_call 85; refine (reR_impl _ _ _ _ _).mono ?_; rintro en w' ⟨rfl, k, os, rfl⟩))
      go_ret2
      exact ⟨ret_two (by rw [H.out]) (by rw [H.out]), (by repeat (first | with_reducible exact Gr.refl _ | with_reducible refine Gr.alloc ?_ _ | with_reducible refine Gr.gr ?_ _ _ | with_reducible refine Gr.drew ?_ | with_reducible refine Gr.drewN ?_ _))⟩
  · have HO := Lib.hid (fun W => outer_rg s l p e W h)
    have H := Lib.hid (rrR_rg s l p e h)
    clear h hD
    go_enter Tryd.func37, Tryd.ntmps37
    go_wp2_with (go_at_call 43; refine (HO.out _).mono ?_; rintro en w' ⟨rfl, k, os, rfl⟩)
    go_ret2
    exact ⟨ret_two (by rw [H.out]) (by rw [H.out]), (by repeat (first | with_reducible exact Gr.refl _ | with_reducible refine Gr.alloc ?_ _ | with_reducible refine Gr.gr ?_ _ _ | with_reducible refine Gr.drew ?_ | with_reducible refine Gr.drewN ?_ _))⟩
end Go.Proofs.YtgadkpkpdpphbaaDoor
