/- Contracts of chapter 11: SetSlide, in the program and in the model. -/
import Derived.Test.YtddcdodbmbmdnaaDoorC11i
import Derived.Test.YtddcdodbmbmdnaaDoorC11l
namespace Go.Proofs.YtddcdodbmbmdnaaDoor
open Go.RowKit
set_option linter.unusedVariables false
set_option linter.unusedSimpArgs false

set_option maxRecDepth 100000 in
set_option maxHeartbeats 4000000 in
theorem sslide_impl (a q s u t : Int) (L : Int) (A B : Option Addr) (n c m d : Nat) (xs ys : List Int) (w : World) (hx : xs.length = n) (hy : ys.length = m) (hn : n ≤ 16777216) (hm : m ≤ 16777216) (hnc : n ≤ c) (hmd : m ≤ d) (hX : Reads w w.heap.size A (xs.map vi)) (hY : Reads w w.heap.size B (ys.map vi)) (hD : Dcs w) :
    Calls Tryd.prog 26 #[.agg #[.int .i64 L, .slice A n c, .slice B m d], .agg #[.int .i64 (a), .int .i64 (q)], .int .i64 s, .agg #[.int .i64 u, .int .i64 t]] w fun e w' => e = .returned (.tuple #[.agg #[.int .i64 (slR L xs ys a q s u t).1.1, .int .i64 (slR L xs ys a q s u t).1.2], .int .i64 (slR L xs ys a q s u t).2]) ∧ Gr w w' := by
  have HM := Lib.hid (fun W h h' => newMachine_any a q L A B n c m d xs ys W hx hy hn hm hnc hmd h h')
  have HF := Lib.hid (fun W => isFigure_impl u t W)
  have RX := Lib.hid hX
  have RY := Lib.hid hY
  have HD := Lib.hid hD
  have hcs := seC_cases L xs ys a q true s u t
  have hno := slR_no L xs ys a q s u t
  by_cases hg : (rlB L xs ys && sgB a q) = false
  · have H := Lib.hid (show slR L xs ys a q s u t = ((0, 0), 1) from by
      have e : seC L xs ys a q true s u t = 1 := by
        rcases and_ff hg with e | ⟨e1, e2⟩
        · rcases hcs with ⟨-, h⟩ | ⟨h, -⟩ | ⟨h, -⟩ | ⟨h, -⟩ | ⟨h, -⟩
          · exact h
          all_goals (rw [e] at h; cases h)
        · rcases hcs with ⟨h, -⟩ | ⟨-, -, h⟩ | ⟨-, h, -⟩ | ⟨-, h, -⟩ | ⟨-, h, -⟩
          · rw [e1] at h; cases h
          · exact h
          all_goals (rw [e2] at h; cases h)
      rw [hno (by omega), e])
    generalize slR L xs ys a q s u t = R at *
    rw [hg] at HM
    clear hcs hno hg hx hy hX hY hD
    go_enter Tryd.func26, Tryd.ntmps26
    go_wp2_with fail
    obtain ⟨B0, B1, B2, B3, G⟩ := four_new w 37 39 26 39 #[.int .i64 L, .slice A n c, .slice B m d] #[.int .i64 a, .int .i64 q] #[.int .i64 u, .int .i64 t] #[.int .i64 0, .int .i64 0]
    generalize (((w.alloc (.cells #[.int .i64 L, .slice A n c, .slice B m d] 37)).alloc (.cells #[.int .i64 a, .int .i64 q] 39)).alloc (.cells #[.int .i64 u, .int .i64 t] 26)).alloc (.cells #[.int .i64 0, .int .i64 0] 39) = v at *
    refine (HM.out v (RX.out.gr G) (RY.out.gr G)).mono ?_
    rintro e w1 ⟨g, rfl, -, -, hG⟩
    have hW := Lib.hid (G.trans hG).below
    obtain ⟨r0, r1, rf⟩ := (B3.gr hG).two
    have rl := (B3.gr hG).lt
    clear B0 B1 B2 B3 hG G
    go_wp2_with fail
    ((try simp only [Exit.inBlock, Exit.then]); refine bodyPost_ret (v := .tuple #[.agg #[.int .i64 0, .int .i64 0], .int .i64 1]) (by simp [results, Tryd.results26, go_sem, r0, r1, World.cell?_setCell_same']) rfl ?_)
    exact ⟨ret_sgc _ _ _ _ H.out, Gr.of_below ((hW.out.setCell (p := ⟨w.heap.size + 1 + 1 + 1, 0, none⟩) (by simp; omega) _).setCell (p := ⟨w.heap.size + 1 + 1 + 1, 1, none⟩) (by simp; omega) _)⟩
  have hg' : (rlB L xs ys && sgB a q) = true := by simpa using hg
  rw [hg'] at HM
  obtain ⟨hr, hsg⟩ := Bool.and_eq_true_iff.1 hg'
  rcases (show fg u t = true ∨ fg u t = false by cases fg u t <;> simp) with hf | hf
  rotate_left
  · have H := Lib.hid (show slR L xs ys a q s u t = ((0, 0), 1) from by
      have e : seC L xs ys a q true s u t = 1 := by unfold seC; rw [if_pos hf]
      rw [hno (by omega), e])
    generalize slR L xs ys a q s u t = R at *
    rw [hf] at HF
    clear hcs hno hg hx hy hX hY hD hg' hr hsg hf
    go_enter Tryd.func26, Tryd.ntmps26
    go_wp2_with fail
    obtain ⟨B0, B1, B2, B3, G⟩ := four_new w 37 39 26 39 #[.int .i64 L, .slice A n c, .slice B m d] #[.int .i64 a, .int .i64 q] #[.int .i64 u, .int .i64 t] #[.int .i64 0, .int .i64 0]
    generalize (((w.alloc (.cells #[.int .i64 L, .slice A n c, .slice B m d] 37)).alloc (.cells #[.int .i64 a, .int .i64 q] 39)).alloc (.cells #[.int .i64 u, .int .i64 t] 26)).alloc (.cells #[.int .i64 0, .int .i64 0] 39) = v at *
    refine (HM.out v (RX.out.gr G) (RY.out.gr G)).mono ?_
    rintro e w1 ⟨g, rfl, -, -, hG⟩
    have hW := G.trans hG
    obtain ⟨f0, f1, -⟩ := (B2.gr hG).two
    have fl := (B2.gr hG).lt
    have R1 := B3.gr hG
    clear B0 B1 B2 B3 hG G
    go_wp2_with (go_at_call 50; (with_reducible refine (HF.out w1).mono ?_); rintro e w2 ⟨rfl, hg2⟩; obtain ⟨r0, r1, rf⟩ := (R1.gr hg2).two; have rl := (R1.gr hg2).lt)
    ((try simp only [Exit.inBlock, Exit.then]); refine bodyPost_ret (v := .tuple #[.agg #[.int .i64 0, .int .i64 0], .int .i64 1]) (by simp [results, Tryd.results26, go_sem, r0, r1, World.cell?_setCell_same']) rfl ?_)
    exact ⟨ret_sgc _ _ _ _ H.out, Gr.of_below (((hW.trans hg2).below.setCell (p := ⟨w.heap.size + 1 + 1 + 1, 0, none⟩) (by simp; omega) _).setCell (p := ⟨w.heap.size + 1 + 1 + 1, 1, none⟩) (by simp; omega) _)⟩
  have hsg' := (sgB_iff a q).1 hsg
  have HS := Lib.hid (fun g W h h' hd hb => sets_any g a q s u t L A B n c m d xs ys W hx hy hn hm hnc hmd h h' hd hr hb hf hsg'.2)
  have H := slR_mv L xs ys a q s u t hr hsg hf
  generalize slR L xs ys a q s u t = R at *
  generalize mvK (hasI ys s) (q - pnt s u t) q = kk at *
  generalize (if hasI ys s = true then q - pnt s u t else a) = a' at *
  rw [hf] at HF
  obtain ⟨x, y, z, hRx, hMA⟩ : ∃ x y z : Int, R = ((x, y), z) ∧ ∀ (g : Nat) W, Blk W g 109 (mcs L A B n c m d a' q) → Calls Tryd.prog 51 #[.pointer (some ⟨g, 0, none⟩), .int .i64 kk] W fun e w' => e = .returned (.tuple #[.agg #[.int .i64 x, .int .i64 y], .int .i64 z]) ∧ Gr W w' := by
    by_cases h0 : kk = 0
    · rw [if_pos h0] at H
      exact ⟨a', q, 0, H, fun g W h => by have := mafter_any g L A B n c m d a' q kk W h; rwa [if_pos h0] at this⟩
    · rw [if_neg h0] at H
      exact ⟨0, 0, kk, H, fun g W h => by have := mafter_any g L A B n c m d a' q kk W h; rwa [if_neg h0] at this⟩
  have HR := Lib.hid hRx
  have HMA := Lib.hid hMA
  clear hcs hno hg hx hy hX hY hD hg' hr hsg hf hsg' H hRx hMA
  go_enter Tryd.func26, Tryd.ntmps26
  go_wp2_with fail
  obtain ⟨B0, B1, B2, B3, G⟩ := four_new w 37 39 26 39 #[.int .i64 L, .slice A n c, .slice B m d] #[.int .i64 a, .int .i64 q] #[.int .i64 u, .int .i64 t] #[.int .i64 0, .int .i64 0]
  generalize (((w.alloc (.cells #[.int .i64 L, .slice A n c, .slice B m d] 37)).alloc (.cells #[.int .i64 a, .int .i64 q] 39)).alloc (.cells #[.int .i64 u, .int .i64 t] 26)).alloc (.cells #[.int .i64 0, .int .i64 0] 39) = v at *
  refine (HM.out v (RX.out.gr G) (RY.out.gr G)).mono ?_
  rintro e w1 ⟨g, rfl, hgv, hBm, hG⟩
  have hW := G.trans hG
  have F1 := B2.gr hG
  have R1 := B3.gr hG
  have hrg : w.heap.size + 1 + 1 + 1 ≠ g := by have := B3.lt; omega
  have hwg : w.heap.size ≤ g := by have := G.below.size; omega
  obtain ⟨f0, f1, -⟩ := F1.two
  have fl := F1.lt
  clear B0 B1 B2 B3 hG G
  have hx1 : Gx g w w1 := Gx.of hW
  have HBm := Lib.hid hBm
  have HW := Lib.hid hW
  clear hBm hW
  go_wp2_with (first
    | (go_at_call 50; (with_reducible refine (HF.out w1).mono ?_); rintro e w2 ⟨rfl, hg2⟩; obtain ⟨f0', f1', -⟩ := (F1.gr hg2).two; have fl' := (F1.gr hg2).lt; have R2 := R1.gr hg2)
    | (go_at_call 54; refine (HS.out g w2 (RX.out.gr (HW.out.trans hg2)) (RY.out.gr (HW.out.trans hg2)) (HD.out.gr (HW.out.trans hg2)) (HBm.out.gr hg2)).mono ?_; rintro e w4 ⟨rfl, hB4, hX4⟩; have R4 := hX4.keeps R2 hrg)
    | (go_at_call 51; refine (HMA.out g w4 hB4).mono ?_; rintro e w5 ⟨rfl, hg5⟩; obtain ⟨r0, r1, rf⟩ := (R4.gr hg5).two; have rl := (R4.gr hg5).lt))
  ((try simp only [Exit.inBlock, Exit.then]); refine bodyPost_ret (v := .tuple #[.agg #[.int .i64 x, .int .i64 y], .int .i64 z]) (by simp [results, Tryd.results26, go_sem, r0, r1, World.cell?_setCell_same']) rfl ?_)
  exact ⟨ret_sgc _ _ _ _ HR.out, Gr.of_below (((((hx1.trans (Gx.of hg2)).trans hX4).trans (Gx.of hg5)).below hwg (Nat.le_refl _)).setCell (p := ⟨w.heap.size + 1 + 1 + 1, 0, none⟩) (by simp; omega) _ |>.setCell (p := ⟨w.heap.size + 1 + 1 + 1, 1, none⟩) (by simp; omega) _)⟩

set_option maxRecDepth 100000 in
set_option maxHeartbeats 2000000 in
theorem sslide_spec (a q s u t : Int) (L : Int) (A B : Option Addr) (n c m d : Nat) (xs ys : List Int) (w : World) (hx : xs.length = n) (hy : ys.length = m) (hn : n ≤ 16777216) (hm : m ≤ 16777216) (hnc : n ≤ c) (hmd : m ≤ d) (hX : Reads w w.heap.size A (xs.map vi)) (hY : Reads w w.heap.size B (ys.map vi)) :
    Calls Tryd.prog 25 #[.agg #[.int .i64 L, .slice A n c, .slice B m d], .agg #[.int .i64 (a), .int .i64 (q)], .int .i64 s, .agg #[.int .i64 u, .int .i64 t]] w fun e w' => e = .returned (.tuple #[.agg #[.int .i64 (slR L xs ys a q s u t).1.1, .int .i64 (slR L xs ys a q s u t).1.2], .int .i64 (slR L xs ys a q s u t).2]) ∧ Gr w w' := by
  have HC := Lib.hid (fun W h h' => code11_spec true a q s L A B n c m d xs ys W hx hy hn hm hnc hmd h h')
  have HF := Lib.hid (fun W => isFigure_spec u t W)
  have RX := Lib.hid hX
  have RY := Lib.hid hY
  clear hx hy hX hY
  have hok := slR_ok L xs ys a q s u t
  have hno := slR_no L xs ys a q s u t
  rcases (show fg u t = true ∨ fg u t = false by cases fg u t <;> simp) with hf | hf
  · have hse : seC L xs ys a q true s u t = rcd L xs ys a q true s := by unfold seC; rw [if_neg (by rw [hf]; simp)]
    rw [hse] at hok hno
    rw [hf] at HF
    by_cases h : rcd L xs ys a q true s = 0
    · obtain ⟨h1, h2⟩ := rcd_stock h
      have h3 := (sgB_iff a q).1 h1
      have H := Lib.hid (hok h)
      have HP := Lib.hid (fun W => point_spec s u t W hf (lsc_sc s h2))
      have bp := pnt_bd s u t hf
      have HRe := Lib.hid (fun W => result11_spec (q - pnt s u t) q W)
      rw [h] at HC
      generalize slR L xs ys a q s u t = R at *
      generalize rsS (q - pnt s u t) q = S at *
      generalize pnt s u t = x at *
      have hw : IntKind.i64.wrap (q - x) = q - x := IntWalk.i64_in _ (by omega)
      obtain ⟨⟨S1, S2⟩, S3⟩ := S
      clear hok hno h h1 h2 h3 hf hse
      go_enter Tryd.func25, Tryd.ntmps25
      go_wp2_with fail
      obtain ⟨B0, B1, B2, B3, G⟩ := four_new w 37 39 26 39 #[.int .i64 L, .slice A n c, .slice B m d] #[.int .i64 a, .int .i64 q] #[.int .i64 u, .int .i64 t] #[.int .i64 0, .int .i64 0]
      generalize (((w.alloc (.cells #[.int .i64 L, .slice A n c, .slice B m d] 37)).alloc (.cells #[.int .i64 a, .int .i64 q] 39)).alloc (.cells #[.int .i64 u, .int .i64 t] 26)).alloc (.cells #[.int .i64 0, .int .i64 0] 39) = v at *
      refine (HC.out v (RX.out.gr G) (RY.out.gr G)).mono ?_
      rintro e w1 ⟨rfl, hg1⟩
      obtain ⟨f0, f1, -⟩ := (B2.gr hg1).two
      have fl := (B2.gr hg1).lt
      go_wp2_with (go_at_call 46; (with_reducible refine (HF.out w1).mono ?_); rintro e w2 ⟨rfl, hg2⟩)
      clear f0 f1 fl
      have hg := hg1.trans hg2
      have HW := Lib.hid (G.trans hg)
      have T2 := B1.gr hg
      have F2 := B2.gr hg
      have R2 := B3.gr hg
      clear B0 B1 B2 B3 G hg1 hg2 hg
      have HS2 := Lib.hid (fun wz (hz : CW (w.heap.size + 1 + 1 + 1) (fun wz => ∃ y z, Blk wz (w.heap.size + 1 + 1 + 1) 39 #[y, z]) w2 wz) => (hz.gx.keeps T2 (by omega)).two)
      have HF2 := Lib.hid (fun wz (hz : CW (w.heap.size + 1 + 1 + 1) (fun wz => ∃ y z, Blk wz (w.heap.size + 1 + 1 + 1) 39 #[y, z]) w2 wz) => (hz.gx.keeps F2 (by omega)).two)
      have hp : ∀ a' b', Gr a' b' → (∃ y z, Blk a' (w.heap.size + 1 + 1 + 1) 39 #[y, z]) → (∃ y z, Blk b' (w.heap.size + 1 + 1 + 1) 39 #[y, z]) := fun a' b' hg ⟨y, z, h⟩ => ⟨y, z, h.gr hg⟩
      refine region_writes 12 (w.heap.size + 1 + 1 + 1) 39 #[.int .i64 S1, .int .i64 S2] [(4, .int .i64 x), (9, .tuple #[.agg #[.int .i64 S1, .int .i64 S2], .int .i64 S3])] (fun wz => ∃ y z, Blk wz (w.heap.size + 1 + 1 + 1) 39 #[y, z]) ⟨_, _, R2⟩ (by kernel_rfl) (by kernel_rfl) ?_
      (refine lz_one rfl (fun K hK => ?_); refine ⟨rfl, ?_⟩; apply Exists.intro; refine ⟨fun wz hz => ?_, ?_⟩; (focus (skip; go_simp; (first | done | exact ⟨rfl, rfl⟩ | trivial))); (go_simp; refine hK _ _ ?_; clear hK K))
      (refine lz_one rfl (fun K hK => ?_); refine ⟨rfl, ?_⟩; apply Exists.intro; refine ⟨fun wz hz => ?_, ?_⟩; (focus (obtain ⟨s0, s1, -⟩ := HS2.out wz hz; go_simp; (first | done | exact ⟨rfl, rfl⟩ | trivial))); (go_simp; refine hK _ _ ?_; clear hK K))
      (refine lz_one rfl (fun K hK => ?_); refine ⟨rfl, ?_⟩; apply Exists.intro; refine ⟨fun wz hz => ?_, ?_⟩; (focus (skip; go_simp; (first | done | exact ⟨rfl, rfl⟩ | trivial))); (go_simp; refine hK _ _ ?_; clear hK K))
      (refine lz_one rfl (fun K hK => ?_); refine ⟨rfl, ?_⟩; apply Exists.intro; refine ⟨fun wz hz => ?_, ?_⟩; (focus (obtain ⟨f0, f1, -⟩ := HF2.out wz hz; go_simp; (first | done | exact ⟨rfl, rfl⟩ | trivial))); (go_simp; refine hK _ _ ?_; clear hK K))
      (refine lz_many _ rfl (fun K hK => ?_); refine ⟨rfl, fun wz hz ha => ?_, fun vz wz hz hf => ?_⟩; (focus (go_simp; exact lw_call (by decide) hp hz (HP.out _))); (obtain rfl := hf; clear hz wz; go_simp; refine hK _ _ ?_; clear hK K))
      (refine lz_one rfl (fun K hK => ?_); refine ⟨rfl, ?_⟩; apply Exists.intro; refine ⟨fun wz hz => ?_, ?_⟩; (focus (skip; go_simp; (first | done | exact ⟨rfl, rfl⟩ | trivial))); (go_simp; refine hK _ _ ?_; clear hK K))
      (refine lz_one rfl (fun K hK => ?_); refine ⟨rfl, ?_⟩; apply Exists.intro; refine ⟨fun wz hz => ?_, ?_⟩; (focus (skip; go_simp; (first | done | exact ⟨rfl, rfl⟩ | trivial))); (go_simp; refine hK _ _ ?_; clear hK K))
      (refine lz_one rfl (fun K hK => ?_); refine ⟨rfl, ?_⟩; apply Exists.intro; refine ⟨fun wz hz => ?_, ?_⟩; (focus (obtain ⟨s0, s1, -⟩ := HS2.out wz hz; go_simp; (first | done | exact ⟨rfl, rfl⟩ | trivial))); (go_simp; refine hK _ _ ?_; clear hK K))
      (refine lz_one rfl (fun K hK => ?_); refine ⟨rfl, ?_⟩; apply Exists.intro; refine ⟨fun wz hz => ?_, ?_⟩; (focus (skip; go_simp; (first | done | exact ⟨rfl, rfl⟩ | trivial))); (go_simp; refine hK _ _ ?_; clear hK K))
      (refine lz_many _ rfl (fun K hK => ?_); refine ⟨rfl, fun wz hz ha => ?_, fun vz wz hz hf => ?_⟩; (focus (go_simp; exact lw_call (by decide) hp hz (HRe.out _))); (obtain rfl := hf; clear hz wz; go_simp; refine hK _ _ ?_; clear hK K))
      (refine lz_one rfl (fun K hK => ?_); refine ⟨rfl, ?_⟩; apply Exists.intro; refine ⟨fun wz hz => ?_, ?_⟩; (focus (skip; go_simp; (first | done | exact ⟨rfl, rfl⟩ | trivial))); (go_simp; refine hK _ _ ?_; clear hK K))
      (refine lz_one rfl (fun K hK => ?_); refine ⟨rfl, ?_⟩; apply Exists.intro; refine ⟨fun wz hz => ?_, ?_⟩; (focus (skip; go_simp; (first | done | exact ⟨rfl, rfl⟩ | trivial))); (go_simp; refine hK _ _ ?_; clear hK K))
      (refine lz_many _ rfl (fun K hK => ?_); refine ⟨rfl, fun wz hz ha => ?_, fun vz wz hz hf => ?_⟩; (focus (obtain ⟨y0, y1, hB⟩ := hz.at'; obtain ⟨c0, c1, cf⟩ := hB.two; have cl := hB.lt; go_simp; exact lw_store hz (by simp) (((Gx.of (Gr.refl _)).set 0 _).set 1 _) ⟨_, _, (hB.set 0 _).set 1 _⟩ ((hB.set 0 _).set 1 _))); (obtain - := hf; clear hz wz; go_simp; refine hK _ _ ?_; clear hK K))
      (refine lz_one rfl (fun K hK => ?_); refine ⟨rfl, ?_⟩; apply Exists.intro; refine ⟨fun wz hz => ?_, ?_⟩; (focus (skip; go_simp; (first | done | exact ⟨rfl, rfl⟩ | trivial))); (go_simp; refine hK _ _ ?_; clear hK K))
      refine lz_nil ?_
      intro w3 hz hg
      have B3 : Blk w3 (w.heap.size + 1 + 1 + 1) 39 #[.int .i64 S1, .int .i64 S2] := hg 12
      obtain ⟨r0, r1, -⟩ := B3.two
      have hX := ((Gx.of HW.out).trans hz.gx).below (B := w.heap.size) (by omega) (Nat.le_refl _)
      clear hg
      go_wp2_with fail
      ((try simp only [Exit.inBlock, Exit.then]); refine bodyPost_ret (v := .tuple #[.agg #[.int .i64 S1, .int .i64 S2], .int .i64 S3]) (by simp [results, Tryd.results25, go_sem, r0, r1, World.cell?_setCell_same']) rfl ?_)
      exact ⟨ret_sg11 _ _ _ _ H.out, Gr.of_below hX⟩
    · have H := Lib.hid (hno h)
      have hb : (rcd L xs ys a q true s == 0) = false := by simpa using h
      generalize slR L xs ys a q s u t = R at *
      generalize rcd L xs ys a q true s = z at *
      clear hok hno h hf hse
      go_enter Tryd.func25, Tryd.ntmps25
      go_wp2_with (first | (go_at_call 38; (with_reducible refine (HC.out _ (RX.out.gr (by repeat (first | with_reducible exact Gr.refl _ | with_reducible refine Gr.alloc ?_ _ | with_reducible refine Gr.gr ?_ _ _ | with_reducible refine Gr.drew ?_ | with_reducible refine Gr.drewN ?_ _))) (RY.out.gr (by repeat (first | with_reducible exact Gr.refl _ | with_reducible refine Gr.alloc ?_ _ | with_reducible refine Gr.gr ?_ _ _ | with_reducible refine Gr.drew ?_ | with_reducible refine Gr.drewN ?_ _)))).mono ?_); rintro e w' ⟨rfl, k, os, rfl⟩) | (go_at_call 46; (with_reducible refine (HF.out _).mono ?_); rintro e w' ⟨rfl, k2, os2, rfl⟩))
      ((try simp only [Exit.inBlock, Exit.then]); refine bodyPost_ret (v := .tuple #[.agg #[.int .i64 0, .int .i64 0], .int .i64 z]) (by simp [results, Tryd.results25, go_sem]) rfl ?_)
      exact ⟨ret_sg11 _ _ _ _ H.out, (by repeat (first | with_reducible exact Gr.refl _ | with_reducible refine Gr.alloc ?_ _ | with_reducible refine Gr.gr ?_ _ _ | with_reducible refine Gr.drew ?_ | with_reducible refine Gr.drewN ?_ _))⟩
  · have hse : seC L xs ys a q true s u t = 1 := by unfold seC; rw [if_pos hf]
    have H := Lib.hid (hno (by omega))
    rw [hse] at H
    rw [hf] at HF
    generalize slR L xs ys a q s u t = R at *
    generalize rcd L xs ys a q true s = z at *
    clear hok hno hf hse
    go_enter Tryd.func25, Tryd.ntmps25
    go_wp2_with (first | (go_at_call 38; (with_reducible refine (HC.out _ (RX.out.gr (by repeat (first | with_reducible exact Gr.refl _ | with_reducible refine Gr.alloc ?_ _ | with_reducible refine Gr.gr ?_ _ _ | with_reducible refine Gr.drew ?_ | with_reducible refine Gr.drewN ?_ _))) (RY.out.gr (by repeat (first | with_reducible exact Gr.refl _ | with_reducible refine Gr.alloc ?_ _ | with_reducible refine Gr.gr ?_ _ _ | with_reducible refine Gr.drew ?_ | with_reducible refine Gr.drewN ?_ _)))).mono ?_); rintro e w' ⟨rfl, k, os, rfl⟩) | (go_at_call 46; (with_reducible refine (HF.out _).mono ?_); rintro e w' ⟨rfl, k2, os2, rfl⟩))
    ((try simp only [Exit.inBlock, Exit.then]); refine bodyPost_ret (v := .tuple #[.agg #[.int .i64 0, .int .i64 0], .int .i64 1]) (by simp [results, Tryd.results25, go_sem]) rfl ?_)
    exact ⟨ret_sg11 _ _ _ _ H.out, (by repeat (first | with_reducible exact Gr.refl _ | with_reducible refine Gr.alloc ?_ _ | with_reducible refine Gr.gr ?_ _ _ | with_reducible refine Gr.drew ?_ | with_reducible refine Gr.drewN ?_ _))⟩
end Go.Proofs.YtddcdodbmbmdnaaDoor
