/- Contracts of chapter 11: the program's SetCursor and SetSlide. -/
import Derived.Test.YtddcdodbmbmdnaaDoorC11h
namespace Go.Proofs.YtddcdodbmbmdnaaDoor
open Go.RowKit
set_option linter.unusedVariables false
set_option linter.unusedSimpArgs false

theorem ret_sgc (a b c : Int) (x : (Int × Int) × Int) (h : x = ((a, b), c)) : Ending.returned (.tuple #[.agg #[.int .i64 a, .int .i64 b], .int .i64 c]) = .returned (.tuple #[.agg #[.int .i64 x.1.1, .int .i64 x.1.2], .int .i64 x.2]) := by rw [h]
/-- What a machine's method answers, and where the setting is then. -/
def mvK (h : Bool) (a q : Int) : Int := if h = true then (if sgB a q = true then 0 else 5) else 2
theorem setc_any (b : Bool) (g : Nat) (a q s u t : Int) (L : Int) (A B : Option Addr) (n c m d : Nat) (xs ys : List Int) (w : World) (hx : xs.length = n) (hy : ys.length = m) (hn : n ≤ 16777216) (hm : m ≤ 16777216) (hnc : n ≤ c) (hmd : m ≤ d) (hX : Reads w w.heap.size A (xs.map vi)) (hY : Reads w w.heap.size B (ys.map vi)) (hD : Dcs w) (hr : rlB L xs ys = true) (h : Blk w g 109 (mcs L A B n c m d a q)) (hf : fg u t = true) (ha : -1048576 ≤ a ∧ a ≤ 1048576) :
    Calls Tryd.prog 52 #[.pointer (some ⟨g, 0, none⟩), pmet b, .int .i64 s, .agg #[.int .i64 u, .int .i64 t]] w (Moved g (mcs L A B n c m d a (if hasI (onP b xs ys) s = true then stP b a + pnt s u t else q)) (mvK (hasI (onP b xs ys) s) a (stP b a + pnt s u t)) w) := by
  obtain ⟨C, k, r, hC, hzl, hk, hZ⟩ := part_of b w A B n c m d xs ys hx hy hn hm hX hY
  refine (setCursor_any b (onP b xs ys) k C r g a q s u t L A B n c m d w hD hzl hk hC hZ h hf ha (fun e => onP_mem hr e)).mono ?_
  intro e w' he
  rcases hasI_tf (onP b xs ys) s with hs | hs
  · rw [hs, if_pos rfl] at he
    rw [hs, if_pos rfl]
    exact he
  · rw [hs, if_neg (by simp)] at he
    rw [hs, if_neg (by simp)]
    exact ⟨he.1, h.gr he.2, Gx.of he.2⟩
theorem sets_any (g : Nat) (a q s u t : Int) (L : Int) (A B : Option Addr) (n c m d : Nat) (xs ys : List Int) (w : World) (hx : xs.length = n) (hy : ys.length = m) (hn : n ≤ 16777216) (hm : m ≤ 16777216) (hnc : n ≤ c) (hmd : m ≤ d) (hX : Reads w w.heap.size A (xs.map vi)) (hY : Reads w w.heap.size B (ys.map vi)) (hD : Dcs w) (hr : rlB L xs ys = true) (h : Blk w g 109 (mcs L A B n c m d a q)) (hf : fg u t = true) (hq : 0 ≤ q ∧ q ≤ 1048576) :
    Calls Tryd.prog 54 #[.pointer (some ⟨g, 0, none⟩), .int .i64 s, .agg #[.int .i64 u, .int .i64 t]] w (Moved g (mcs L A B n c m d (if hasI ys s = true then q - pnt s u t else a) q) (mvK (hasI ys s) (q - pnt s u t) q) w) := by
  refine (setSlide_any g a q s u t L A B n c m d xs ys w hD hy hm hY h hf hq (fun e => onP_mem (b := true) (xs := xs) hr e)).mono ?_
  intro e w' he
  rcases hasI_tf ys s with hs | hs
  · rw [hs, if_pos rfl] at he
    rw [hs, if_pos rfl]
    exact he
  · rw [hs, if_neg (by simp)] at he
    rw [hs, if_neg (by simp)]
    exact ⟨he.1, h.gr he.2, Gx.of he.2⟩
theorem cuR_mv (L : Int) (xs ys : List Int) (a q : Int) (b : Bool) (s d t : Int) (hr : rlB L xs ys = true) (hs : sgB a q = true) (hf : fg d t = true) :
    cuR L xs ys a q b s d t = if mvK (hasI (onP b xs ys) s) a (stP b a + pnt s d t) = 0 then ((a, if hasI (onP b xs ys) s = true then stP b a + pnt s d t else q), 0) else ((0, 0), mvK (hasI (onP b xs ys) s) a (stP b a + pnt s d t)) := by
  have h := seC_cases L xs ys a q b s d t
  rw [hr, hs, hf] at h
  unfold mvK
  rcases h with ⟨e, -⟩ | ⟨-, e, -⟩ | ⟨-, -, e, -⟩ | ⟨-, -, -, e, e'⟩ | ⟨-, -, -, e, e'⟩
  · cases e
  · cases e
  · cases e
  · rw [cuR_no _ _ _ _ _ _ _ _ _ (by omega), e', e]; simp
  · rw [cuR_ok _ _ _ _ _ _ _ _ _ e', e]
    rcases sgB_tf a (stP b a + pnt s d t) with g | g
    · rw [rsS_ok _ _ g, g]; simp
    · rw [rsS_no _ _ g, g]; simp
theorem slR_mv (L : Int) (xs ys : List Int) (a q s d t : Int) (hr : rlB L xs ys = true) (hs : sgB a q = true) (hf : fg d t = true) :
    slR L xs ys a q s d t = if mvK (hasI ys s) (q - pnt s d t) q = 0 then ((if hasI ys s = true then q - pnt s d t else a, q), 0) else ((0, 0), mvK (hasI ys s) (q - pnt s d t) q) := by
  have h := seC_cases L xs ys a q true s d t
  rw [hr, hs, hf, onP_t] at h
  unfold mvK
  rcases h with ⟨e, -⟩ | ⟨-, e, -⟩ | ⟨-, -, e, -⟩ | ⟨-, -, -, e, e'⟩ | ⟨-, -, -, e, e'⟩
  · cases e
  · cases e
  · cases e
  · rw [slR_no _ _ _ _ _ _ _ _ (by omega), e', e]; simp
  · rw [slR_ok _ _ _ _ _ _ _ _ e', e]
    rcases sgB_tf (q - pnt s d t) q with g | g
    · rw [rsS_ok _ _ g, g]; simp
    · rw [rsS_no _ _ g, g]; simp

/-- Four blocks made behind one another. -/
theorem four_new (w : World) (T U V X : TypeId) (a b c d : Array Value) :
    Blk ((((w.alloc (.cells a T)).alloc (.cells b U)).alloc (.cells c V)).alloc (.cells d X)) w.heap.size T a ∧ Blk ((((w.alloc (.cells a T)).alloc (.cells b U)).alloc (.cells c V)).alloc (.cells d X)) (w.heap.size + 1) U b ∧ Blk ((((w.alloc (.cells a T)).alloc (.cells b U)).alloc (.cells c V)).alloc (.cells d X)) (w.heap.size + 1 + 1) V c ∧
    Blk ((((w.alloc (.cells a T)).alloc (.cells b U)).alloc (.cells c V)).alloc (.cells d X)) (w.heap.size + 1 + 1 + 1) X d ∧ Gr w ((((w.alloc (.cells a T)).alloc (.cells b U)).alloc (.cells c V)).alloc (.cells d X)) := by
  obtain ⟨B0, B1, B2, G⟩ := tri_new w T U V a b c
  have B3 := Blk.new (((w.alloc (.cells a T)).alloc (.cells b U)).alloc (.cells c V)) X d
  simp only [World.size_alloc] at B3
  exact ⟨B0.alloc _, B1.alloc _, B2.alloc _, B3, G.alloc _⟩

set_option maxRecDepth 100000 in
set_option maxHeartbeats 4000000 in
theorem scursor_impl (b : Bool) (a q s u t : Int) (L : Int) (A B : Option Addr) (n c m d : Nat) (xs ys : List Int) (w : World) (hx : xs.length = n) (hy : ys.length = m) (hn : n ≤ 16777216) (hm : m ≤ 16777216) (hnc : n ≤ c) (hmd : m ≤ d) (hX : Reads w w.heap.size A (xs.map vi)) (hY : Reads w w.heap.size B (ys.map vi)) (hD : Dcs w) :
    Calls Tryd.prog 23 #[.agg #[.int .i64 L, .slice A n c, .slice B m d], .agg #[.int .i64 (a), .int .i64 (q)], .bool b, .int .i64 s, .agg #[.int .i64 u, .int .i64 t]] w fun e w' => e = .returned (.tuple #[.agg #[.int .i64 (cuR L xs ys a q b s u t).1.1, .int .i64 (cuR L xs ys a q b s u t).1.2], .int .i64 (cuR L xs ys a q b s u t).2]) ∧ Gr w w' := by
  have HM := Lib.hid (fun W h h' => newMachine_any a q L A B n c m d xs ys W hx hy hn hm hnc hmd h h')
  have HF := Lib.hid (fun W => isFigure_impl u t W)
  have RX := Lib.hid hX
  have RY := Lib.hid hY
  have HD := Lib.hid hD
  have HCh := Lib.hid (fun W => show Calls Tryd.prog 53 #[.bool b] W (fun e w' => e = .returned (pmet b) ∧ W = w') from choosePart_any b W)
  have hcs := seC_cases L xs ys a q b s u t
  have hno := cuR_no L xs ys a q b s u t
  by_cases hg : (rlB L xs ys && sgB a q) = false
  · have H := Lib.hid (show cuR L xs ys a q b s u t = ((0, 0), 1) from by
      have e : seC L xs ys a q b s u t = 1 := by
        rcases and_ff hg with e | ⟨e1, e2⟩
        · rcases hcs with ⟨-, h⟩ | ⟨h, -⟩ | ⟨h, -⟩ | ⟨h, -⟩ | ⟨h, -⟩
          · exact h
          all_goals (rw [e] at h; cases h)
        · rcases hcs with ⟨h, -⟩ | ⟨-, -, h⟩ | ⟨-, h, -⟩ | ⟨-, h, -⟩ | ⟨-, h, -⟩
          · rw [e1] at h; cases h
          · exact h
          all_goals (rw [e2] at h; cases h)
      rw [hno (by omega), e])
    generalize cuR L xs ys a q b s u t = R at *
    rw [hg] at HM
    clear hcs hno hg hx hy hX hY hD
    go_enter Tryd.func23, Tryd.ntmps23
    go_wp2_with fail
    obtain ⟨B0, B1, B2, B3, G⟩ := four_new w 37 39 26 39 #[.int .i64 L, .slice A n c, .slice B m d] #[.int .i64 a, .int .i64 q] #[.int .i64 u, .int .i64 t] #[.int .i64 0, .int .i64 0]
    generalize (((w.alloc (.cells #[.int .i64 L, .slice A n c, .slice B m d] 37)).alloc (.cells #[.int .i64 a, .int .i64 q] 39)).alloc (.cells #[.int .i64 u, .int .i64 t] 26)).alloc (.cells #[.int .i64 0, .int .i64 0] 39) = v at *
    refine (HM.out v (RX.out.gr G) (RY.out.gr G)).mono ?_
    rintro e w1 ⟨g, rfl, -, -, hG⟩
    have hW := Lib.hid (G.trans hG).below
    obtain ⟨r0, r1, rf⟩ := (B3.gr hG).two
    have rl := (B3.gr hG).lt
    clear B0 B1 B2 B3 hG G
    go_wp2_with fail
    ((try simp only [Exit.inBlock, Exit.then]); refine bodyPost_ret (v := .tuple #[.agg #[.int .i64 0, .int .i64 0], .int .i64 1]) (by simp [results, Tryd.results23, go_sem, r0, r1, World.cell?_setCell_same']) rfl ?_)
    exact ⟨ret_sgc _ _ _ _ H.out, Gr.of_below ((hW.out.setCell (p := ⟨w.heap.size + 1 + 1 + 1, 0, none⟩) (by simp; omega) _).setCell (p := ⟨w.heap.size + 1 + 1 + 1, 1, none⟩) (by simp; omega) _)⟩
  have hg' : (rlB L xs ys && sgB a q) = true := by simpa using hg
  rw [hg'] at HM
  obtain ⟨hr, hsg⟩ := Bool.and_eq_true_iff.1 hg'
  rcases (show fg u t = true ∨ fg u t = false by cases fg u t <;> simp) with hf | hf
  rotate_left
  · have H := Lib.hid (show cuR L xs ys a q b s u t = ((0, 0), 1) from by
      have e : seC L xs ys a q b s u t = 1 := by unfold seC; rw [if_pos hf]
      rw [hno (by omega), e])
    generalize cuR L xs ys a q b s u t = R at *
    rw [hf] at HF
    clear hcs hno hg hx hy hX hY hD hg' hr hsg hf
    go_enter Tryd.func23, Tryd.ntmps23
    go_wp2_with fail
    obtain ⟨B0, B1, B2, B3, G⟩ := four_new w 37 39 26 39 #[.int .i64 L, .slice A n c, .slice B m d] #[.int .i64 a, .int .i64 q] #[.int .i64 u, .int .i64 t] #[.int .i64 0, .int .i64 0]
    generalize (((w.alloc (.cells #[.int .i64 L, .slice A n c, .slice B m d] 37)).alloc (.cells #[.int .i64 a, .int .i64 q] 39)).alloc (.cells #[.int .i64 u, .int .i64 t] 26)).alloc (.cells #[.int .i64 0, .int .i64 0] 39) = v at *
    refine (HM.out v (RX.out.gr G) (RY.out.gr G)).mono ?_
    rintro e w1 ⟨g, rfl, -, -, hG⟩
    have hW := G.trans hG
    obtain ⟨f0, f1, -⟩ := (B2.gr hG).two
    have fl := (B2.gr hG).lt
    have R1 := B3.gr hG
    clear B0 B1 B2 B3 hG G
    go_wp2_with (go_at_call 50; (with_reducible refine (HF.out w1).mono ?_); rintro e w2 ⟨rfl, hg2⟩; obtain ⟨r0, r1, rf⟩ := (R1.gr hg2).two; have rl := (R1.gr hg2).lt)
    ((try simp only [Exit.inBlock, Exit.then]); refine bodyPost_ret (v := .tuple #[.agg #[.int .i64 0, .int .i64 0], .int .i64 1]) (by simp [results, Tryd.results23, go_sem, r0, r1, World.cell?_setCell_same']) rfl ?_)
    exact ⟨ret_sgc _ _ _ _ H.out, Gr.of_below (((hW.trans hg2).below.setCell (p := ⟨w.heap.size + 1 + 1 + 1, 0, none⟩) (by simp; omega) _).setCell (p := ⟨w.heap.size + 1 + 1 + 1, 1, none⟩) (by simp; omega) _)⟩
  have hsg' := (sgB_iff a q).1 hsg
  have HS := Lib.hid (fun g W h h' hd hb => setc_any b g a q s u t L A B n c m d xs ys W hx hy hn hm hnc hmd h h' hd hr hb hf hsg'.1)
  have H := cuR_mv L xs ys a q b s u t hr hsg hf
  generalize cuR L xs ys a q b s u t = R at *
  generalize mvK (hasI (onP b xs ys) s) a (stP b a + pnt s u t) = kk at *
  generalize (if hasI (onP b xs ys) s = true then stP b a + pnt s u t else q) = q' at *
  rw [hf] at HF
  obtain ⟨x, y, z, hRx, hMA⟩ : ∃ x y z : Int, R = ((x, y), z) ∧ ∀ (g : Nat) W, Blk W g 109 (mcs L A B n c m d a q') → Calls Tryd.prog 51 #[.pointer (some ⟨g, 0, none⟩), .int .i64 kk] W fun e w' => e = .returned (.tuple #[.agg #[.int .i64 x, .int .i64 y], .int .i64 z]) ∧ Gr W w' := by
    by_cases h0 : kk = 0
    · rw [if_pos h0] at H
      exact ⟨a, q', 0, H, fun g W h => by have := mafter_any g L A B n c m d a q' kk W h; rwa [if_pos h0] at this⟩
    · rw [if_neg h0] at H
      exact ⟨0, 0, kk, H, fun g W h => by have := mafter_any g L A B n c m d a q' kk W h; rwa [if_neg h0] at this⟩
  have HR := Lib.hid hRx
  have HMA := Lib.hid hMA
  clear hcs hno hg hx hy hX hY hD hg' hr hsg hf hsg' H hRx hMA
  go_enter Tryd.func23, Tryd.ntmps23
  go_wp2_with fail
  obtain ⟨B0, B1, B2, B3, G⟩ := four_new w 37 39 26 39 #[.int .i64 L, .slice A n c, .slice B m d] #[.int .i64 a, .int .i64 q] #[.int .i64 u, .int .i64 t] #[.int .i64 0, .int .i64 0]
  generalize (((w.alloc (.cells #[.int .i64 L, .slice A n c, .slice B m d] 37)).alloc (.cells #[.int .i64 a, .int .i64 q] 39)).alloc (.cells #[.int .i64 u, .int .i64 t] 26)).alloc (.cells #[.int .i64 0, .int .i64 0] 39) = v at *
  refine (HM.out v (RX.out.gr G) (RY.out.gr G)).mono ?_
  rintro e w1 ⟨g, rfl, hgv, hBm, hG⟩
  have hW := G.trans hG
  have F1 := B2.gr hG
  have R1 := B3.gr hG
  have hrg : w.heap.size + 1 + 1 + 1 ≠ g := by have := B3.lt; omega
  have hwg : w.heap.size ≤ g := by have := G.below.size; omega
  obtain ⟨f0, f1, -⟩ := F1.two
  have fl := F1.lt
  clear B0 B1 B2 B3 hG G
  go_wp2_with (go_at_call 50; (with_reducible refine (HF.out w1).mono ?_); rintro e w2 ⟨rfl, hg2⟩)
  have HS3 := Lib.hid (HS.out g w2.drew (RX.out.gr ((hW.trans hg2).drew)) (RY.out.gr ((hW.trans hg2).drew)) (HD.out.gr ((hW.trans hg2).drew)) (hBm.gr (hg2.drew)))
  have hx2 : Gx g w w2 := Gx.of (hW.trans hg2)
  have R2 := R1.gr (hg2.drew)
  obtain ⟨f0', f1', -⟩ := (F1.gr (hg2.drew)).two
  have fl' := (F1.gr (hg2.drew)).lt
  clear f0 f1 fl F1 R1 hBm hg2 HS
  go_region_law (first
    | (go_simp; go_at_call 53; refine (HCh.out _).mono ?_; rintro e w' ⟨rfl, rfl⟩)
    | (go_simp; go_at_call 52; refine HS3.out.mono ?_; rintro e w4 ⟨rfl, hB4, hX4⟩; have R4 := hX4.keeps R2 hrg)
    | (go_simp; go_at_call 51; refine (HMA.out g w4 hB4).mono ?_; rintro e w5 ⟨rfl, hg5⟩; obtain ⟨r0, r1, rf⟩ := (R4.gr hg5).two; have rl := (R4.gr hg5).lt))
  all_goals
    go_wp2
    ((try simp only [Exit.inBlock, Exit.then]); refine bodyPost_ret (v := .tuple #[.agg #[.int .i64 x, .int .i64 y], .int .i64 z]) (by simp [results, Tryd.results23, go_sem, r0, r1, World.cell?_setCell_same']) rfl ?_)
    exact ⟨ret_sgc _ _ _ _ HR.out, Gr.of_below (((((hx2.trans (Gx.of (Gr.drew (Gr.refl _)))).trans hX4).trans (Gx.of hg5)).below hwg (Nat.le_refl _)).setCell (p := ⟨w.heap.size + 1 + 1 + 1, 0, none⟩) (by simp; omega) _ |>.setCell (p := ⟨w.heap.size + 1 + 1 + 1, 1, none⟩) (by simp; omega) _)⟩
end Go.Proofs.YtddcdodbmbmdnaaDoor
