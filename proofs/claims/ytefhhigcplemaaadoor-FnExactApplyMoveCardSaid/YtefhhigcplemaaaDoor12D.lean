/- Plain mathematics, merged. -/
import Derived.Test.YtefhhigcplemaaaDoor12A
import Derived.Test.YtefhhigcplemaaaDoorC11g
import Derived.StillTactics
import Derived.StillTailTactics
import Derived.Test.YtefhhigcplemaaaDoorLm
import Derived.Test.YtefhhigcplemaaaDoor12B
import Derived.Test.YtefhhigcplemaaaDoor1A
/- Contracts of chapter 12: what the kinds of moves do to a machine, in the program. (Written by laws/gen_C12h.py.) -/
namespace Go.Proofs.YtefhhigcplemaaaDoor
open Go.RowKit
set_option linter.unusedVariables false
set_option linter.unusedSimpArgs false

theorem mvO_of {xs ys : List Int} {m : Mv} {a c x y : Int} (e : mvN m a c = (x, y)) : mvO xs ys m a c = (mvH xs ys m && sgB x y) := by unfold mvO; rw [e]
/-- What a kind of move leaves. -/
def DoW (xs ys : List Int) (g : Nat) (L : Int) (A B : Option Addr) (n c m d : Nat) (mv : Mv) (a q : Int) (w : World) (e : Ending) (w' : World) : Prop :=
  if mvO xs ys mv a q = true then Moved g (mcs L A B n c m d (mvN mv a q).1 (mvN mv a q).2) 0 w e w' else ∃ z : Int, (z == 0) = false ∧ e = .returned (.int .i64 z) ∧ Gx g w w'
theorem DoW.moved {xs ys : List Int} {g : Nat} {L : Int} {A B : Option Addr} {n c m d : Nat} {mv : Mv} {a q x y : Int} {w w' : World} (h : mvH xs ys mv = true) (e : mvN mv a q = (x, y)) (hB : Blk w' g 104 (mcs L A B n c m d x y)) (hX : Gx g w w') :
    DoW xs ys g L A B n c m d mv a q w (.returned (.int .i64 (if sgB x y = true then 0 else 5))) w' := by
  unfold DoW
  rw [mvO_of e, h, Bool.true_and, e]
  rcases sgB_tf x y with hs | hs
  · rw [if_pos hs, if_pos hs]; exact ⟨rfl, hB, hX⟩
  · rw [if_neg (by rw [hs]; simp), if_neg (by rw [hs]; simp)]; exact ⟨5, rfl, rfl, hX⟩
theorem DoW.not {xs ys : List Int} {g : Nat} {L : Int} {A B : Option Addr} {n c m d : Nat} {mv : Mv} {a q : Int} {w w' : World} (h : mvH xs ys mv = false) (hX : Gx g w w') : DoW xs ys g L A B n c m d mv a q w (.returned (.int .i64 2)) w' := by
  unfold DoW mvO
  rw [h, Bool.false_and, if_neg (by simp)]
  exact ⟨2, rfl, rfl, hX⟩
theorem put12_any (g : Nat) (L : Int) (A B : Option Addr) (n c m d : Nat) (a q x y : Int) (w : World) (h : Blk w g 104 (mcs L A B n c m d a q)) :
    Calls Tryd.prog 82 #[.pointer (some ⟨g, 0, none⟩), .int .i64 x, .int .i64 y] w fun e w' => e = .returned (.int .i64 (if sgB x y = true then 0 else 5)) ∧ Blk w' g 104 (mcs L A B n c m d x y) ∧ Gx g w w' := by
  obtain ⟨c0, c1, c2, c3, c4, cf⟩ := h.five
  have gl := h.lt
  have hS := (h.set 3 (.int .i64 x)).set 4 (.int .i64 y)
  have hX := ((Gx.of (g := g) (Gr.refl w)).set 3 (.int .i64 x)).set 4 (.int .i64 y)
  have HC := Lib.hid (mcode_any g L A B n c m d x y _ hS)
  generalize hk : (if sgB x y = true then (0 : Int) else 5) = kk at *
  clear h hk
  go_enter Tryd.func82, Tryd.ntmps82
  go_wp2_with fail
  refine HC.out.mono ?_
  rintro e w2 ⟨rfl, hg⟩
  go_wp2_with fail
  go_ret
  exact ⟨rfl, hS.gr hg, hX.trans (Gx.of hg)⟩

set_option maxRecDepth 100000 in
set_option maxHeartbeats 4000000 in
theorem do_0 (g : Nat) (a q s u t : Int) (L : Int) (A B : Option Addr) (n c m d : Nat) (xs ys : List Int) (w : World) (hD : Dcs w) (hx : xs.length = n) (hy : ys.length = m) (hn : n ≤ 16777216) (hm : m ≤ 16777216) (hX : Reads w w.heap.size A (xs.map vi)) (hY : Reads w w.heap.size B (ys.map vi)) (h : Blk w g 104 (mcs L A B n c m d a q)) (hq : sgB a q = true) (hv : lsc s = true ∧ fg u t = true) :
    Calls Tryd.prog 74 #[.pointer (some ⟨g, 0, none⟩), .agg #[.int .i64 (0), .int .i64 (s), .int .i64 (u), .int .i64 (t)]] w (DoW xs ys g L A B n c m d (0, s, u, t) a q w) := by
  have hq2 := (sgB_iff a q).1 hq
  obtain ⟨⟨a1, a2⟩, q1, q2⟩ := hq2
  have hG : Gr w (w.alloc (.cells #[.int .i64 0, .int .i64 s, .int .i64 u, .int .i64 t] 47)) := (by repeat (first | with_reducible exact Gr.refl _ | with_reducible refine Gr.alloc ?_ _ | with_reducible refine Gr.gr ?_ _ _ | with_reducible refine Gr.drew ?_ | with_reducible refine Gr.drewN ?_ _))
  have h1 := h.gr hG
  have HC := setCursor_any false xs n A c g a q s u t L A B n c m d (w.alloc (.cells #[.int .i64 0, .int .i64 s, .int .i64 u, .int .i64 t] 47)) (hD.gr hG) hx hn rfl (hX.gr hG) h1 hv.2 ⟨a1, a2⟩ (fun _ => hv.1)
  rw [pmet_f, stP_f, Int.zero_add] at HC
  rcases hasI_tf xs s with hs | hs
  · simp only [hs, if_true] at HC
    have hH : mvH xs ys (0, s, u, t) = true := by rw [mvH_0]; exact hs
    have hN := mvN_0 s u t a q
    have HD := Lib.hid (fun w' hB hX' => DoW.moved (w := w) (w' := w') (L := L) (A := A) (B := B) (n := n) (c := c) (m := m) (d := d) (g := g) hH hN hB hX')
    have HC := Lib.hid HC
    generalize hkk : (if sgB a (pnt s u t) = true then (0 : Int) else 5) = kk at *
    clear hkk hs hH hN h h1 hx hy hX hY hD hq hv
    go_enter Tryd.func74, Tryd.ntmps74
    go_wp2_with fail
    refine HC.out.mono ?_
    rintro e w2 ⟨rfl, hB2, hX2⟩
    go_wp2_with fail
    go_ret
    exact HD.out w2 hB2 ((Gx.of hG).trans hX2)
  · simp only [hs, Bool.false_eq_true, if_false] at HC
    have hH : mvH xs ys (0, s, u, t) = false := by rw [mvH_0]; exact hs
    have hN := mvN_0 s u t a q
    have HD := Lib.hid (fun w' hX' => DoW.not (w := w) (w' := w') (L := L) (A := A) (B := B) (n := n) (c := c) (m := m) (d := d) (g := g) (a := a) (q := q) hH hX')
    have HC := Lib.hid HC
    clear hs hH hN h h1 hx hy hX hY hD hq hv
    go_enter Tryd.func74, Tryd.ntmps74
    go_wp2_with fail
    refine HC.out.mono ?_
    rintro e w2 ⟨rfl, hg2⟩
    go_wp2_with fail
    go_ret
    exact HD.out w2 (Gx.of (hG.trans hg2))
set_option maxRecDepth 100000 in
set_option maxHeartbeats 4000000 in
theorem do_1 (g : Nat) (a q s u t : Int) (L : Int) (A B : Option Addr) (n c m d : Nat) (xs ys : List Int) (w : World) (hD : Dcs w) (hx : xs.length = n) (hy : ys.length = m) (hn : n ≤ 16777216) (hm : m ≤ 16777216) (hX : Reads w w.heap.size A (xs.map vi)) (hY : Reads w w.heap.size B (ys.map vi)) (h : Blk w g 104 (mcs L A B n c m d a q)) (hq : sgB a q = true) (hv : lsc s = true ∧ fg u t = true) :
    Calls Tryd.prog 77 #[.pointer (some ⟨g, 0, none⟩), .agg #[.int .i64 (1), .int .i64 (s), .int .i64 (u), .int .i64 (t)]] w (DoW xs ys g L A B n c m d (1, s, u, t) a q w) := by
  have hq2 := (sgB_iff a q).1 hq
  obtain ⟨⟨a1, a2⟩, q1, q2⟩ := hq2
  have hG : Gr w (w.alloc (.cells #[.int .i64 1, .int .i64 s, .int .i64 u, .int .i64 t] 47)) := (by repeat (first | with_reducible exact Gr.refl _ | with_reducible refine Gr.alloc ?_ _ | with_reducible refine Gr.gr ?_ _ _ | with_reducible refine Gr.drew ?_ | with_reducible refine Gr.drewN ?_ _))
  have h1 := h.gr hG
  have HC := setCursor_any true ys m B d g a q s u t L A B n c m d (w.alloc (.cells #[.int .i64 1, .int .i64 s, .int .i64 u, .int .i64 t] 47)) (hD.gr hG) hy hm rfl (hY.gr hG) h1 hv.2 ⟨a1, a2⟩ (fun _ => hv.1)
  rw [pmet_t, stP_t] at HC
  rcases hasI_tf ys s with hs | hs
  · simp only [hs, if_true] at HC
    have hH : mvH xs ys (1, s, u, t) = true := by rw [mvH_1]; exact hs
    have hN := mvN_1 s u t a q
    have HD := Lib.hid (fun w' hB hX' => DoW.moved (w := w) (w' := w') (L := L) (A := A) (B := B) (n := n) (c := c) (m := m) (d := d) (g := g) hH hN hB hX')
    have HC := Lib.hid HC
    generalize hkk : (if sgB a (a + pnt s u t) = true then (0 : Int) else 5) = kk at *
    clear hkk hs hH hN h h1 hx hy hX hY hD hq hv
    go_enter Tryd.func77, Tryd.ntmps77
    go_wp2_with fail
    refine HC.out.mono ?_
    rintro e w2 ⟨rfl, hB2, hX2⟩
    go_wp2_with fail
    go_ret
    exact HD.out w2 hB2 ((Gx.of hG).trans hX2)
  · simp only [hs, Bool.false_eq_true, if_false] at HC
    have hH : mvH xs ys (1, s, u, t) = false := by rw [mvH_1]; exact hs
    have hN := mvN_1 s u t a q
    have HD := Lib.hid (fun w' hX' => DoW.not (w := w) (w' := w') (L := L) (A := A) (B := B) (n := n) (c := c) (m := m) (d := d) (g := g) (a := a) (q := q) hH hX')
    have HC := Lib.hid HC
    clear hs hH hN h h1 hx hy hX hY hD hq hv
    go_enter Tryd.func77, Tryd.ntmps77
    go_wp2_with fail
    refine HC.out.mono ?_
    rintro e w2 ⟨rfl, hg2⟩
    go_wp2_with fail
    go_ret
    exact HD.out w2 (Gx.of (hG.trans hg2))
set_option maxRecDepth 100000 in
set_option maxHeartbeats 4000000 in
theorem do_2 (g : Nat) (a q s u t : Int) (L : Int) (A B : Option Addr) (n c m d : Nat) (xs ys : List Int) (w : World) (hD : Dcs w) (hx : xs.length = n) (hy : ys.length = m) (hn : n ≤ 16777216) (hm : m ≤ 16777216) (hX : Reads w w.heap.size A (xs.map vi)) (hY : Reads w w.heap.size B (ys.map vi)) (h : Blk w g 104 (mcs L A B n c m d a q)) (hq : sgB a q = true) (hv : lsc s = true ∧ fg u t = true) :
    Calls Tryd.prog 79 #[.pointer (some ⟨g, 0, none⟩), .agg #[.int .i64 (2), .int .i64 (s), .int .i64 (u), .int .i64 (t)]] w (DoW xs ys g L A B n c m d (2, s, u, t) a q w) := by
  have hq2 := (sgB_iff a q).1 hq
  obtain ⟨⟨a1, a2⟩, q1, q2⟩ := hq2
  have hG : Gr w (w.alloc (.cells #[.int .i64 2, .int .i64 s, .int .i64 u, .int .i64 t] 47)) := (by repeat (first | with_reducible exact Gr.refl _ | with_reducible refine Gr.alloc ?_ _ | with_reducible refine Gr.gr ?_ _ _ | with_reducible refine Gr.drew ?_ | with_reducible refine Gr.drewN ?_ _))
  have h1 := h.gr hG
  have HC := setSlide_any g a q s u t L A B n c m d xs ys (w.alloc (.cells #[.int .i64 2, .int .i64 s, .int .i64 u, .int .i64 t] 47)) (hD.gr hG) hy hm (hY.gr hG) h1 hv.2 ⟨q1, q2⟩ (fun _ => hv.1)
  rcases hasI_tf ys s with hs | hs
  · simp only [hs, if_true] at HC
    have hH : mvH xs ys (2, s, u, t) = true := by rw [mvH_2]; exact hs
    have hN := mvN_2 s u t a q
    have HD := Lib.hid (fun w' hB hX' => DoW.moved (w := w) (w' := w') (L := L) (A := A) (B := B) (n := n) (c := c) (m := m) (d := d) (g := g) hH hN hB hX')
    have HC := Lib.hid HC
    generalize hkk : (if sgB (q - pnt s u t) q = true then (0 : Int) else 5) = kk at *
    clear hkk hs hH hN h h1 hx hy hX hY hD hq hv
    go_enter Tryd.func79, Tryd.ntmps79
    go_wp2_with fail
    refine HC.out.mono ?_
    rintro e w2 ⟨rfl, hB2, hX2⟩
    go_wp2_with fail
    go_ret
    exact HD.out w2 hB2 ((Gx.of hG).trans hX2)
  · simp only [hs, Bool.false_eq_true, if_false] at HC
    have hH : mvH xs ys (2, s, u, t) = false := by rw [mvH_2]; exact hs
    have hN := mvN_2 s u t a q
    have HD := Lib.hid (fun w' hX' => DoW.not (w := w) (w' := w') (L := L) (A := A) (B := B) (n := n) (c := c) (m := m) (d := d) (g := g) (a := a) (q := q) hH hX')
    have HC := Lib.hid HC
    clear hs hH hN h h1 hx hy hX hY hD hq hv
    go_enter Tryd.func79, Tryd.ntmps79
    go_wp2_with fail
    refine HC.out.mono ?_
    rintro e w2 ⟨rfl, hg2⟩
    go_wp2_with fail
    go_ret
    exact HD.out w2 (Gx.of (hG.trans hg2))
set_option maxRecDepth 100000 in
set_option maxHeartbeats 4000000 in
theorem do_3 (g : Nat) (a q s u t : Int) (L : Int) (A B : Option Addr) (n c m d : Nat) (xs ys : List Int) (w : World) (hD : Dcs w) (hx : xs.length = n) (hy : ys.length = m) (hn : n ≤ 16777216) (hm : m ≤ 16777216) (hX : Reads w w.heap.size A (xs.map vi)) (hY : Reads w w.heap.size B (ys.map vi)) (h : Blk w g 104 (mcs L A B n c m d a q)) (hq : sgB a q = true) :
    Calls Tryd.prog 81 #[.pointer (some ⟨g, 0, none⟩), .agg #[.int .i64 (3), .int .i64 (s), .int .i64 (u), .int .i64 (t)]] w (DoW xs ys g L A B n c m d (3, s, u, t) a q w) := by
  have hq2 := (sgB_iff a q).1 hq
  obtain ⟨⟨a1, a2⟩, q1, q2⟩ := hq2
  have hG : Gr w (w.alloc (.cells #[.int .i64 3, .int .i64 s, .int .i64 u, .int .i64 t] 47)) := (by repeat (first | with_reducible exact Gr.refl _ | with_reducible refine Gr.alloc ?_ _ | with_reducible refine Gr.gr ?_ _ _ | with_reducible refine Gr.drew ?_ | with_reducible refine Gr.drewN ?_ _))
  have h1 := h.gr hG
  have hH := mvH_p xs ys 3 s u t (by omega)
  have hN := mvN_3 s u t a q
  have HD := Lib.hid (fun w' hB hX' => DoW.moved (w := w) (w' := w') (L := L) (A := A) (B := B) (n := n) (c := c) (m := m) (d := d) (g := g) hH hN hB hX')
  have HC := Lib.hid (fun W hW => put12_any g L A B n c m d a q q q W hW)
  generalize hkk : (if sgB q q = true then (0 : Int) else 5) = kk at *
  clear hkk hH hN h hx hy hX hY hD hq
  go_enter Tryd.func81, Tryd.ntmps81
  go_wp2_with fail
  generalize (w.alloc (.cells #[.int .i64 3, .int .i64 s, .int .i64 u, .int .i64 t] 47)) = v at *
  obtain ⟨c0, c1, c2, c3, c4, cf⟩ := h1.five
  have gl := h1.lt
  go_still_tail 11, (by kernel_rfl)
  change wpList _ _ _ _ _ v.drew
  have hG2 := hG.trans ((Gr.refl v).drew)
  have h2 := h1.gr ((Gr.refl v).drew)
  clear h1 c0 c1 c2 c3 c4 cf gl hG
  generalize v.drew = v2 at *
  go_wp2_with fail
  refine (HC.out _ h2).mono ?_
  rintro e w2 ⟨rfl, hB2, hX2⟩
  go_wp2_with fail
  go_ret
  exact HD.out w2 hB2 ((Gx.of hG2).trans hX2)
set_option maxRecDepth 100000 in
set_option maxHeartbeats 4000000 in
theorem do_4 (g : Nat) (a q s u t : Int) (L : Int) (A B : Option Addr) (n c m d : Nat) (xs ys : List Int) (w : World) (hD : Dcs w) (hx : xs.length = n) (hy : ys.length = m) (hn : n ≤ 16777216) (hm : m ≤ 16777216) (hX : Reads w w.heap.size A (xs.map vi)) (hY : Reads w w.heap.size B (ys.map vi)) (h : Blk w g 104 (mcs L A B n c m d a q)) (hq : sgB a q = true) :
    Calls Tryd.prog 83 #[.pointer (some ⟨g, 0, none⟩), .agg #[.int .i64 (4), .int .i64 (s), .int .i64 (u), .int .i64 (t)]] w (DoW xs ys g L A B n c m d (4, s, u, t) a q w) := by
  have hq2 := (sgB_iff a q).1 hq
  obtain ⟨⟨a1, a2⟩, q1, q2⟩ := hq2
  have hG : Gr w (w.alloc (.cells #[.int .i64 4, .int .i64 s, .int .i64 u, .int .i64 t] 47)) := (by repeat (first | with_reducible exact Gr.refl _ | with_reducible refine Gr.alloc ?_ _ | with_reducible refine Gr.gr ?_ _ _ | with_reducible refine Gr.drew ?_ | with_reducible refine Gr.drewN ?_ _))
  have h1 := h.gr hG
  have hH := mvH_p xs ys 4 s u t (by omega)
  have hN := mvN_4 s u t a q
  have HD := Lib.hid (fun w' hB hX' => DoW.moved (w := w) (w' := w') (L := L) (A := A) (B := B) (n := n) (c := c) (m := m) (d := d) (g := g) hH hN hB hX')
  have HC := Lib.hid (fun W hW => put12_any g L A B n c m d a q (q - 1048576) q W hW)
  generalize hkk : (if sgB (q - 1048576) q = true then (0 : Int) else 5) = kk at *
  clear hkk hH hN h hx hy hX hY hD hq
  go_enter Tryd.func83, Tryd.ntmps83
  go_wp2_with fail
  generalize (w.alloc (.cells #[.int .i64 4, .int .i64 s, .int .i64 u, .int .i64 t] 47)) = v at *
  obtain ⟨c0, c1, c2, c3, c4, cf⟩ := h1.five
  have gl := h1.lt
  go_still_tail 12, (by kernel_rfl)
  change wpList _ _ _ _ _ v.drew
  have hG2 := hG.trans ((Gr.refl v).drew)
  have h2 := h1.gr ((Gr.refl v).drew)
  clear h1 c0 c1 c2 c3 c4 cf gl hG
  generalize v.drew = v2 at *
  go_wp2_with fail
  refine (HC.out _ h2).mono ?_
  rintro e w2 ⟨rfl, hB2, hX2⟩
  go_wp2_with fail
  go_ret
  exact HD.out w2 hB2 ((Gx.of hG2).trans hX2)
set_option maxRecDepth 100000 in
set_option maxHeartbeats 4000000 in
theorem do_5 (g : Nat) (a q s u t : Int) (L : Int) (A B : Option Addr) (n c m d : Nat) (xs ys : List Int) (w : World) (hD : Dcs w) (hx : xs.length = n) (hy : ys.length = m) (hn : n ≤ 16777216) (hm : m ≤ 16777216) (hX : Reads w w.heap.size A (xs.map vi)) (hY : Reads w w.heap.size B (ys.map vi)) (h : Blk w g 104 (mcs L A B n c m d a q)) (hq : sgB a q = true) :
    Calls Tryd.prog 84 #[.pointer (some ⟨g, 0, none⟩), .agg #[.int .i64 (5), .int .i64 (s), .int .i64 (u), .int .i64 (t)]] w (DoW xs ys g L A B n c m d (5, s, u, t) a q w) := by
  have hq2 := (sgB_iff a q).1 hq
  obtain ⟨⟨a1, a2⟩, q1, q2⟩ := hq2
  have hG : Gr w (w.alloc (.cells #[.int .i64 5, .int .i64 s, .int .i64 u, .int .i64 t] 47)) := (by repeat (first | with_reducible exact Gr.refl _ | with_reducible refine Gr.alloc ?_ _ | with_reducible refine Gr.gr ?_ _ _ | with_reducible refine Gr.drew ?_ | with_reducible refine Gr.drewN ?_ _))
  have h1 := h.gr hG
  have hH := mvH_p xs ys 5 s u t (by omega)
  have hN := mvN_5 s u t a q
  have HD := Lib.hid (fun w' hB hX' => DoW.moved (w := w) (w' := w') (L := L) (A := A) (B := B) (n := n) (c := c) (m := m) (d := d) (g := g) hH hN hB hX')
  have HC := Lib.hid (fun W hW => put12_any g L A B n c m d a q a a W hW)
  generalize hkk : (if sgB a a = true then (0 : Int) else 5) = kk at *
  clear hkk hH hN h hx hy hX hY hD hq
  go_enter Tryd.func84, Tryd.ntmps84
  go_wp2_with fail
  generalize (w.alloc (.cells #[.int .i64 5, .int .i64 s, .int .i64 u, .int .i64 t] 47)) = v at *
  obtain ⟨c0, c1, c2, c3, c4, cf⟩ := h1.five
  have gl := h1.lt
  go_still_tail 11, (by kernel_rfl)
  change wpList _ _ _ _ _ v.drew
  have hG2 := hG.trans ((Gr.refl v).drew)
  have h2 := h1.gr ((Gr.refl v).drew)
  clear h1 c0 c1 c2 c3 c4 cf gl hG
  generalize v.drew = v2 at *
  go_wp2_with fail
  refine (HC.out _ h2).mono ?_
  rintro e w2 ⟨rfl, hB2, hX2⟩
  go_wp2_with fail
  go_ret
  exact HD.out w2 hB2 ((Gx.of hG2).trans hX2)
set_option maxRecDepth 100000 in
set_option maxHeartbeats 4000000 in
theorem do_6 (g : Nat) (a q s u t : Int) (L : Int) (A B : Option Addr) (n c m d : Nat) (xs ys : List Int) (w : World) (hD : Dcs w) (hx : xs.length = n) (hy : ys.length = m) (hn : n ≤ 16777216) (hm : m ≤ 16777216) (hX : Reads w w.heap.size A (xs.map vi)) (hY : Reads w w.heap.size B (ys.map vi)) (h : Blk w g 104 (mcs L A B n c m d a q)) (hq : sgB a q = true) :
    Calls Tryd.prog 85 #[.pointer (some ⟨g, 0, none⟩), .agg #[.int .i64 (6), .int .i64 (s), .int .i64 (u), .int .i64 (t)]] w (DoW xs ys g L A B n c m d (6, s, u, t) a q w) := by
  have hq2 := (sgB_iff a q).1 hq
  obtain ⟨⟨a1, a2⟩, q1, q2⟩ := hq2
  have hG : Gr w (w.alloc (.cells #[.int .i64 6, .int .i64 s, .int .i64 u, .int .i64 t] 47)) := (by repeat (first | with_reducible exact Gr.refl _ | with_reducible refine Gr.alloc ?_ _ | with_reducible refine Gr.gr ?_ _ _ | with_reducible refine Gr.drew ?_ | with_reducible refine Gr.drewN ?_ _))
  have h1 := h.gr hG
  have hH := mvH_p xs ys 6 s u t (by omega)
  have hN := mvN_6 s u t a q
  have HD := Lib.hid (fun w' hB hX' => DoW.moved (w := w) (w' := w') (L := L) (A := A) (B := B) (n := n) (c := c) (m := m) (d := d) (g := g) hH hN hB hX')
  have HC := Lib.hid (fun W hW => put12_any g L A B n c m d a q a (a + 1048576) W hW)
  generalize hkk : (if sgB a (a + 1048576) = true then (0 : Int) else 5) = kk at *
  clear hkk hH hN h hx hy hX hY hD hq
  go_enter Tryd.func85, Tryd.ntmps85
  go_wp2_with fail
  generalize (w.alloc (.cells #[.int .i64 6, .int .i64 s, .int .i64 u, .int .i64 t] 47)) = v at *
  obtain ⟨c0, c1, c2, c3, c4, cf⟩ := h1.five
  have gl := h1.lt
  go_still_tail 12, (by kernel_rfl)
  change wpList _ _ _ _ _ v.drew
  have hG2 := hG.trans ((Gr.refl v).drew)
  have h2 := h1.gr ((Gr.refl v).drew)
  clear h1 c0 c1 c2 c3 c4 cf gl hG
  generalize v.drew = v2 at *
  go_wp2_with fail
  refine (HC.out _ h2).mono ?_
  rintro e w2 ⟨rfl, hB2, hX2⟩
  go_wp2_with fail
  go_ret
  exact HD.out w2 hB2 ((Gx.of hG2).trans hX2)
/-- The function of a kind. -/
def kfn (k : Int) : FuncId := if k = 0 then 74 else if k = 1 then 77 else if k = 2 then 79 else if k = 3 then 81 else if k = 4 then 83 else if k = 5 then 84 else 85
theorem kinds_fn {w : World} {g : Nat} (h : Blk w g 82 mkA) (k : Int) (h0 : 0 ≤ k) (h6 : k ≤ 6) : w.cell? ⟨g, k.toNat * 3 + 2, none⟩ = some (.func (.func (kfn k)) #[] #[]) := by
  rw [cell_of_row w g _ _ _ _ h]
  rcases (show k = 0 ∨ k = 1 ∨ k = 2 ∨ k = 3 ∨ k = 4 ∨ k = 5 ∨ k = 6 by omega) with rfl | rfl | rfl | rfl | rfl | rfl | rfl <;> rfl
set_option maxRecDepth 100000 in
theorem kfn_call (k : Int) (h0 : 0 ≤ k) (h6 : k ≤ 6) : ∀ args w, (callFunc (kfn k) args).run Tryd.prog w = .ok (.enter (kfn k) args) w := by
  rcases (show k = 0 ∨ k = 1 ∨ k = 2 ∨ k = 3 ∨ k = 4 ∨ k = 5 ∨ k = 6 by omega) with rfl | rfl | rfl | rfl | rfl | rfl | rfl
  · rw [show kfn 0 = 74 from rfl]; exact fun _ _ => by kernel_rfl
  · rw [show kfn 1 = 77 from rfl]; exact fun _ _ => by kernel_rfl
  · rw [show kfn 2 = 79 from rfl]; exact fun _ _ => by kernel_rfl
  · rw [show kfn 3 = 81 from rfl]; exact fun _ _ => by kernel_rfl
  · rw [show kfn 4 = 83 from rfl]; exact fun _ _ => by kernel_rfl
  · rw [show kfn 5 = 84 from rfl]; exact fun _ _ => by kernel_rfl
  · rw [show kfn 6 = 85 from rfl]; exact fun _ _ => by kernel_rfl
theorem do_any (g : Nat) (a q k s u t : Int) (L : Int) (A B : Option Addr) (n c m d : Nat) (xs ys : List Int) (w : World) (hD : Dcs w) (hx : xs.length = n) (hy : ys.length = m) (hn : n ≤ 16777216) (hm : m ≤ 16777216) (hX : Reads w w.heap.size A (xs.map vi)) (hY : Reads w w.heap.size B (ys.map vi)) (h : Blk w g 104 (mcs L A B n c m d a q)) (hq : sgB a q = true) (hv : mvB (k, s, u, t) = true) :
    Calls Tryd.prog (kfn k) #[.pointer (some ⟨g, 0, none⟩), .agg #[.int .i64 (k), .int .i64 (s), .int .i64 (u), .int .i64 (t)]] w (DoW xs ys g L A B n c m d (k, s, u, t) a q w) := by
  rcases mvB_cases hv with ⟨hk, h1, h2⟩ | ⟨hk, -, -, -⟩
  · rcases hk with rfl | rfl | rfl
    · exact do_0 g a q s u t L A B n c m d xs ys w hD hx hy hn hm hX hY h hq ⟨h1, h2⟩
    · exact do_1 g a q s u t L A B n c m d xs ys w hD hx hy hn hm hX hY h hq ⟨h1, h2⟩
    · exact do_2 g a q s u t L A B n c m d xs ys w hD hx hy hn hm hX hY h hq ⟨h1, h2⟩
  · rcases hk with rfl | rfl | rfl | rfl
    · exact do_3 g a q s u t L A B n c m d xs ys w hD hx hy hn hm hX hY h hq
    · exact do_4 g a q s u t L A B n c m d xs ys w hD hx hy hn hm hX hY h hq
    · exact do_5 g a q s u t L A B n c m d xs ys w hD hx hy hn hm hX hY h hq
    · exact do_6 g a q s u t L A B n c m d xs ys w hD hx hy hn hm hX hY h hq
end Go.Proofs.YtefhhigcplemaaaDoor

/- Contracts of chapter 12: a journey goes on; a region that makes the table of kinds and a journey. -/
namespace Go.Proofs.YtefhhigcplemaaaDoor
open Go.RowKit
set_option linter.unusedVariables false
set_option linter.unusedSimpArgs false

theorem dist_gr (a b : Int) (w : World) (a1 : -4000000000 ≤ a) (a2 : a ≤ 4000000000) (b1 : -4000000000 ≤ b) (b2 : b ≤ 4000000000) :
    Calls Tryd.prog 109 #[.int .i64 a, .int .i64 b] w fun e w' => e = .returned (.int .i64 (dsM a b)) ∧ Gr w w' :=
  (distance_any a b w (by omega) (by omega) (by omega) (by omega)).mono fun e w' ⟨h1, h2⟩ => ⟨by rw [h1, dsM_abs], h2 ▸ Gr.refl _⟩
set_option maxRecDepth 100000 in
set_option maxHeartbeats 4000000 in
theorem on12_any (a c n u v x y : Int) (w : World) (ha : -4000000000 ≤ a ∧ a ≤ 4000000000) (hc : -4000000000 ≤ c ∧ c ≤ 4000000000) (hx : -4000000000 ≤ x ∧ x ≤ 4000000000) (hy : -4000000000 ≤ y ∧ y ≤ 4000000000)
    (hn : 0 ≤ n ∧ n ≤ 1000000) (hu : 0 ≤ u ∧ u ≤ 1000000000000) (hv : 0 ≤ v ∧ v ≤ 1000000000000) :
    Calls Tryd.prog 69 #[.agg #[.int .i64 a, .int .i64 c, .int .i64 n, .int .i64 u, .int .i64 v], .agg #[.int .i64 (x), .int .i64 (y)]] w fun e w' => e = .returned (.agg #[.int .i64 x, .int .i64 y, .int .i64 (n + 1), .int .i64 (u + dsM x a), .int .i64 (v + dsM y c)]) ∧ Gr w w' := by
  have H1 := Lib.hid (fun W => dist_gr x a W hx.1 hx.2 ha.1 ha.2)
  have H2 := Lib.hid (fun W => dist_gr y c W hy.1 hy.2 hc.1 hc.2)
  have d1 : 0 ≤ dsM x a ∧ dsM x a ≤ 8000000000 := ⟨dsM_nn _ _, by unfold dsM; split <;> omega⟩
  have d2 : 0 ≤ dsM y c ∧ dsM y c ≤ 8000000000 := ⟨dsM_nn _ _, by unfold dsM; split <;> omega⟩
  generalize dsM x a = e1 at *
  generalize dsM y c = e2 at *
  have w1 : IntKind.i64.wrap (n + 1) = n + 1 := IntWalk.i64_in _ (by omega)
  have w2 : IntKind.i64.wrap (u + e1) = u + e1 := IntWalk.i64_in _ (by omega)
  have w3 : IntKind.i64.wrap (v + e2) = v + e2 := IntWalk.i64_in _ (by omega)
  clear ha hc hx hy hn hu hv d1 d2
  obtain ⟨B0, B1, B2, G0⟩ := boxes3 w 73 39 73 #[.int .i64 a, .int .i64 c, .int .i64 n, .int .i64 u, .int .i64 v] #[.int .i64 x, .int .i64 y] #[.int .i64 0, .int .i64 0, .int .i64 0, .int .i64 0, .int .i64 0]
  go_enter Tryd.func69, Tryd.ntmps69
  go_wp2_with fail
  generalize ((w.alloc (.cells #[.int .i64 a, .int .i64 c, .int .i64 n, .int .i64 u, .int .i64 v] 73)).alloc (.cells #[.int .i64 x, .int .i64 y] 39)).alloc (.cells #[.int .i64 0, .int .i64 0, .int .i64 0, .int .i64 0, .int .i64 0] 73) = vw at *
  have HX := Lib.hid (fun wz (hz : CW (w.heap.size + 1 + 1) (fun wz => ∃ p q r s t, Blk wz (w.heap.size + 1 + 1) 73 #[p, q, r, s, t]) vw wz) => And.intro (hz.gx.keeps B0 (by omega)).five (hz.gx.keeps B1 (by omega)).two)
  have hp : ∀ a' b', Gr a' b' → (∃ p q r s t, Blk a' (w.heap.size + 1 + 1) 73 #[p, q, r, s, t]) → (∃ p q r s t, Blk b' (w.heap.size + 1 + 1) 73 #[p, q, r, s, t]) := fun a' b' hg ⟨p, q, r, s, t, h⟩ => ⟨p, q, r, s, t, h.gr hg⟩
  refine region_writes 23 (w.heap.size + 1 + 1) 73 #[.int .i64 x, .int .i64 y, .int .i64 (n + 1), .int .i64 (u + e1), .int .i64 (v + e2)] [(11, .int .i64 e1), (20, .int .i64 e2)] (fun wz => ∃ p q r s t, Blk wz (w.heap.size + 1 + 1) 73 #[p, q, r, s, t]) ⟨_, _, _, _, _, B2⟩ (by kernel_rfl) (by kernel_rfl) ?_
  (refine lz_one rfl (fun K hK => ?_); refine ⟨rfl, ?_⟩; apply Exists.intro; refine ⟨fun wz hz => ?_, ?_⟩; (focus (obtain ⟨⟨c0, c1, c2, c3, c4, -⟩, ⟨s0, s1, -⟩⟩ := HX.out wz hz; go_simp; (first | done | exact ⟨rfl, rfl⟩ | trivial))); (go_simp; refine hK _ _ ?_; clear hK K))
  (refine lz_one rfl (fun K hK => ?_); refine ⟨rfl, ?_⟩; apply Exists.intro; refine ⟨fun wz hz => ?_, ?_⟩; (focus (skip; go_simp; (first | done | exact ⟨rfl, rfl⟩ | trivial))); (go_simp; refine hK _ _ ?_; clear hK K))
  (refine lz_one rfl (fun K hK => ?_); refine ⟨rfl, ?_⟩; apply Exists.intro; refine ⟨fun wz hz => ?_, ?_⟩; (focus (obtain ⟨⟨c0, c1, c2, c3, c4, -⟩, ⟨s0, s1, -⟩⟩ := HX.out wz hz; go_simp; (first | done | exact ⟨rfl, rfl⟩ | trivial))); (go_simp; refine hK _ _ ?_; clear hK K))
  (refine lz_one rfl (fun K hK => ?_); refine ⟨rfl, ?_⟩; apply Exists.intro; refine ⟨fun wz hz => ?_, ?_⟩; (focus (skip; go_simp; (first | done | exact ⟨rfl, rfl⟩ | trivial))); (go_simp; refine hK _ _ ?_; clear hK K))
  (refine lz_one rfl (fun K hK => ?_); refine ⟨rfl, ?_⟩; apply Exists.intro; refine ⟨fun wz hz => ?_, ?_⟩; (focus (skip; go_simp; (first | done | exact ⟨rfl, rfl⟩ | trivial))); (go_simp; refine hK _ _ ?_; clear hK K))
  (refine lz_one rfl (fun K hK => ?_); refine ⟨rfl, ?_⟩; apply Exists.intro; refine ⟨fun wz hz => ?_, ?_⟩; (focus (obtain ⟨⟨c0, c1, c2, c3, c4, -⟩, ⟨s0, s1, -⟩⟩ := HX.out wz hz; go_simp; (first | done | exact ⟨rfl, rfl⟩ | trivial))); (go_simp; refine hK _ _ ?_; clear hK K))
  (refine lz_one rfl (fun K hK => ?_); refine ⟨rfl, ?_⟩; apply Exists.intro; refine ⟨fun wz hz => ?_, ?_⟩; (focus (skip; go_simp; (first | done | exact ⟨rfl, rfl⟩ | trivial))); (go_simp; refine hK _ _ ?_; clear hK K))
  (refine lz_one rfl (fun K hK => ?_); refine ⟨rfl, ?_⟩; apply Exists.intro; refine ⟨fun wz hz => ?_, ?_⟩; (focus (obtain ⟨⟨c0, c1, c2, c3, c4, -⟩, ⟨s0, s1, -⟩⟩ := HX.out wz hz; go_simp; (first | done | exact ⟨rfl, rfl⟩ | trivial))); (go_simp; refine hK _ _ ?_; clear hK K))
  (refine lz_one rfl (fun K hK => ?_); refine ⟨rfl, ?_⟩; apply Exists.intro; refine ⟨fun wz hz => ?_, ?_⟩; (focus (skip; go_simp; (first | done | exact ⟨rfl, rfl⟩ | trivial))); (go_simp; refine hK _ _ ?_; clear hK K))
  (refine lz_one rfl (fun K hK => ?_); refine ⟨rfl, ?_⟩; apply Exists.intro; refine ⟨fun wz hz => ?_, ?_⟩; (focus (skip; go_simp; (first | done | exact ⟨rfl, rfl⟩ | trivial))); (go_simp; refine hK _ _ ?_; clear hK K))
  (refine lz_one rfl (fun K hK => ?_); refine ⟨rfl, ?_⟩; apply Exists.intro; refine ⟨fun wz hz => ?_, ?_⟩; (focus (obtain ⟨⟨c0, c1, c2, c3, c4, -⟩, ⟨s0, s1, -⟩⟩ := HX.out wz hz; go_simp; (first | done | exact ⟨rfl, rfl⟩ | trivial))); (go_simp; refine hK _ _ ?_; clear hK K))
  (refine lz_many _ rfl (fun K hK => ?_); refine ⟨rfl, fun wz hz ha => ?_, fun vz wz hz hf => ?_⟩; (focus (go_simp; exact lw_call (by decide) hp hz (H1.out _))); (obtain rfl := hf; clear hz wz; go_simp; refine hK _ _ ?_; clear hK K))
  (refine lz_one rfl (fun K hK => ?_); refine ⟨rfl, ?_⟩; apply Exists.intro; refine ⟨fun wz hz => ?_, ?_⟩; (focus (skip; go_simp; (first | done | exact ⟨rfl, rfl⟩ | trivial))); (go_simp; refine hK _ _ ?_; clear hK K))
  (refine lz_one rfl (fun K hK => ?_); refine ⟨rfl, ?_⟩; apply Exists.intro; refine ⟨fun wz hz => ?_, ?_⟩; (focus (skip; go_simp; (first | done | exact ⟨rfl, rfl⟩ | trivial))); (go_simp; refine hK _ _ ?_; clear hK K))
  (refine lz_one rfl (fun K hK => ?_); refine ⟨rfl, ?_⟩; apply Exists.intro; refine ⟨fun wz hz => ?_, ?_⟩; (focus (obtain ⟨⟨c0, c1, c2, c3, c4, -⟩, ⟨s0, s1, -⟩⟩ := HX.out wz hz; go_simp; (first | done | exact ⟨rfl, rfl⟩ | trivial))); (go_simp; refine hK _ _ ?_; clear hK K))
  (refine lz_one rfl (fun K hK => ?_); refine ⟨rfl, ?_⟩; apply Exists.intro; refine ⟨fun wz hz => ?_, ?_⟩; (focus (skip; go_simp; (first | done | exact ⟨rfl, rfl⟩ | trivial))); (go_simp; refine hK _ _ ?_; clear hK K))
  (refine lz_one rfl (fun K hK => ?_); refine ⟨rfl, ?_⟩; apply Exists.intro; refine ⟨fun wz hz => ?_, ?_⟩; (focus (obtain ⟨⟨c0, c1, c2, c3, c4, -⟩, ⟨s0, s1, -⟩⟩ := HX.out wz hz; go_simp; (first | done | exact ⟨rfl, rfl⟩ | trivial))); (go_simp; refine hK _ _ ?_; clear hK K))
  (refine lz_one rfl (fun K hK => ?_); refine ⟨rfl, ?_⟩; apply Exists.intro; refine ⟨fun wz hz => ?_, ?_⟩; (focus (skip; go_simp; (first | done | exact ⟨rfl, rfl⟩ | trivial))); (go_simp; refine hK _ _ ?_; clear hK K))
  (refine lz_one rfl (fun K hK => ?_); refine ⟨rfl, ?_⟩; apply Exists.intro; refine ⟨fun wz hz => ?_, ?_⟩; (focus (skip; go_simp; (first | done | exact ⟨rfl, rfl⟩ | trivial))); (go_simp; refine hK _ _ ?_; clear hK K))
  (refine lz_one rfl (fun K hK => ?_); refine ⟨rfl, ?_⟩; apply Exists.intro; refine ⟨fun wz hz => ?_, ?_⟩; (focus (obtain ⟨⟨c0, c1, c2, c3, c4, -⟩, ⟨s0, s1, -⟩⟩ := HX.out wz hz; go_simp; (first | done | exact ⟨rfl, rfl⟩ | trivial))); (go_simp; refine hK _ _ ?_; clear hK K))
  (refine lz_many _ rfl (fun K hK => ?_); refine ⟨rfl, fun wz hz ha => ?_, fun vz wz hz hf => ?_⟩; (focus (go_simp; exact lw_call (by decide) hp hz (H2.out _))); (obtain rfl := hf; clear hz wz; go_simp; refine hK _ _ ?_; clear hK K))
  (refine lz_one rfl (fun K hK => ?_); refine ⟨rfl, ?_⟩; apply Exists.intro; refine ⟨fun wz hz => ?_, ?_⟩; (focus (skip; go_simp; (first | done | exact ⟨rfl, rfl⟩ | trivial))); (go_simp; refine hK _ _ ?_; clear hK K))
  (refine lz_one rfl (fun K hK => ?_); refine ⟨rfl, ?_⟩; apply Exists.intro; refine ⟨fun wz hz => ?_, ?_⟩; (focus (skip; go_simp; (first | done | exact ⟨rfl, rfl⟩ | trivial))); (go_simp; refine hK _ _ ?_; clear hK K))
  (refine lz_many _ rfl (fun K hK => ?_); refine ⟨rfl, fun wz hz ha => ?_, fun vz wz hz hf => ?_⟩; (focus (obtain ⟨p, q, r, s, t, hB⟩ := hz.at'; obtain ⟨b0, b1, b2, b3, b4, bf⟩ := hB.five; have bl := hB.lt; go_simp; exact lw_store hz (by simp) ((((((Gx.of (Gr.refl _)).set 0 _).set 1 _).set 2 _).set 3 _).set 4 _) ⟨_, _, _, _, _, ((((hB.set 0 _).set 1 _).set 2 _).set 3 _).set 4 _⟩ (((((hB.set 0 _).set 1 _).set 2 _).set 3 _).set 4 _))); (obtain - := hf; clear hz wz; go_simp; refine hK _ _ ?_; clear hK K))
  refine lz_nil ?_
  intro w5 hz hg
  have R5 : Blk w5 (w.heap.size + 1 + 1) 73 #[.int .i64 x, .int .i64 y, .int .i64 (n + 1), .int .i64 (u + e1), .int .i64 (v + e2)] := hg 23
  have hsz := G0.below.size
  have h5 := G0.below.trans (hz.gx.below (B := w.heap.size) (by omega) hsz)
  obtain ⟨r0, r1, r2, r3, r4, -⟩ := R5.five
  clear hg hz
  go_wp2_with fail
  ((try simp only [Exit.inBlock, Exit.then]); refine bodyPost_ret (v := .agg #[.int .i64 x, .int .i64 y, .int .i64 (n + 1), .int .i64 (u + e1), .int .i64 (v + e2)]) (by simp [results, Tryd.results69, go_sem, r0, r1, r2, r3, r4, World.cell?_setCell_same']) rfl ?_)
  exact ⟨rfl, Gr.of_below h5⟩

/- Two results stored into locals of two types. -/
inductive Mk2 where
  | is (v : Value)
  | made (T : TypeId) (b n : Nat)
def Mk2.tale : Mk2 → Tale
  | .is x => fun _ v _ => v = x
  | .made T b n => fun _ v w => ∃ g, v = .pointer (some ⟨g, 0, none⟩) ∧ b ≤ g ∧ ∃ cs : Array Value, cs.size = n ∧ Blk w g T cs
def rM2 (j1 j2 : Nat) (T U : TypeId) (j : Nat) (a b : World) : Prop := if j = j1 then Ty T a b else if j = j2 then Ty U a b else Gr a b
def ms2Of (j1 j2 : Nat) (T U : TypeId) (cs ds : Array Value) (L : List (Nat × Mk2)) : Nat → Option Tale := fun i =>
  if i = j1 then some (fun vs _ w => ∃ g, vs.getD 0 undef = .pointer (some ⟨g, 0, none⟩) ∧ Blk w g T cs) else if i = j2 then some (fun vs _ w => ∃ g, vs.getD 0 undef = .pointer (some ⟨g, 0, none⟩) ∧ Blk w g U ds) else (L.lookup i).map Mk2.tale
theorem blk_ty {T V : TypeId} {w w' : World} {g : Nat} {cs : Array Value} (h : Ty T w w') (hV : V ≠ T) (hb : Blk w g V cs) : Blk w' g V cs := h.other g V cs hV hb
theorem made_ty {T V : TypeId} {w w' : World} {g n : Nat} (h : Ty T w w') (hb : ∃ cs : Array Value, cs.size = n ∧ Blk w g V cs) : ∃ cs : Array Value, cs.size = n ∧ Blk w' g V cs := by
  obtain ⟨cs, h1, h2⟩ := hb
  by_cases e : V = T
  · subst e
    obtain ⟨es, h5, h6⟩ := h.own g cs h2
    exact ⟨es, h5.trans h1, h6⟩
  · exact ⟨cs, h1, h.other g V cs e h2⟩
theorem steadies_m2 {C : World → Prop} (j1 j2 : Nat) (T U : TypeId) (hTU : T ≠ U) (cs ds : Array Value) (L : List (Nat × Mk2)) : Steadies C (rM2 j1 j2 T U) (ms2Of j1 j2 T U cs ds L) := by
  intro i F hF j hji vs v w w' _ hr hf
  unfold ms2Of at hF
  unfold rM2 at hr
  by_cases hi : i = j1
  · subst hi
    rw [if_pos rfl] at hF
    simp only [Option.some.injEq] at hF
    subst hF
    obtain ⟨g, h1, h2⟩ := hf
    rw [if_neg hji] at hr
    split at hr
    · exact ⟨g, h1, blk_ty hr hTU h2⟩
    · exact ⟨g, h1, h2.gr hr⟩
  rw [if_neg hi] at hF
  by_cases hi2 : i = j2
  · subst hi2
    rw [if_pos rfl] at hF
    simp only [Option.some.injEq] at hF
    subst hF
    obtain ⟨g, h1, h2⟩ := hf
    by_cases hj1 : j = j1
    · rw [if_pos hj1] at hr
      exact ⟨g, h1, blk_ty hr (Ne.symm hTU) h2⟩
    · rw [if_neg hj1, if_neg hji] at hr
      exact ⟨g, h1, h2.gr hr⟩
  rw [if_neg hi2] at hF
  cases hl : L.lookup i with
  | none => rw [hl] at hF; simp at hF
  | some k =>
    rw [hl] at hF
    simp only [Option.map_some, Option.some.injEq] at hF
    subst hF
    cases k with
    | is x => exact hf
    | made V b n =>
      obtain ⟨g, h1, h2, h3⟩ := hf
      by_cases hj1 : j = j1
      · rw [if_pos hj1] at hr
        exact ⟨g, h1, h2, made_ty hr h3⟩
      · rw [if_neg hj1] at hr
        by_cases hj2 : j = j2
        · rw [if_pos hj2] at hr
          exact ⟨g, h1, h2, made_ty hr h3⟩
        · rw [if_neg hj2] at hr
          obtain ⟨es, h4, h5⟩ := h3
          exact ⟨g, h1, h2, es, h4, h5.gr hr⟩
theorem region_mix2 {P : Program} {id : Nat} {Q : Exit → Act → World → Prop} {a : Act} {w : World} {l : List Oper} (j1 j2 : Nat) (T U : TypeId) (hTU : T ≠ U) (cs ds : Array Value) (L : List (Nat × Mk2)) (hm : P.follows .mixedOrders = true) (hlex : Region.lexB .any l.toArray = true)
    (H : wpLoose P l.toArray .any (fun w' => Gr w w') (rM2 j1 j2 T U) (ms2Of j1 j2 T U cs ds L) (fun Γ a' => ∀ w', Gr w w' → (∀ k, Γ k w') → Q .normal a' w') 0 l noneKnown a) : (Code.region id l.toArray true).wp P Q a w :=
  wp_region_loose (ms2Of j1 j2 T U cs ds L) hm hlex (Gr.drew (Gr.refl w)) (steadies_m2 j1 j2 T U hTU cs ds L) H
theorem l2_call {P : Program} {w wz : World} {j1 j2 j : Nat} {T U : TypeId} {f : FuncId} {args : Array Value} {v : Value} (h1 : j ≠ j1) (h2 : j ≠ j2) (hz : Gr w wz) (h : Calls P f args wz fun e w' => e = .returned v ∧ Gr wz w') :
    Calls P f args wz fun e w'' => ∃ u, e = .returned u ∧ Gr w w'' ∧ rM2 j1 j2 T U j wz w'' ∧ u = v :=
  h.mono fun e w' ⟨he, hg⟩ => ⟨_, he, hz.trans hg, by unfold rM2; rw [if_neg h1, if_neg h2]; exact hg, rfl⟩
theorem l2_made {w wz : World} {j1 j2 j b n : Nat} {T U V : TypeId} {cs : Array Value} (h1 : j ≠ j1) (h2 : j ≠ j2) (hz : Gr w wz) (hb : b ≤ w.heap.size) (hn : cs.size = n) :
    Gr w (wz.alloc (.cells cs V)) ∧ rM2 j1 j2 T U j wz (wz.alloc (.cells cs V)) ∧ ∃ g, Value.pointer (some ⟨wz.heap.size, 0, none⟩) = .pointer (some ⟨g, 0, none⟩) ∧ b ≤ g ∧ ∃ ds : Array Value, ds.size = n ∧ Blk (wz.alloc (.cells cs V)) g V ds :=
  ⟨hz.alloc _, by unfold rM2; rw [if_neg h1, if_neg h2]; exact (Gr.refl _).alloc _, _, rfl, Nat.le_trans hb hz.below.size, cs, hn, Blk.new _ _ _⟩
/-- A whole row written anew. -/
theorem setRow_other (w : World) (g k : Nat) (cs : Array Value) (h : k ≠ g) : (w.setRow g cs).heap[k]? = w.heap[k]? := by
  unfold World.setRow
  simp only [Array.getElem?_modify]
  rw [if_neg (fun e => h e.symm)]
theorem setRow_blk {w : World} {g : Nat} {t : TypeId} {cs : Array Value} (h : Blk w g t cs) (ds : Array Value) : Blk (w.setRow g ds) g t ds := by
  unfold Blk at h ⊢
  unfold World.setRow
  simp [Array.getElem?_modify, h]
theorem Ty.setRow {T : TypeId} {w : World} {g : Nat} {cs ds : Array Value} (hB : Blk w g T cs) (hs : ds.size = cs.size) : Ty T w (w.setRow g ds) :=
  ⟨rfl, rfl, rfl, by simp [World.setRow], fun k t es ht hk => (setRow_other w g k ds (fun e => ht (blk_type hk (e ▸ hB)))).trans hk, fun k es hk => by
    by_cases e : k = g
    · subst e
      have : es = cs := by
        unfold Blk at hk hB
        rw [hB] at hk
        injection hk with hk
        injection hk with hk _ _
        exact hk.symm
      exact ⟨ds, by rw [hs, this], setRow_blk hB ds⟩
    · exact ⟨es, rfl, (setRow_other w g k ds e).trans hk⟩⟩
theorem five_of {cs : Array Value} (h : cs.size = 5) : ∃ a b c d e, cs = #[a, b, c, d, e] := by
  obtain ⟨l⟩ := cs
  match l, h with
  | [a, b, c, d, e], _ => exact ⟨a, b, c, d, e, rfl⟩
end Go.Proofs.YtefhhigcplemaaaDoor

/- Contracts of chapter 12: moves one after the other, in the program. -/
namespace Go.Proofs.YtefhhigcplemaaaDoor
open Go.RowKit
set_option linter.unusedVariables false
set_option linter.unusedSimpArgs false

/-- What doMoves answers. -/
def dmR (L : Int) (xs ys : List Int) (a c : Int) (ms : List Mv) : Jy × Int := if mvS L xs ys a c ms ≠ 0 then (⟨0, 0, 0, 0, 0⟩, mvS L xs ys a c ms) else ((jyRun xs ys (jy0 a c) ms).1, if (jyRun xs ys (jy0 a c) ms).2 = true then 0 else 5)
theorem dmR_code {L : Int} {xs ys : List Int} {a c : Int} {ms : List Mv} (h : mvS L xs ys a c ms ≠ 0) : dmR L xs ys a c ms = (⟨0, 0, 0, 0, 0⟩, mvS L xs ys a c ms) := if_pos h
theorem dmR_run {L : Int} {xs ys : List Int} {a c : Int} {ms : List Mv} (h : mvS L xs ys a c ms = 0) {J : Jy} {b : Bool} (e : jyRun xs ys (jy0 a c) ms = (J, b)) : dmR L xs ys a c ms = (J, if b = true then 0 else 5) := by
  unfold dmR; rw [if_neg (by omega), e]
def dmV (R : Jy × Int) : Value := .tuple #[.agg #[.int .i64 R.1.a, .int .i64 R.1.c, .int .i64 R.1.n, .int .i64 R.1.u, .int .i64 R.1.v], .int .i64 R.2]
theorem dmV_mk (J : Jy) (z : Int) : dmV (J, z) = .tuple #[.agg #[.int .i64 J.a, .int .i64 J.c, .int .i64 J.n, .int .i64 J.u, .int .i64 J.v], .int .i64 z] := rfl
theorem run_stB {w : World} {g : Nat} {ds : Array Value} (h : Blk w g 82 ds) (hs : ds.size = 21) : (storeCells ⟨g, 0, none⟩ mkA.toList 0).run Tryd.prog w = .ok () (w.setRow g mkA) := by
  have h2 := run_storeCells_from (P := Tryd.prog) g 82 mkA.toList 0 ds w h (by rw [Array.length_toList, mkA_size, hs]) (fun v hv => by
    have : mkA.all (·.oneCell') = true := by kernel_rfl
    exact (Array.all_eq_true_iff_forall_mem.1 this) v (by simpa using hv))
  rw [h2]
  simp
/-- Five cells of a block of the call's own written. -/
def set5 (w : World) (g : Nat) (a b c d e : Value) : World := ((((w.setCell ⟨g, 0, none⟩ a).setCell ⟨g, 1, none⟩ b).setCell ⟨g, 2, none⟩ c).setCell ⟨g, 3, none⟩ d).setCell ⟨g, 4, none⟩ e
theorem below_set5 {B : Nat} {w w' : World} (h : Below B w w') {g : Nat} (hg : B ≤ g) (a b c d e : Value) : Below B w (((((w'.setCell ⟨g, 0, none⟩ a).setCell ⟨g, 1, none⟩ b).setCell ⟨g, 2, none⟩ c).setCell ⟨g, 3, none⟩ d).setCell ⟨g, 4, none⟩ e) :=
  ((((h.setCell (p := ⟨g, 0, none⟩) hg a).setCell (p := ⟨g, 1, none⟩) hg b).setCell (p := ⟨g, 2, none⟩) hg c).setCell (p := ⟨g, 3, none⟩) hg d).setCell (p := ⟨g, 4, none⟩) hg e
theorem blk_set5 {w : World} {g : Nat} {t : TypeId} {p q r s u : Value} (h : Blk w g t #[p, q, r, s, u]) (a b c d e : Value) : Blk (((((w.setCell ⟨g, 0, none⟩ a).setCell ⟨g, 1, none⟩ b).setCell ⟨g, 2, none⟩ c).setCell ⟨g, 3, none⟩ d).setCell ⟨g, 4, none⟩ e) g t #[a, b, c, d, e] :=
  ((((h.set 0 a).set 1 b).set 2 c).set 3 d).set 4 e
theorem far_set5 {w : World} {g k : Nat} {t : TypeId} {cs : Array Value} (h : Blk w k t cs) (hne : g ≠ k) (a b c d e : Value) : Blk (((((w.setCell ⟨g, 0, none⟩ a).setCell ⟨g, 1, none⟩ b).setCell ⟨g, 2, none⟩ c).setCell ⟨g, 3, none⟩ d).setCell ⟨g, 4, none⟩ e) k t cs :=
  ((((h.far (a := ⟨g, 0, none⟩) hne a).far (a := ⟨g, 1, none⟩) hne b).far (a := ⟨g, 2, none⟩) hne c).far (a := ⟨g, 3, none⟩) hne d).far (a := ⟨g, 4, none⟩) hne e
theorem ty_set5 {T : TypeId} {w : World} {g : Nat} {p q r s u : Value} (h : Blk w g T #[p, q, r, s, u]) (a b c d e : Value) : Ty T w (((((w.setCell ⟨g, 0, none⟩ a).setCell ⟨g, 1, none⟩ b).setCell ⟨g, 2, none⟩ c).setCell ⟨g, 3, none⟩ d).setCell ⟨g, 4, none⟩ e) :=
  (((((Ty.refl T w).set h 0 a).set (h.set 0 a) 1 b).set ((h.set 0 a).set 1 b) 2 c).set (((h.set 0 a).set 1 b).set 2 c) 3 d).set ((((h.set 0 a).set 1 b).set 2 c).set 3 d) 4 e

set_option maxRecDepth 100000 in
set_option maxHeartbeats 8000000 in
theorem doMoves_no (a q : Int) (L : Int) (A B : Option Addr) (n c m d : Nat) (xs ys : List Int) (M : Option Addr) (p cp : Nat) (ms : List Mv) (w : World) (hx : xs.length = n) (hy : ys.length = m) (hn : n ≤ 16777216) (hm : m ≤ 16777216) (hnc : n ≤ c) (hmd : m ≤ d) (hX : Reads w w.heap.size A (xs.map vi)) (hY : Reads w w.heap.size B (ys.map vi)) (hml : ms.length = p) (hp : p ≤ 16777216) (hM : Reads w w.heap.size M (mcells ms)) (h : mvS L xs ys a q ms ≠ 0) :
    Calls Tryd.prog 47 #[.agg #[.int .i64 L, .slice A n c, .slice B m d], .agg #[.int .i64 (a), .int .i64 (q)], .slice M p cp] w fun e w' => e = .returned (dmV (dmR L xs ys a q ms)) ∧ Gr w w' := by
  have HM := Lib.hid (fun W h h' => newMachine_any a q L A B n c m d xs ys W hx hy hn hm hnc hmd h h')
  have HC := Lib.hid (fun W h => mcode_impl M p cp ms W hml hp h)
  have RX := Lib.hid hX
  have RY := Lib.hid hY
  have RM := Lib.hid hM
  have HR := Lib.hid (dmR_code h)
  obtain ⟨B0, B1, B2, G0⟩ := boxes3 w 42 39 73 #[.int .i64 L, .slice A n c, .slice B m d] #[.int .i64 a, .int .i64 q] #[.int .i64 0, .int .i64 0, .int .i64 0, .int .i64 0, .int .i64 0]
  have hcase : ((rlB L xs ys && sgB a q) = false ∧ mvS L xs ys a q ms = 1) ∨ ((rlB L xs ys && sgB a q) = true ∧ mvS L xs ys a q ms = mvC ms) := by
    rcases mvS_cases L xs ys a q ms with ⟨h1, e⟩ | ⟨h1, h2, e⟩ | ⟨h1, h2, e⟩
    · exact .inl ⟨by rw [h1, Bool.false_and], e⟩
    · exact .inl ⟨by rw [h2, Bool.and_false], e⟩
    · exact .inr ⟨by rw [h1, h2]; rfl, e⟩
  generalize dmR L xs ys a q ms = R at *
  clear hx hy hX hY hM hml
  rcases hcase with ⟨h1, h2⟩ | ⟨h1, h2⟩
  · rw [h1] at HM
    rw [h2] at HR
    clear h h1 h2 HC
    go_enter Tryd.func47, Tryd.ntmps47
    go_wp2_with fail
    generalize ((w.alloc (.cells #[.int .i64 L, .slice A n c, .slice B m d] 42)).alloc (.cells #[.int .i64 a, .int .i64 q] 39)).alloc (.cells #[.int .i64 0, .int .i64 0, .int .i64 0, .int .i64 0, .int .i64 0] 73) = v at *
    refine (HM.out _ (RX.out.gr G0) (RY.out.gr G0)).mono ?_
    rintro e w1 ⟨g, rfl, hg, hB, hG1⟩
    have hG := G0.trans hG1
    replace B2 := B2.gr hG1
    obtain ⟨c0, c1, c2, c3, c4, cf⟩ := B2.five
    have cl := B2.lt
    obtain ⟨r0, r1, r2, r3, r4, -⟩ := (blk_set5 B2 (.int .i64 0) (.int .i64 0) (.int .i64 0) (.int .i64 0) (.int .i64 0)).five
    go_wp2_with fail
    ((try simp only [Exit.inBlock, Exit.then]); refine bodyPost_ret (v := .tuple #[.agg #[.int .i64 0, .int .i64 0, .int .i64 0, .int .i64 0, .int .i64 0], .int .i64 1]) (by simp [results, Tryd.results47, go_sem, r0, r1, r2, r3, r4, World.cell?_setCell_same']) rfl ?_)
    rw [HR.out, dmV_mk]
    exact ⟨rfl, Gr.of_below (below_set5 hG.below (by omega) _ _ _ _ _)⟩
  · rw [h1] at HM
    rw [h2] at HR h
    have hb : (mvC ms == 0) = false := by simpa using h
    generalize mvC ms = z at *
    clear h h1 h2
    go_enter Tryd.func47, Tryd.ntmps47
    go_wp2_with fail
    generalize ((w.alloc (.cells #[.int .i64 L, .slice A n c, .slice B m d] 42)).alloc (.cells #[.int .i64 a, .int .i64 q] 39)).alloc (.cells #[.int .i64 0, .int .i64 0, .int .i64 0, .int .i64 0, .int .i64 0] 73) = v at *
    refine (HM.out _ (RX.out.gr G0) (RY.out.gr G0)).mono ?_
    rintro e w1 ⟨g, rfl, hg, hB, hG1⟩
    have hG := G0.trans hG1
    go_wp2_with fail
    refine (HC.out _ (RM.out.gr hG)).mono ?_
    rintro e w2 ⟨rfl, hG2⟩
    have hG3 := hG.trans hG2
    replace B2 := (B2.gr hG1).gr hG2
    obtain ⟨c0, c1, c2, c3, c4, cf⟩ := B2.five
    have cl := B2.lt
    obtain ⟨r0, r1, r2, r3, r4, -⟩ := (blk_set5 B2 (.int .i64 0) (.int .i64 0) (.int .i64 0) (.int .i64 0) (.int .i64 0)).five
    go_wp2_with fail
    ((try simp only [Exit.inBlock, Exit.then]); refine bodyPost_ret (v := .tuple #[.agg #[.int .i64 0, .int .i64 0, .int .i64 0, .int .i64 0, .int .i64 0], .int .i64 z]) (by simp [results, Tryd.results47, go_sem, r0, r1, r2, r3, r4, World.cell?_setCell_same']) rfl ?_)
    rw [HR.out, dmV_mk]
    exact ⟨rfl, Gr.of_below (below_set5 hG3.below (by omega) _ _ _ _ _)⟩

end Go.Proofs.YtefhhigcplemaaaDoor

/- Contracts of chapter 12: the program's doMoves, where there is nothing invalid. -/
namespace Go.Proofs.YtefhhigcplemaaaDoor
open Go.RowKit
set_option linter.unusedVariables false
set_option linter.unusedSimpArgs false

section
attribute [local go_sem high] storeCellsK mkA_size
set_option maxRecDepth 100000 in
set_option maxHeartbeats 16000000 in
theorem doMoves_run (a q : Int) (L : Int) (A B : Option Addr) (n c m d : Nat) (xs ys : List Int) (M : Option Addr) (p cp : Nat) (ms : List Mv) (w : World) (hx : xs.length = n) (hy : ys.length = m) (hn : n ≤ 16777216) (hm : m ≤ 16777216) (hnc : n ≤ c) (hmd : m ≤ d) (hX : Reads w w.heap.size A (xs.map vi)) (hY : Reads w w.heap.size B (ys.map vi)) (hml : ms.length = p) (hp : p ≤ 16777216) (hM : Reads w w.heap.size M (mcells ms)) (hD : Dcs w) (h : mvS L xs ys a q ms = 0) :
    Calls Tryd.prog 47 #[.agg #[.int .i64 L, .slice A n c, .slice B m d], .agg #[.int .i64 (a), .int .i64 (q)], .slice M p cp] w fun e w' => e = .returned (dmV (dmR L xs ys a q ms)) ∧ Gr w w' := by
  have HM := Lib.hid (fun W h h' => newMachine_any a q L A B n c m d xs ys W hx hy hn hm hnc hmd h h')
  have HC := Lib.hid (fun W h => mcode_impl M p cp ms W hml hp h)
  have HMK := Lib.hid (fun W => moveKinds_impl W)
  unfold mkV at HMK
  obtain ⟨h1, h2, h3⟩ := mvS_zero h
  have HDo := Lib.hid (fun g a' q' k s u t W hD' hX' hY' hB' hq' hv' => do_any g a' q' k s u t L A B n c m d xs ys W hD' hx hy hn hm hX' hY' hB' hq' hv')
  have RX := Lib.hid hX
  have RY := Lib.hid hY
  have RM := Lib.hid hM
  have HDc := Lib.hid hD
  have HL := Lib.hid hml
  have HV := Lib.hid (mvC_zero h3).1
  have hp30 := (mvC_zero h3).2
  rw [hml] at hp30
  have HRun := Lib.hid (fun (J : Jy) (b : Bool) (e : jyRun xs ys (jy0 a q) ms = (J, b)) => dmR_run h e)
  have HB0 := Lib.hid (JyB.zero h2)
  have HJ := Lib.hid (show jyRun xs ys (jy0 a q) ms = jyRun xs ys (jy0 a q) (ms.drop 0) from rfl)
  rw [h1, h2] at HM
  rw [h3] at HC
  generalize dmR L xs ys a q ms = R at *
  generalize jyRun xs ys (jy0 a q) ms = JR at *
  obtain ⟨B0, B1, B2, G0⟩ := boxes3 w 42 39 73 #[.int .i64 L, .slice A n c, .slice B m d] #[.int .i64 a, .int .i64 q] #[.int .i64 0, .int .i64 0, .int .i64 0, .int .i64 0, .int .i64 0]
  clear hx hy hX hY hM hml hD h h1 h2 h3
  go_enter Tryd.func47, Tryd.ntmps47
  go_wp2_with fail
  generalize ((w.alloc (.cells #[.int .i64 L, .slice A n c, .slice B m d] 42)).alloc (.cells #[.int .i64 a, .int .i64 q] 39)).alloc (.cells #[.int .i64 0, .int .i64 0, .int .i64 0, .int .i64 0, .int .i64 0] 73) = v at *
  refine (HM.out _ (RX.out.gr G0) (RY.out.gr G0)).mono ?_
  rintro e w1 ⟨g, rfl, hg, hB, hG1⟩
  have hG := G0.trans hG1
  have hvl := B2.lt
  go_wp2_with fail
  refine (HC.out _ (RM.out.gr hG)).mono ?_
  rintro e w2 ⟨rfl, hG2⟩
  have hG3 := hG.trans hG2
  replace B1 := (B1.gr hG1).gr hG2
  replace B2 := (B2.gr hG1).gr hG2
  replace hB := hB.gr hG2
  have hgl := hB.lt
  clear B0 hG G0 hG1 hG2 HM HC
  go_wp2_with fail
  refine region_mix2 5 6 82 73 (by decide) mkA #[.int .i64 a, .int .i64 q, .int .i64 0, .int .i64 0, .int .i64 0] [(0, .is (.agg mkA)), (3, .made 82 w2.heap.size 21), (4, .made 73 w2.heap.size 5)] (by kernel_rfl) (by kernel_rfl) ?_
  (refine lz_many _ rfl (fun K hK => ?_); refine ⟨rfl, fun wz hz ha => ?_, fun vz wz hz hf => ?_⟩; (focus (go_simp; exact l2_call (by decide) (by decide) hz (HMK.out _))); (obtain rfl := hf; clear hz wz; go_simp; refine hK _ _ ?_; clear hK K))
  (refine lz_one rfl (fun K hK => ?_); refine ⟨rfl, ?_⟩; apply Exists.intro; refine ⟨fun wz hz => ?_, ?_⟩; (focus (obtain ⟨s0, s1, -⟩ := (B1.gr hz).two; go_simp; (first | done | exact ⟨rfl, rfl⟩ | trivial))); (go_simp; refine hK _ _ ?_; clear hK K))
  (refine lz_one rfl (fun K hK => ?_); refine ⟨rfl, ?_⟩; apply Exists.intro; refine ⟨fun wz hz => ?_, ?_⟩; (focus (skip; go_simp; (first | done | exact ⟨rfl, rfl⟩ | trivial))); (go_simp; refine hK _ _ ?_; clear hK K))
  (refine lz_many _ rfl (fun K hK => ?_); refine ⟨rfl, fun wz hz ha => ?_, fun vz wz hz hf => ?_⟩; (focus (go_simp; exact l2_made (by decide) (by decide) hz (Nat.le_refl _) rfl)); (obtain ⟨gg, rfl, -, -⟩ := hf; clear hz wz; go_simp; refine hK _ _ ?_; clear hK K))
  (refine lz_many _ rfl (fun K hK => ?_); refine ⟨rfl, fun wz hz ha => ?_, fun vz wz hz hf => ?_⟩; (focus (go_simp; exact l2_made (by decide) (by decide) hz (Nat.le_refl _) rfl)); (obtain ⟨gg2, rfl, -, -⟩ := hf; clear hz wz; go_simp; refine hK _ _ ?_; clear hK K))
  (refine lz_many _ rfl (fun K hK => ?_); refine ⟨rfl, fun wz hz ha => ?_, fun vz wz hz hf => ?_⟩; (focus (obtain ⟨g', e', hb', ds, k1, k2⟩ := ha ⟨3, .data⟩ (by simp) rfl; cases e'; have hst := run_stB k2 k1; go_simp; exact ⟨Gr.of_below ⟨hz.below.os, hz.below.tape, hz.below.output, by have := hz.below.size; simpa [World.setRow] using this, fun k hk => (setRow_other wz gg k mkA (by omega)).trans (hz.below.block k hk)⟩, Ty.setRow k2 (by rw [k1]; rfl), gg, rfl, setRow_blk k2 mkA⟩)); (obtain - := hf; clear hz wz; go_simp; refine hK _ _ ?_; clear hK K))
  (refine lz_many _ rfl (fun K hK => ?_); refine ⟨rfl, fun wz hz ha => ?_, fun vz wz hz hf => ?_⟩; (focus (obtain ⟨g', e', hb', ds, k1, k2⟩ := ha ⟨4, .data⟩ (by simp) rfl; cases e'; obtain ⟨y0, y1, y2, y3, y4, rfl⟩ := five_of k1; obtain ⟨c0, c1, c2, c3, c4, cf⟩ := k2.five; have cl := k2.lt; go_simp; exact ⟨Gr.of_below (below_set5 hz.below hb' _ _ _ _ _), ty_set5 k2 _ _ _ _ _, gg2, rfl, blk_set5 k2 _ _ _ _ _⟩)); (obtain - := hf; clear hz wz; go_simp; refine hK _ _ ?_; clear hK K))
  refine lz_nil ?_
  intro w3 hz hgn
  obtain ⟨gk, ek, hK⟩ := hgn 5
  obtain ⟨gj, ej, hJy⟩ := hgn 6
  obtain ⟨gk2, ek2, hgk, -⟩ := hgn 3
  obtain ⟨gj2, ej2, hgj, -⟩ := hgn 4
  cases ek
  cases ej
  cases ek2
  cases ej2
  clear hgn
  replace B2 := B2.gr hz
  replace hB := hB.gr hz
  have hW := (hG3.trans hz).below
  have hsw := hG3.below.size
  have hkj : gg ≠ gg2 := fun e => absurd (blk_type hK (e ▸ hJy)) (by decide)
  clear hG3 hz B1 HMK
  go_wp2_with fail
  go_loopw [35] (fun i wr => ∃ (k : Nat) (J : Jy), k ≤ p ∧ i = .int .i64 k ∧ Hid (JR = jyRun xs ys J (ms.drop k)) ∧ JyB J k ∧ Blk wr g 104 (mcs L A B n c m d J.a J.c) ∧ Blk wr gg 82 mkA ∧ Blk wr gg2 73 #[.int .i64 J.a, .int .i64 J.c, .int .i64 J.n, .int .i64 J.u, .int .i64 J.v] ∧ Blk wr (w.heap.size + 1 + 1) 73 #[.int .i64 0, .int .i64 0, .int .i64 0, .int .i64 0, .int .i64 0] ∧ Below w.heap.size w wr) (fun i _ => p - (intOf i).toNat)
  case atStart => exact ⟨0, jy0 a q, by omega, rfl, HJ, HB0.out, hB, hK, hJy, B2, hW⟩
  case round =>
    clear hB hK hJy B2 hW HJ HB0
    obtain ⟨k, J, hk, rfl, HR, hJ, bM, bK, bJ, bR, hWr⟩ := hrel
    by_cases hlt : k < p
    · obtain ⟨mv, hmv⟩ := some_at (l := ms) (k := k) (by rw [HL.out]; exact hlt)
      obtain ⟨gm, o, rfl, hgm, x0, x1, x2, x3⟩ := (RM.out.below hWr).at4 hmv
      have hval := all_at HV.out hmv
      have HD := Lib.hid (HR.out.trans (by rw [drop_at hmv]))
      obtain ⟨mk, s, u, t⟩ := mv
      simp only at x0 x1 x2 x3
      have hkk : 0 ≤ mk ∧ mk ≤ 6 := by rcases mvB_cases hval with ⟨hk2, -, -⟩ | ⟨hk2, -⟩ <;> omega
      obtain ⟨kn, rfl⟩ := Int.eq_ofNat_of_zero_le hkk.1
      have kn7 : kn < 7 := by omega
      have kn7' : (kn : Int) < 7 := by omega
      have HDk := Lib.hid (fun W h1 h2 h3 h4 => HDo.out g J.a J.c kn s u t W h1 h2 h3 h4 hJ.1 hval)
      have hfn := kinds_fn bK kn hkk.1 hkk.2
      have hcf := kfn_call (kn : Int) hkk.1 hkk.2
      rw [Int.toNat_natCast] at hfn
      generalize kfn (kn : Int) = gf at *
      clear hmv HR hkk
      go_wp2_with fail
      have hg1 : Gr wr (wr.alloc (.cells #[.int .i64 kn, .int .i64 s, .int .i64 u, .int .i64 t] 47)) := (by repeat (first | with_reducible exact Gr.refl _ | with_reducible refine Gr.alloc ?_ _ | with_reducible refine Gr.gr ?_ _ _ | with_reducible refine Gr.drew ?_ | with_reducible refine Gr.drewN ?_ _))
      have N1 := Blk.new wr 47 #[.int .i64 kn, .int .i64 s, .int .i64 u, .int .i64 t]
      have fn1 := cell_up hg1 hfn
      have M1 := bM.gr hg1
      have K1 := bK.gr hg1
      have J1 := bJ.gr hg1
      have R1 := bR.gr hg1
      clear x0 x1 x2 x3 hfn bM bK bJ bR hgm
      have hws := hWr.size
      have hwn := N1.lt
      generalize hv1 : wr.alloc (.cells #[.int .i64 kn, .int .i64 s, .int .i64 u, .int .i64 t] 47) = v1 at *
      clear hv1
      obtain ⟨n0, n1, n2, n3, -⟩ := N1.four
      have kl := K1.lt
      go_still_tail 7, (by kernel_rfl)
      change wpList _ _ _ _ _ v1.drew
      have hdr : Gr v1 v1.drew := (Gr.refl v1).drew
      have hg2 := hg1.trans hdr
      replace M1 := M1.gr hdr
      replace K1 := K1.gr hdr
      replace J1 := J1.gr hdr
      replace R1 := R1.gr hdr
      clear n0 n1 n2 n3 kl fn1 N1 hg1
      generalize v1.drew = v2 at *
      clear hdr hwn
      have hW2 := hWr.trans (hg2.below.mono hWr.size)
      have HDv := HDk.out v2 (HDc.out.gr (Gr.of_below hW2)) (RX.out.below hW2) (RY.out.below hW2) M1
      have hs2 := hg2.below.size
      have ml := M1.lt
      have jl := J1.lt
      have kl := K1.lt
      rcases mvO_tf xs ys (kn, s, u, t) J.a J.c with ho | ho
      · have HN := Lib.hid (HD.out.trans (jyRun_yes ho))
        have hJ2 := Lib.hid (hJ.on ho)
        have hsg := mvO_sg ho
        have HDv2 : Calls Tryd.prog gf #[.pointer (some ⟨g, 0, none⟩), .agg #[.int .i64 (kn), .int .i64 (s), .int .i64 (u), .int .i64 (t)]] v2 fun e w' => Moved g (mcs L A B n c m d (mvN (kn, s, u, t) J.a J.c).1 (mvN (kn, s, u, t) J.a J.c).2) 0 v2 e w' := HDv.mono fun e w' h => by unfold DoW at h; rwa [if_pos ho] at h
        have HDv3 := Lib.hid HDv2
        generalize hnx : mvN (kn, s, u, t) J.a J.c = nx at *
        obtain ⟨x, y⟩ := nx
        simp only at hsg HDv3
        clear ho hnx HDv HDv2 HDk HD HDo
        obtain ⟨f1, f2, f3, f4⟩ := sg_bd hsg
        obtain ⟨f5, f6, f7, f8⟩ := sg_bd hJ.1
        have hu := hJ.2.2.1
        have hvv := hJ.2.2.2
        have hnn := hJ.2.1
        have HOn := Lib.hid (fun W => on12_any J.a J.c J.n J.u J.v x y W (by omega) (by omega) (by omega) (by omega) (by omega) (by omega) (by omega))
        clear f1 f2 f3 f4 f5 f6 f7 f8 hu hvv hnn hsg
        go_wp2_with (go_at_fn gf; refine HDv3.out.mono ?_; rintro e w3 ⟨rfl, M3, hX3⟩)
        have K3 := hX3.keeps K1 (by omega)
        have J3 := hX3.keeps J1 (by omega)
        have R3 := hX3.keeps R1 (by omega)
        have hW3 := hW2.trans (hX3.below (B := w.heap.size) (by omega) (by omega))
        clear M1 K1 J1 R1 hX3 HDv3 ml jl kl
        obtain ⟨m0, m1, m2, m3, m4, -⟩ := M3.five
        obtain ⟨j0, j1, j2, j3, j4, -⟩ := J3.five
        have ml := M3.lt
        have jl := J3.lt
        go_still_tail 5, (by kernel_rfl)
        change wpList _ _ _ _ _ w3.drew
        have hdr : Gr w3 w3.drew := (Gr.refl w3).drew
        replace M3 := M3.gr hdr
        replace K3 := K3.gr hdr
        replace J3 := J3.gr hdr
        replace R3 := R3.gr hdr
        have hW4 := hW3.trans (hdr.below.mono hW3.size)
        clear m0 m1 m2 m3 m4 j0 j1 j2 j3 j4 ml jl
        generalize w3.drew = w4 at *
        clear hdr hW3
        go_wp2_with fail
        refine (HOn.out w4).mono ?_
        rintro e w5 ⟨rfl, hg5⟩
        have M5 := M3.gr hg5
        have K5 := K3.gr hg5
        have J5 := J3.gr hg5
        have R5 := R3.gr hg5
        have hW5 := hW4.trans (hg5.below.mono hW4.size)
        obtain ⟨j0, j1, j2, j3, j4, jf⟩ := J5.five
        have jl := J5.lt
        clear M3 K3 J3 R3 hg5 hW4 HOn
        go_wp2_with fail
        go_roundw
        case rel => exact ⟨k + 1, _, by omega, by go_num, HN, hJ2.out, far_set5 M5 (by omega) _ _ _ _ _, far_set5 K5 (fun e => hkj e.symm) _ _ _ _ _, blk_set5 J5 _ _ _ _ _, far_set5 R5 (by omega) _ _ _ _ _, below_set5 hW5 (by omega) _ _ _ _ _⟩
        case measure => simp [intOf]; omega
      · have HN := Lib.hid (HRun.out _ _ (HD.out.trans (jyRun_no ho)))
        have HDv2 : Calls Tryd.prog gf #[.pointer (some ⟨g, 0, none⟩), .agg #[.int .i64 (kn), .int .i64 (s), .int .i64 (u), .int .i64 (t)]] v2 fun e w' => ∃ z : Int, (z == 0) = false ∧ e = .returned (.int .i64 z) ∧ Gx g v2 w' := HDv.mono fun e w' h => by unfold DoW at h; rwa [if_neg (by rw [ho]; simp)] at h
        have HDv3 := Lib.hid HDv2
        clear ho HDv HDv2 HDk HD HDo
        clear ml
        go_wp2_with (go_at_fn gf; refine HDv3.out.mono ?_; rintro e w3 ⟨z, hz0, rfl, hX3⟩; have J3 := hX3.keeps J1 (by omega); have R3 := hX3.keeps R1 (by omega); have hW3 := hW2.trans (hX3.below (B := w.heap.size) (by omega) (by omega)); obtain ⟨j0, j1, j2, j3, j4, -⟩ := J3.five; obtain ⟨c0, c1, c2, c3, c4, cf⟩ := R3.five; have jl3 := J3.lt; have cl3 := R3.lt)
        obtain ⟨r0, r1, r2, r3, r4, -⟩ := (blk_set5 R3 (.int .i64 J.a) (.int .i64 J.c) (.int .i64 J.n) (.int .i64 J.u) (.int .i64 J.v)).five
        ((try simp only [Exit.inBlock, Exit.then]); refine bodyPost_ret (v := .tuple #[.agg #[.int .i64 J.a, .int .i64 J.c, .int .i64 J.n, .int .i64 J.u, .int .i64 J.v], .int .i64 5]) (by simp [results, Tryd.results47, go_sem, r0, r1, r2, r3, r4, World.cell?_setCell_same']) rfl ?_)
        rw [HN.out]
        exact ⟨rfl, Gr.of_below (below_set5 hW3 (by omega) _ _ _ _ _)⟩
    · obtain rfl : k = p := by omega
      have HN := Lib.hid (HRun.out _ _ (HR.out.trans (by rw [List.drop_of_length_le (by rw [HL.out]; omega), jyRun_nil])))
      obtain ⟨j0, j1, j2, j3, j4, -⟩ := bJ.five
      obtain ⟨c0, c1, c2, c3, c4, cf⟩ := bR.five
      have jl := bJ.lt
      have cl := bR.lt
      obtain ⟨r0, r1, r2, r3, r4, -⟩ := (blk_set5 bR (.int .i64 J.a) (.int .i64 J.c) (.int .i64 J.n) (.int .i64 J.u) (.int .i64 J.v)).five
      clear HR HDo
      go_wp2_with fail
      ((try simp only [Exit.inBlock, Exit.then]); refine bodyPost_ret (v := .tuple #[.agg #[.int .i64 J.a, .int .i64 J.c, .int .i64 J.n, .int .i64 J.u, .int .i64 J.v], .int .i64 0]) (by simp [results, Tryd.results47, go_sem, r0, r1, r2, r3, r4, World.cell?_setCell_same']) rfl ?_)
      rw [HN.out]
      exact ⟨rfl, Gr.of_below (below_set5 hWr (by omega) _ _ _ _ _)⟩
end
theorem doMoves_impl (a q : Int) (L : Int) (A B : Option Addr) (n c m d : Nat) (xs ys : List Int) (M : Option Addr) (p cp : Nat) (ms : List Mv) (w : World) (hx : xs.length = n) (hy : ys.length = m) (hn : n ≤ 16777216) (hm : m ≤ 16777216) (hnc : n ≤ c) (hmd : m ≤ d) (hX : Reads w w.heap.size A (xs.map vi)) (hY : Reads w w.heap.size B (ys.map vi)) (hml : ms.length = p) (hp : p ≤ 16777216) (hM : Reads w w.heap.size M (mcells ms)) (hD : Dcs w) :
    Calls Tryd.prog 47 #[.agg #[.int .i64 L, .slice A n c, .slice B m d], .agg #[.int .i64 (a), .int .i64 (q)], .slice M p cp] w fun e w' => e = .returned (dmV (dmR L xs ys a q ms)) ∧ Gr w w' := by
  by_cases h : mvS L xs ys a q ms = 0
  · exact doMoves_run a q L A B n c m d xs ys M p cp ms w hx hy hn hm hnc hmd hX hY hml hp hM hD h
  · exact doMoves_no a q L A B n c m d xs ys M p cp ms w hx hy hn hm hnc hmd hX hY hml hp hM h
end Go.Proofs.YtefhhigcplemaaaDoor

/- Contracts of chapter 12: the program's RunMoves, ApplyMove, FirstImpossible, TravelOf. -/
namespace Go.Proofs.YtefhhigcplemaaaDoor
open Go.RowKit
set_option linter.unusedVariables false
set_option linter.unusedSimpArgs false

theorem mvS_vals (L : Int) (xs ys : List Int) (a c : Int) (ms : List Mv) : mvS L xs ys a c ms = 0 ∨ mvS L xs ys a c ms = 1 ∨ mvS L xs ys a c ms = 3 := by
  rcases mvS_cases L xs ys a c ms with ⟨-, e⟩ | ⟨-, -, e⟩ | ⟨-, -, e⟩
  · exact .inr (.inl e)
  · exact .inr (.inl e)
  · rw [e]; rcases mvC_cases ms with ⟨-, e⟩ | ⟨-, -, e⟩ | ⟨-, -, e⟩ <;> omega
theorem rm_dm (L : Int) (xs ys : List Int) (a c : Int) (ms : List Mv) : rmR L xs ys a c ms = if (dmR L xs ys a c ms).2 = 0 then (((dmR L xs ys a c ms).1.a, (dmR L xs ys a c ms).1.c), 0) else ((0, 0), (dmR L xs ys a c ms).2) := by
  by_cases h : mvS L xs ys a c ms = 0
  · generalize hR : jyRun xs ys (jy0 a c) ms = R
    obtain ⟨J, b⟩ := R
    rw [dmR_run h hR]
    cases b
    · rw [rmR_stop h hR]; simp
    · rw [rmR_run h hR]; simp
  · rw [dmR_code h, rmR_code h, if_neg h]
theorem tv_dm (L : Int) (xs ys : List Int) (a c : Int) (ms : List Mv) : tvR L xs ys a c ms = if (dmR L xs ys a c ms).2 = 0 then (((dmR L xs ys a c ms).1.u, (dmR L xs ys a c ms).1.v), 0) else ((0, 0), (dmR L xs ys a c ms).2) := by
  by_cases h : mvS L xs ys a c ms = 0
  · generalize hR : jyRun xs ys (jy0 a c) ms = R
    obtain ⟨J, b⟩ := R
    rw [dmR_run h hR]
    cases b
    · rw [tvR_stop h hR]; simp
    · rw [tvR_run h hR]; simp
  · rw [dmR_code h, tvR_code h, if_neg h]
theorem fi_dm (L : Int) (xs ys : List Int) (a c : Int) (ms : List Mv) : fiR L xs ys a c ms = if (dmR L xs ys a c ms).2 = 0 then (0, 4) else if (dmR L xs ys a c ms).2 = 5 then ((dmR L xs ys a c ms).1.n, 0) else (0, (dmR L xs ys a c ms).2) := by
  by_cases h : mvS L xs ys a c ms = 0
  · generalize hR : jyRun xs ys (jy0 a c) ms = R
    obtain ⟨J, b⟩ := R
    rw [dmR_run h hR]
    cases b
    · rw [fiR_stop h hR]; simp
    · rw [fiR_run h hR]; simp
  · have h5 : mvS L xs ys a c ms ≠ 5 := by have := mvS_vals L xs ys a c ms; omega
    rw [dmR_code h, fiR_code h, if_neg h, if_neg h5]

set_option maxRecDepth 100000 in
set_option maxHeartbeats 4000000 in
theorem runMoves_impl (a q : Int) (L : Int) (A B : Option Addr) (n c m d : Nat) (xs ys : List Int) (M : Option Addr) (p cp : Nat) (ms : List Mv) (w : World) (hx : xs.length = n) (hy : ys.length = m) (hn : n ≤ 16777216) (hm : m ≤ 16777216) (hnc : n ≤ c) (hmd : m ≤ d) (hX : Reads w w.heap.size A (xs.map vi)) (hY : Reads w w.heap.size B (ys.map vi)) (hml : ms.length = p) (hp : p ≤ 16777216) (hM : Reads w w.heap.size M (mcells ms)) (hD : Dcs w) :
    Calls Tryd.prog 25 #[.agg #[.int .i64 L, .slice A n c, .slice B m d], .agg #[.int .i64 (a), .int .i64 (q)], .slice M p cp] w fun e w' => e = .returned (.tuple #[.agg #[.int .i64 ((rmR L xs ys a q ms).1.1), .int .i64 ((rmR L xs ys a q ms).1.2)], .int .i64 (rmR L xs ys a q ms).2]) ∧ Gr w w' := by
  have HDo := Lib.hid (fun W h1 h2 h3 h4 => doMoves_impl a q L A B n c m d xs ys M p cp ms W hx hy hn hm hnc hmd h1 h2 hml hp h3 h4)
  have HDM := Lib.hid (rm_dm L xs ys a q ms)
  have RX := Lib.hid hX
  have RY := Lib.hid hY
  have RM := Lib.hid hM
  have HDc := Lib.hid hD
  obtain ⟨B0, B1, B2, G0⟩ := boxes3 w 42 39 39 #[.int .i64 L, .slice A n c, .slice B m d] #[.int .i64 a, .int .i64 q] #[.int .i64 0, .int .i64 0]
  generalize rmR L xs ys a q ms = R at *
  generalize dmR L xs ys a q ms = D at *
  obtain ⟨J, z⟩ := D
  rw [dmV_mk] at HDo
  clear hx hy hX hY hM hml hD
  by_cases hz : z = 0
  · have HR := Lib.hid (HDM.out.trans (if_pos hz))
    subst hz
    clear HDM
    go_enter Tryd.func25, Tryd.ntmps25
    go_wp2_with fail
    generalize ((w.alloc (.cells #[.int .i64 L, .slice A n c, .slice B m d] 42)).alloc (.cells #[.int .i64 a, .int .i64 q] 39)).alloc (.cells #[.int .i64 0, .int .i64 0] 39) = v at *
    refine (HDo.out _ (RX.out.gr G0) (RY.out.gr G0) (RM.out.gr G0) (HDc.out.gr G0)).mono ?_
    rintro e w1 ⟨rfl, hg1⟩
    have hG := G0.trans hg1
    replace B2 := B2.gr hg1
    obtain ⟨c0, c1, cf⟩ := B2.two
    have cl := B2.lt
    obtain ⟨r0, r1, -⟩ := (((B2.set 0 (.int .i64 J.a)).set 1 (.int .i64 J.c)).alloc (.cells #[.int .i64 J.a, .int .i64 J.c, .int .i64 J.n, .int .i64 J.u, .int .i64 J.v] 73)).two
    go_wp2_with fail
    ((try simp only [Exit.inBlock, Exit.then]); refine bodyPost_ret (v := .tuple #[.agg #[.int .i64 (J.a), .int .i64 (J.c)], .int .i64 0]) (by simp [results, Tryd.results25, go_sem, r0, r1, World.cell?_setCell_same']) rfl ?_)
    rw [HR.out]
    exact ⟨rfl, (Gr.of_below ((hG.below.setCell (p := ⟨w.heap.size + 1 + 1, 0, none⟩) (by show w.heap.size ≤ w.heap.size + 1 + 1; omega) _).setCell (p := ⟨w.heap.size + 1 + 1, 1, none⟩) (by show w.heap.size ≤ w.heap.size + 1 + 1; omega) _)).alloc _⟩
  · have HR := Lib.hid (HDM.out.trans (if_neg hz))
    have hb : (z == 0) = false := by simpa using hz
    clear HDM hz
    go_enter Tryd.func25, Tryd.ntmps25
    go_wp2_with fail
    generalize ((w.alloc (.cells #[.int .i64 L, .slice A n c, .slice B m d] 42)).alloc (.cells #[.int .i64 a, .int .i64 q] 39)).alloc (.cells #[.int .i64 0, .int .i64 0] 39) = v at *
    refine (HDo.out _ (RX.out.gr G0) (RY.out.gr G0) (RM.out.gr G0) (HDc.out.gr G0)).mono ?_
    rintro e w1 ⟨rfl, hg1⟩
    have hG := G0.trans hg1
    replace B2 := B2.gr hg1
    obtain ⟨c0, c1, cf⟩ := B2.two
    have cl := B2.lt
    obtain ⟨r0, r1, -⟩ := (((B2.set 0 (.int .i64 0)).set 1 (.int .i64 0)).alloc (.cells #[.int .i64 J.a, .int .i64 J.c, .int .i64 J.n, .int .i64 J.u, .int .i64 J.v] 73)).two
    go_wp2_with fail
    ((try simp only [Exit.inBlock, Exit.then]); refine bodyPost_ret (v := .tuple #[.agg #[.int .i64 (0), .int .i64 (0)], .int .i64 z]) (by simp [results, Tryd.results25, go_sem, r0, r1, World.cell?_setCell_same']) rfl ?_)
    rw [HR.out]
    exact ⟨rfl, (Gr.of_below ((hG.below.setCell (p := ⟨w.heap.size + 1 + 1, 0, none⟩) (by show w.heap.size ≤ w.heap.size + 1 + 1; omega) _).setCell (p := ⟨w.heap.size + 1 + 1, 1, none⟩) (by show w.heap.size ≤ w.heap.size + 1 + 1; omega) _)).alloc _⟩

set_option maxRecDepth 100000 in
set_option maxHeartbeats 4000000 in
theorem firstImp_impl (a q : Int) (L : Int) (A B : Option Addr) (n c m d : Nat) (xs ys : List Int) (M : Option Addr) (p cp : Nat) (ms : List Mv) (w : World) (hx : xs.length = n) (hy : ys.length = m) (hn : n ≤ 16777216) (hm : m ≤ 16777216) (hnc : n ≤ c) (hmd : m ≤ d) (hX : Reads w w.heap.size A (xs.map vi)) (hY : Reads w w.heap.size B (ys.map vi)) (hml : ms.length = p) (hp : p ≤ 16777216) (hM : Reads w w.heap.size M (mcells ms)) (hD : Dcs w) :
    Calls Tryd.prog 27 #[.agg #[.int .i64 L, .slice A n c, .slice B m d], .agg #[.int .i64 (a), .int .i64 (q)], .slice M p cp] w fun e w' => e = .returned (.tuple #[.int .i64 (fiR L xs ys a q ms).1, .int .i64 (fiR L xs ys a q ms).2]) ∧ Gr w w' := by
  have HDo := Lib.hid (fun W h1 h2 h3 h4 => doMoves_impl a q L A B n c m d xs ys M p cp ms W hx hy hn hm hnc hmd h1 h2 hml hp h3 h4)
  have HDM := Lib.hid (fi_dm L xs ys a q ms)
  have RX := Lib.hid hX
  have RY := Lib.hid hY
  have RM := Lib.hid hM
  have HDc := Lib.hid hD
  obtain ⟨B0, B1, G0⟩ := boxes2 w 42 39 #[.int .i64 L, .slice A n c, .slice B m d] #[.int .i64 a, .int .i64 q]
  generalize fiR L xs ys a q ms = R at *
  generalize dmR L xs ys a q ms = D at *
  obtain ⟨J, z⟩ := D
  rw [dmV_mk] at HDo
  clear hx hy hX hY hM hml hD
  have hz3 : (z = 0 ∧ R = (0, 4)) ∨ (z = 5 ∧ R = (J.n, 0)) ∨ ((z == 0) = false ∧ (z == 5) = false ∧ R = (0, z)) := by
    have h := HDM.out
    simp only at h
    by_cases h0 : z = 0
    · rw [if_pos h0] at h; exact .inl ⟨h0, h⟩
    · rw [if_neg h0] at h
      by_cases h5 : z = 5
      · rw [if_pos h5] at h; exact .inr (.inl ⟨h5, h⟩)
      · rw [if_neg h5] at h; exact .inr (.inr ⟨by simpa using h0, by simpa using h5, h⟩)
  clear HDM
  rcases hz3 with ⟨rfl, hR⟩ | ⟨rfl, hR⟩ | ⟨hb0, hb5, hR⟩
  all_goals
    have HR := Lib.hid hR
    clear hR
    go_enter Tryd.func27, Tryd.ntmps27
    go_wp2_with fail
    refine (HDo.out _ (RX.out.gr G0) (RY.out.gr G0) (RM.out.gr G0) (HDc.out.gr G0)).mono ?_
    rintro e w1 ⟨rfl, hg1⟩
    have hG := G0.trans hg1
    go_wp2_with fail
    go_ret2
    rw [HR.out]
    exact ⟨rfl, hG.alloc _⟩

set_option maxRecDepth 100000 in
set_option maxHeartbeats 4000000 in
theorem travel_impl (a q : Int) (L : Int) (A B : Option Addr) (n c m d : Nat) (xs ys : List Int) (M : Option Addr) (p cp : Nat) (ms : List Mv) (w : World) (hx : xs.length = n) (hy : ys.length = m) (hn : n ≤ 16777216) (hm : m ≤ 16777216) (hnc : n ≤ c) (hmd : m ≤ d) (hX : Reads w w.heap.size A (xs.map vi)) (hY : Reads w w.heap.size B (ys.map vi)) (hml : ms.length = p) (hp : p ≤ 16777216) (hM : Reads w w.heap.size M (mcells ms)) (hD : Dcs w) :
    Calls Tryd.prog 29 #[.agg #[.int .i64 L, .slice A n c, .slice B m d], .agg #[.int .i64 (a), .int .i64 (q)], .slice M p cp] w fun e w' => e = .returned (.tuple #[.int .i64 (tvR L xs ys a q ms).1.1, .int .i64 (tvR L xs ys a q ms).1.2, .int .i64 (tvR L xs ys a q ms).2]) ∧ Gr w w' := by
  have HDo := Lib.hid (fun W h1 h2 h3 h4 => doMoves_impl a q L A B n c m d xs ys M p cp ms W hx hy hn hm hnc hmd h1 h2 hml hp h3 h4)
  have HDM := Lib.hid (tv_dm L xs ys a q ms)
  have RX := Lib.hid hX
  have RY := Lib.hid hY
  have RM := Lib.hid hM
  have HDc := Lib.hid hD
  obtain ⟨B0, B1, G0⟩ := boxes2 w 42 39 #[.int .i64 L, .slice A n c, .slice B m d] #[.int .i64 a, .int .i64 q]
  generalize tvR L xs ys a q ms = R at *
  generalize dmR L xs ys a q ms = D at *
  obtain ⟨J, z⟩ := D
  rw [dmV_mk] at HDo
  clear hx hy hX hY hM hml hD
  by_cases hz : z = 0
  · have HR := Lib.hid (HDM.out.trans (if_pos hz))
    subst hz
    clear HDM
    go_enter Tryd.func29, Tryd.ntmps29
    go_wp2_with fail
    refine (HDo.out _ (RX.out.gr G0) (RY.out.gr G0) (RM.out.gr G0) (HDc.out.gr G0)).mono ?_
    rintro e w1 ⟨rfl, hg1⟩
    have hG := G0.trans hg1
    go_wp2_with fail
    have N := Blk.new w1 73 #[.int .i64 J.a, .int .i64 J.c, .int .i64 J.n, .int .i64 J.u, .int .i64 J.v]
    have hG2 := hG.alloc (.cells #[.int .i64 J.a, .int .i64 J.c, .int .i64 J.n, .int .i64 J.u, .int .i64 J.v] 73)
    generalize w1.alloc (.cells #[.int .i64 J.a, .int .i64 J.c, .int .i64 J.n, .int .i64 J.u, .int .i64 J.v] 73) = v1 at *
    obtain ⟨n0, n1, n2, n3, n4, -⟩ := N.five
    have nl := N.lt
    refine region_grows [] (by kernel_rfl) (by kernel_rfl) ?_
    (refine lz_one rfl (fun K hK => ?_); refine ⟨rfl, ?_⟩; apply Exists.intro; refine ⟨fun wz hz => ?_, ?_⟩; (focus (skip; go_simp; (first | done | exact ⟨rfl, rfl⟩ | trivial))); (go_simp; refine hK _ _ ?_; clear hK K))
    (refine lz_one rfl (fun K hK => ?_); refine ⟨rfl, ?_⟩; apply Exists.intro; refine ⟨fun wz hz => ?_, ?_⟩; (focus (obtain ⟨n0, n1, n2, n3, n4, -⟩ := (N.gr hz).five; go_simp; (first | done | exact ⟨rfl, rfl⟩ | trivial))); (go_simp; refine hK _ _ ?_; clear hK K))
    (refine lz_one rfl (fun K hK => ?_); refine ⟨rfl, ?_⟩; apply Exists.intro; refine ⟨fun wz hz => ?_, ?_⟩; (focus (skip; go_simp; (first | done | exact ⟨rfl, rfl⟩ | trivial))); (go_simp; refine hK _ _ ?_; clear hK K))
    (refine lz_one rfl (fun K hK => ?_); refine ⟨rfl, ?_⟩; apply Exists.intro; refine ⟨fun wz hz => ?_, ?_⟩; (focus (obtain ⟨n0, n1, n2, n3, n4, -⟩ := (N.gr hz).five; go_simp; (first | done | exact ⟨rfl, rfl⟩ | trivial))); (go_simp; refine hK _ _ ?_; clear hK K))
    (refine lz_one rfl (fun K hK => ?_); refine ⟨rfl, ?_⟩; apply Exists.intro; refine ⟨fun wz hz => ?_, ?_⟩; (focus (skip; go_simp; (first | done | exact ⟨rfl, rfl⟩ | trivial))); (go_simp; refine hK _ _ ?_; clear hK K))
    (refine lz_one rfl (fun K hK => ?_); refine ⟨rfl, ?_⟩; apply Exists.intro; refine ⟨fun wz hz => ?_, ?_⟩; (focus (skip; go_simp; (first | done | exact ⟨rfl, rfl⟩ | trivial))); (go_simp; refine hK _ _ ?_; clear hK K))
    (refine lz_one rfl (fun K hK => ?_); refine ⟨rfl, ?_⟩; apply Exists.intro; refine ⟨fun wz hz => ?_, ?_⟩; (focus (skip; go_simp; (first | done | exact ⟨rfl, rfl⟩ | trivial))); (go_simp; refine hK _ _ ?_; clear hK K))
    refine lz_nil ?_
    intro w2 hz hgg
    go_wp2_with fail
    ((try simp only [Exit.inBlock, Exit.then]); refine bodyPost_ret (v := .tuple #[.int .i64 J.u, .int .i64 J.v, .int .i64 0]) (by simp [results, Tryd.results29, go_sem]) rfl ?_)
    exact ⟨ret_three3 _ _ _ _ HR.out, hG2.trans hz⟩
  · have HR := Lib.hid (HDM.out.trans (if_neg hz))
    have hb : (z == 0) = false := by simpa using hz
    clear HDM hz
    go_enter Tryd.func29, Tryd.ntmps29
    go_wp2_with fail
    refine (HDo.out _ (RX.out.gr G0) (RY.out.gr G0) (RM.out.gr G0) (HDc.out.gr G0)).mono ?_
    rintro e w1 ⟨rfl, hg1⟩
    have hG := G0.trans hg1
    go_wp2_with fail
    ((try simp only [Exit.inBlock, Exit.then]); refine bodyPost_ret (v := .tuple #[.int .i64 0, .int .i64 0, .int .i64 z]) (by simp [results, Tryd.results29, go_sem]) rfl ?_)
    exact ⟨ret_three3 _ _ _ _ HR.out, hG.alloc _⟩

set_option maxRecDepth 100000 in
set_option maxHeartbeats 4000000 in
theorem applyMove_impl (a q k s u t : Int) (L : Int) (A B : Option Addr) (n c m d : Nat) (xs ys : List Int) (w : World) (hx : xs.length = n) (hy : ys.length = m) (hn : n ≤ 16777216) (hm : m ≤ 16777216) (hnc : n ≤ c) (hmd : m ≤ d) (hX : Reads w w.heap.size A (xs.map vi)) (hY : Reads w w.heap.size B (ys.map vi)) (hD : Dcs w) :
    Calls Tryd.prog 21 #[.agg #[.int .i64 L, .slice A n c, .slice B m d], .agg #[.int .i64 (a), .int .i64 (q)], .agg #[.int .i64 (k), .int .i64 (s), .int .i64 (u), .int .i64 (t)]] w fun e w' => e = .returned (.tuple #[.agg #[.int .i64 ((rmR L xs ys a q [(k, s, u, t)]).1.1), .int .i64 ((rmR L xs ys a q [(k, s, u, t)]).1.2)], .int .i64 (rmR L xs ys a q [(k, s, u, t)]).2]) ∧ Gr w w' := by
  have HRn := Lib.hid (fun (g : Nat) W h1 h2 h3 h4 => runMoves_impl a q L A B n c m d xs ys (some ⟨g, 0, none⟩) 1 1 [(k, s, u, t)] W hx hy hn hm hnc hmd h1 h2 rfl (by omega) h3 h4)
  have RX := Lib.hid hX
  have RY := Lib.hid hY
  have HDc := Lib.hid hD
  obtain ⟨B0, B1, B2, B3, G0⟩ := boxes4 w 42 39 47 39 #[.int .i64 L, .slice A n c, .slice B m d] #[.int .i64 a, .int .i64 q] #[.int .i64 k, .int .i64 s, .int .i64 u, .int .i64 t] #[.int .i64 0, .int .i64 0]
  generalize rmR L xs ys a q [(k, s, u, t)] = R at *
  obtain ⟨⟨x, y⟩, z⟩ := R
  clear hx hy hX hY hD
  go_enter Tryd.func21, Tryd.ntmps21
  go_wp2_with fail
  have hvs : ((((w.alloc (.cells #[.int .i64 L, .slice A n c, .slice B m d] 42)).alloc (.cells #[.int .i64 a, .int .i64 q] 39)).alloc (.cells #[.int .i64 k, .int .i64 s, .int .i64 u, .int .i64 t] 47)).alloc (.cells #[.int .i64 0, .int .i64 0] 39)).heap.size = w.heap.size + 1 + 1 + 1 + 1 := by rw [World.size_alloc, World.size_alloc, World.size_alloc, World.size_alloc]
  generalize (((w.alloc (.cells #[.int .i64 L, .slice A n c, .slice B m d] 42)).alloc (.cells #[.int .i64 a, .int .i64 q] 39)).alloc (.cells #[.int .i64 k, .int .i64 s, .int .i64 u, .int .i64 t] 47)).alloc (.cells #[.int .i64 0, .int .i64 0] 39) = v at *
  have hrd := one_move v k s u t 47
  rw [hvs] at hrd
  have G1 : Gr v (v.alloc (.cells #[.int .i64 k, .int .i64 s, .int .i64 u, .int .i64 t] 47)) := (by repeat (first | with_reducible exact Gr.refl _ | with_reducible refine Gr.alloc ?_ _ | with_reducible refine Gr.gr ?_ _ _ | with_reducible refine Gr.drew ?_ | with_reducible refine Gr.drewN ?_ _))
  refine (HRn.out (w.heap.size + 1 + 1 + 1 + 1) (v.alloc (.cells #[.int .i64 k, .int .i64 s, .int .i64 u, .int .i64 t] 47)) ((RX.out.gr G0).gr G1) ((RY.out.gr G0).gr G1) hrd ((HDc.out.gr G0).gr G1)).mono ?_
  rintro e w2 ⟨rfl, hg2⟩
  have hG := (G0.trans G1).trans hg2
  have R3 := (B3.gr G1).gr hg2
  obtain ⟨c0, c1, cf⟩ := R3.two
  have cl := R3.lt
  obtain ⟨r0, r1, -⟩ := ((R3.set 0 (.int .i64 x)).set 1 (.int .i64 y)).two
  go_wp2_with fail
  ((try simp only [Exit.inBlock, Exit.then]); refine bodyPost_ret (v := .tuple #[.agg #[.int .i64 (x), .int .i64 (y)], .int .i64 z]) (by simp [results, Tryd.results21, go_sem, r0, r1, World.cell?_setCell_same']) rfl ?_)
  exact ⟨rfl, Gr.of_below ((hG.below.setCell (p := ⟨w.heap.size + 1 + 1 + 1, 0, none⟩) (by show w.heap.size ≤ w.heap.size + 1 + 1 + 1; omega) _).setCell (p := ⟨w.heap.size + 1 + 1 + 1, 1, none⟩) (by show w.heap.size ≤ w.heap.size + 1 + 1 + 1; omega) _)⟩
end Go.Proofs.YtefhhigcplemaaaDoor
