/- Contracts of chapter 11: the laws' rules (sizes, copies, compared), machines, HasScale; the model's HasScale. -/
import Derived.Test.YtefhhigcplemaaaDoorC11a
import Derived.Test.YtefhhigcplemaaaDoorBk
import Derived.Test.YtefhhigcplemaaaDoorLw
import Derived.Test.YtefhhigcplemaaaDoorLm
namespace Go.Proofs.YtefhhigcplemaaaDoor
open Go.RowKit
set_option linter.unusedVariables false
set_option linter.unusedSimpArgs false

theorem szInts_any (A : Option Addr) (n c : Nat) (l : Int) (w : World) (h1 : 0 ≤ l) (h2 : l ≤ 1048576) (hn : n ≤ 9223372036854775807) :
    Calls Tryd.prog 41 #[.slice A n c, .int .i64 l] w fun e w' => e = .returned (.int .i64 (if l - n < 0 then -1 else l - n)) ∧ w = w' := by
  by_cases h : l - n < 0
  · rw [if_pos h]
    go_enter Tryd.func41, Tryd.ntmps41
    go_wp2
    go_ret
    exact ⟨rfl, rfl⟩
  · rw [if_neg h]
    go_enter Tryd.func41, Tryd.ntmps41
    go_wp2
    go_ret
    exact ⟨rfl, rfl⟩
theorem szRule_ok (L : Int) (A B : Option Addr) (n c m d : Nat) (xs ys : List Int) (w : World) (h : n + m ≤ 1048576) :
    Calls Tryd.prog 16 #[.agg #[.int .i64 L, .slice A n c, .slice B m d], .int .i64 1048576] w fun e w' => e = .returned (.int .i64 (1048576 - n - m)) ∧ Gr w w' := by
  have HA := Lib.hid (fun W => szInts_any A n c 1048576 W (by omega) (by omega) (by omega))
  have HB := Lib.hid (fun W => szInts_any B m d (1048576 - n) W (by omega) (by omega) (by omega))
  rw [if_neg (by omega)] at HA HB
  go_enter Tryd.func16, Tryd.ntmps16
  go_wp2_with (first | (go_at_call 41; (with_reducible refine (HA.out _).mono ?_); rintro e w' ⟨rfl, rfl⟩) | (go_at_call 41; (with_reducible refine (HB.out _).mono ?_); rintro e w' ⟨rfl, rfl⟩))
  go_ret
  exact ⟨rfl, (by repeat (first | with_reducible exact Gr.refl _ | with_reducible refine Gr.alloc ?_ _ | with_reducible refine Gr.gr ?_ _ _ | with_reducible refine Gr.drew ?_ | with_reducible refine Gr.drewN ?_ _))⟩
theorem szRule_no (L : Int) (A B : Option Addr) (n c m d : Nat) (xs ys : List Int) (w : World) (h : ¬ n + m ≤ 1048576) (hn : n ≤ 9223372036854775807) (hm : m ≤ 9223372036854775807) :
    Calls Tryd.prog 16 #[.agg #[.int .i64 L, .slice A n c, .slice B m d], .int .i64 1048576] w fun e w' => e = .returned (.int .i64 (-1)) ∧ Gr w w' := by
  have HA := Lib.hid (fun W => szInts_any A n c 1048576 W (by omega) (by omega) (by omega))
  by_cases h1 : n ≤ 1048576
  · have HB := Lib.hid (fun W => szInts_any B m d (1048576 - n) W (by omega) (by omega) (by omega))
    rw [if_neg (by omega)] at HA
    rw [if_pos (by omega)] at HB
    go_enter Tryd.func16, Tryd.ntmps16
    go_wp2_with (first | (go_at_call 41; (with_reducible refine (HA.out _).mono ?_); rintro e w' ⟨rfl, rfl⟩) | (go_at_call 41; (with_reducible refine (HB.out _).mono ?_); rintro e w' ⟨rfl, rfl⟩))
    go_ret
    exact ⟨rfl, (by repeat (first | with_reducible exact Gr.refl _ | with_reducible refine Gr.alloc ?_ _ | with_reducible refine Gr.gr ?_ _ _ | with_reducible refine Gr.drew ?_ | with_reducible refine Gr.drewN ?_ _))⟩
  · rw [if_pos (by omega)] at HA
    go_enter Tryd.func16, Tryd.ntmps16
    go_wp2_with (go_at_call 41; (with_reducible refine (HA.out _).mono ?_); rintro e w' ⟨rfl, rfl⟩)
    go_ret
    exact ⟨rfl, (by repeat (first | with_reducible exact Gr.refl _ | with_reducible refine Gr.alloc ?_ _ | with_reducible refine Gr.gr ?_ _ _ | with_reducible refine Gr.drew ?_ | with_reducible refine Gr.drewN ?_ _))⟩

/-- A rule was copied into blocks of the call's own. -/
def MadeR (L : Int) (n m : Nat) (xs ys : List Int) (w : World) (e : Ending) (w' : World) : Prop :=
  ∃ b1 b2 : Nat, e = .returned (.agg #[.int .i64 L, .slice (some ⟨b1, 0, none⟩) n n, .slice (some ⟨b2, 0, none⟩) m m]) ∧ w.heap.size ≤ b1 ∧ w.heap.size ≤ b2 ∧ Row w' b1 2 (xs.map vi) ∧ Row w' b2 2 (ys.map vi) ∧ Below w.heap.size w w'
theorem Blk.trio {w : World} {g : Nat} {t : TypeId} {x y z : Value} (h : Blk w g t #[x, y, z]) : w.cell? ⟨g, 0, none⟩ = some x ∧ w.cell? ⟨g, 1, none⟩ = some y ∧ w.cell? ⟨g, 2, none⟩ = some z ∧ (∀ i, w.frozen? ⟨g, i, none⟩ = false) := by
  have c0 := cell_of_row w g 0 _ _ _ h
  have c1 := cell_of_row w g 1 _ _ _ h
  have c2 := cell_of_row w g 2 _ _ _ h
  simp at c0 c1 c2
  exact ⟨c0, c1, c2, fun i => free_row h i⟩
/-- Three blocks made behind one another. -/
theorem tri_new (w : World) (T U V : TypeId) (a b c : Array Value) :
    Blk (((w.alloc (.cells a T)).alloc (.cells b U)).alloc (.cells c V)) w.heap.size T a ∧ Blk (((w.alloc (.cells a T)).alloc (.cells b U)).alloc (.cells c V)) (w.heap.size + 1) U b ∧ Blk (((w.alloc (.cells a T)).alloc (.cells b U)).alloc (.cells c V)) (w.heap.size + 1 + 1) V c ∧
    Gr w (((w.alloc (.cells a T)).alloc (.cells b U)).alloc (.cells c V)) := by
  have B0 := ((Blk.new w T a).alloc (.cells b U)).alloc (.cells c V)
  have B1 := (Blk.new (w.alloc (.cells a T)) U b).alloc (.cells c V)
  have B2 := Blk.new ((w.alloc (.cells a T)).alloc (.cells b U)) V c
  simp only [World.size_alloc] at B1 B2
  exact ⟨B0, B1, B2, (by repeat (first | with_reducible exact Gr.refl _ | with_reducible refine Gr.alloc ?_ _ | with_reducible refine Gr.gr ?_ _ _ | with_reducible refine Gr.drew ?_ | with_reducible refine Gr.drewN ?_ _))⟩
theorem two_boxes11 (w : World) (T U : TypeId) (a b : Array Value) : Blk ((w.alloc (.cells a T)).alloc (.cells b U)) w.heap.size T a ∧ Blk ((w.alloc (.cells a T)).alloc (.cells b U)) (w.heap.size + 1) U b ∧ Gr w ((w.alloc (.cells a T)).alloc (.cells b U)) := by
  have B0 := (Blk.new w T a).alloc (.cells b U)
  have B1 := Blk.new (w.alloc (.cells a T)) U b
  rw [World.size_alloc] at B1
  exact ⟨B0, B1, (by repeat (first | with_reducible exact Gr.refl _ | with_reducible refine Gr.alloc ?_ _ | with_reducible refine Gr.gr ?_ _ _ | with_reducible refine Gr.drew ?_ | with_reducible refine Gr.drewN ?_ _))⟩
theorem Row.far {w : World} {b : Nat} {t : TypeId} {vs : List Value} (h : Row w b t vs) {a : Addr} (ha : a.block ≠ b) (x : Value) : Row (w.setCell a x) b t vs := (heap_setCell_other w a b x ha.symm).trans h

set_option maxHeartbeats 2000000 in
theorem toRule_any (L : Int) (A B : Option Addr) (n c m d : Nat) (xs ys : List Int) (w : World) (hx : xs.length = n) (hy : ys.length = m) (hn : n ≤ 1048576) (hm : m ≤ 1048576) (hX : Reads w w.heap.size A (xs.map vi)) (hY : Reads w w.heap.size B (ys.map vi)) :
    Calls Tryd.prog 18 #[.agg #[.int .i64 L, .slice A n c, .slice B m d]] w (MadeR L n m xs ys w) := by
  have HA := Lib.hid (fun W h => toInts_any A n c xs W hx hn h)
  have HB := Lib.hid (fun W h => toInts_any B m d ys W hy hm h)
  have HL := Lib.hid (show (xs.map vi).length = n by rw [List.length_map]; exact hx)
  have HM := Lib.hid (show (ys.map vi).length = m by rw [List.length_map]; exact hy)
  have HX := Lib.hid hX
  have HY := Lib.hid hY
  clear hx hy hX hY
  go_enter Tryd.func18, Tryd.ntmps18
  go_wp2_with fail
  obtain ⟨P0, P1, P2, hV⟩ := tri_new w 31 42 42 #[.int .i64 L, .slice A n c, .slice B m d] #[.int .i64 0, .slice none 0 0, .slice none 0 0] #[.int .i64 L, .slice none 0 0, .slice none 0 0]
  generalize ((w.alloc (.cells #[.int .i64 L, .slice A n c, .slice B m d] 31)).alloc (.cells #[.int .i64 0, .slice none 0 0, .slice none 0 0] 42)).alloc (.cells #[.int .i64 L, .slice none 0 0, .slice none 0 0] 42) = v at *
  refine (HA.out v (HX.out.gr hV)).mono ?_
  rintro e v1 ⟨b1, rfl, hb1, hr1, hl1⟩
  rw [HL.out]
  have hs2 := P2.lt
  replace P0 := P0.below hl1 P0.lt
  replace P1 := P1.below hl1 P1.lt
  replace P2 := P2.below hl1 P2.lt
  obtain ⟨p0, p1, p2, pf⟩ := P2.trio
  obtain ⟨q0, q1, q2, qf⟩ := P0.trio
  have pl := P2.lt
  have ql := P0.lt
  have hW1 := Lib.hid (hV.below.trans (hl1.mono hV.below.size))
  clear hV hl1 HA
  go_wp2_with fail
  replace P0 := P0.far (a := ⟨w.heap.size + 1 + 1, 1, none⟩) (by simp; omega) (.slice (some ⟨b1, 0, none⟩) n n)
  replace P1 := P1.far (a := ⟨w.heap.size + 1 + 1, 1, none⟩) (by simp) (.slice (some ⟨b1, 0, none⟩) n n)
  replace P2 := P2.set 1 (.slice (some ⟨b1, 0, none⟩) n n)
  replace hr1 := hr1.far (a := ⟨w.heap.size + 1 + 1, 1, none⟩) (by simp; omega) (.slice (some ⟨b1, 0, none⟩) n n)
  have hW2 := Lib.hid (hW1.out.setCell (p := ⟨w.heap.size + 1 + 1, 1, none⟩) (by simp; omega) (.slice (some ⟨b1, 0, none⟩) n n))
  simp only [Array.setIfInBounds, List.size_toArray, List.length_cons, List.length_nil] at P2
  clear p0 p1 p2 pf q0 q1 q2 qf pl ql hW1
  generalize v1.setCell ⟨w.heap.size + 1 + 1, 1, none⟩ (.slice (some ⟨b1, 0, none⟩) n n) = v2 at *
  refine (HB.out v2 (HY.out.below hW2.out)).mono ?_
  rintro e v3 ⟨b2, rfl, hb2, hr2, hl2⟩
  rw [HM.out]
  replace hr1 := hr1.below hl2 hr1.lt
  have hP2 := P2.lt
  replace P1 := P1.below hl2 P1.lt
  replace P2 := P2.below hl2 P2.lt
  have hW3 := Lib.hid (hW2.out.trans (hl2.mono hW2.out.size))
  obtain ⟨p0, p1, p2, pf⟩ := P2.trio
  obtain ⟨q0, q1, q2, qf⟩ := P1.trio
  have pl := P2.lt
  have ql := P1.lt
  clear hl2 P0 P1 P2 hW2 HB
  go_wp2_with fail
  ((try simp only [Exit.inBlock, Exit.then]); refine bodyPost_ret (v := .agg #[.int .i64 L, .slice (some ⟨b1, 0, none⟩) n n, .slice (some ⟨b2, 0, none⟩) m m]) (by simp [results, Tryd.results18, go_sem, q0, q1, q2, World.cell?_setCell_same']) rfl ?_)
  refine ⟨b1, b2, rfl, by omega, by omega, ?_, ?_, ?_⟩
  · exact (((hr1.far (by simp; omega) _).far (by simp; omega) _).far (by simp; omega) _).far (by simp; omega) _
  · exact (((hr2.far (by simp; omega) _).far (by simp; omega) _).far (by simp; omega) _).far (by simp; omega) _
  · exact (((hW3.out.setCell (by simp; omega) _).setCell (by simp) _).setCell (by simp) _).setCell (by simp) _

theorem eqRule_same (L : Int) (A B C D : Option Addr) (n c m d c' d' : Nat) (xs ys : List Int) (w : World) (hx : xs.length = n) (hy : ys.length = m) (hn : n ≤ 16777216) (hm : m ≤ 16777216) (hX : Reads w w.heap.size A (xs.map vi)) (hY : Reads w w.heap.size B (ys.map vi)) (hX' : Reads w w.heap.size C (xs.map vi)) (hY' : Reads w w.heap.size D (ys.map vi)) :
    Calls Tryd.prog 23 #[.agg #[.int .i64 L, .slice A n c, .slice B m d], .agg #[.int .i64 L, .slice C n c', .slice D m d']] w fun e w' => e = .returned (.bool true) ∧ Gr w w' := by
  have HA := Lib.hid (fun W h h' => eqInts_same A C n c c' xs W hx hn h h')
  have HB := Lib.hid (fun W h h' => eqInts_same B D m d d' ys W hy hm h h')
  have R1 := Lib.hid hX
  have R2 := Lib.hid hY
  have R3 := Lib.hid hX'
  have R4 := Lib.hid hY'
  clear hx hy hX hY hX' hY'
  go_enter Tryd.func23, Tryd.ntmps23
  go_wp2_with (first | (go_at_call 44; (with_reducible refine (HA.out _ (R1.out.gr (by repeat (first | with_reducible exact Gr.refl _ | with_reducible refine Gr.alloc ?_ _ | with_reducible refine Gr.gr ?_ _ _ | with_reducible refine Gr.drew ?_ | with_reducible refine Gr.drewN ?_ _))) (R3.out.gr (by repeat (first | with_reducible exact Gr.refl _ | with_reducible refine Gr.alloc ?_ _ | with_reducible refine Gr.gr ?_ _ _ | with_reducible refine Gr.drew ?_ | with_reducible refine Gr.drewN ?_ _)))).mono ?_); rintro e w' ⟨rfl, k, os, rfl⟩) | (go_at_call 44; (with_reducible refine (HB.out _ (R2.out.gr (by repeat (first | with_reducible exact Gr.refl _ | with_reducible refine Gr.alloc ?_ _ | with_reducible refine Gr.gr ?_ _ _ | with_reducible refine Gr.drew ?_ | with_reducible refine Gr.drewN ?_ _))) (R4.out.gr (by repeat (first | with_reducible exact Gr.refl _ | with_reducible refine Gr.alloc ?_ _ | with_reducible refine Gr.gr ?_ _ _ | with_reducible refine Gr.drew ?_ | with_reducible refine Gr.drewN ?_ _)))).mono ?_); rintro e w' ⟨rfl, k2, os2, rfl⟩))
  go_ret
  exact ⟨rfl, (by repeat (first | with_reducible exact Gr.refl _ | with_reducible refine Gr.alloc ?_ _ | with_reducible refine Gr.gr ?_ _ _ | with_reducible refine Gr.drew ?_ | with_reducible refine Gr.drewN ?_ _))⟩

/-- A rule that was copied, told in every later world. -/
def RuF (L : Int) (n m : Nat) (xs ys : List Int) (v : Value) (w : World) : Prop := ∃ b1 b2 : Nat, v = .agg #[.int .i64 L, .slice (some ⟨b1, 0, none⟩) n n, .slice (some ⟨b2, 0, none⟩) m m] ∧ Row w b1 2 (xs.map vi) ∧ Row w b2 2 (ys.map vi)
theorem RuF.gr {L : Int} {n m : Nat} {xs ys : List Int} (v : Value) (w w' : World) (hg : Gr w w') (h : RuF L n m xs ys v w) : RuF L n m xs ys v w' := by
  obtain ⟨b1, b2, e, h1, h2⟩ := h
  exact ⟨b1, b2, e, h1.gr hg, h2.gr hg⟩
theorem RuF.ty {T : TypeId} (hT : 2 ≠ T) {L : Int} {n m : Nat} {xs ys : List Int} (v : Value) (w w' : World) (hg : Ty T w w') (h : RuF L n m xs ys v w) : RuF L n m xs ys v w' := by
  obtain ⟨b1, b2, e, h1, h2⟩ := h
  exact ⟨b1, b2, e, h1.ty hT hg, h2.ty hT hg⟩
theorem toRule_ever (L : Int) (A B : Option Addr) (n c m d : Nat) (xs ys : List Int) (w : World) (hx : xs.length = n) (hy : ys.length = m) (hn : n ≤ 1048576) (hm : m ≤ 1048576) (hX : Reads w w.heap.size A (xs.map vi)) (hY : Reads w w.heap.size B (ys.map vi)) :
    Calls Tryd.prog 18 #[.agg #[.int .i64 L, .slice A n c, .slice B m d]] w fun e w' => ∃ v, e = .returned v ∧ RuF L n m xs ys v w' ∧ Gr w w' :=
  (toRule_any L A B n c m d xs ys w hx hy hn hm hX hY).mono fun e w' ⟨b1, b2, he, _, _, h1, h2, hb⟩ => ⟨_, he, ⟨b1, b2, rfl, h1, h2⟩, Gr.of_below hb⟩

theorem on_spec (b : Bool) (L : Int) (A B : Option Addr) (n c m d : Nat) (xs ys : List Int) (w : World) :
    Calls Tryd.prog 71 #[.agg #[.int .i64 L, .slice A n c, .slice B m d], .bool b] w fun e w' => e = .returned (if b = true then .slice B m d else .slice A n c) ∧ Gr w w' := by
  cases b
  all_goals
    go_enter Tryd.func71, Tryd.ntmps71
    go_wp2
    go_ret
    exact ⟨rfl, (by repeat (first | with_reducible exact Gr.refl _ | with_reducible refine Gr.alloc ?_ _ | with_reducible refine Gr.gr ?_ _ _ | with_reducible refine Gr.drew ?_ | with_reducible refine Gr.drewN ?_ _))⟩
end Go.Proofs.YtefhhigcplemaaaDoor
