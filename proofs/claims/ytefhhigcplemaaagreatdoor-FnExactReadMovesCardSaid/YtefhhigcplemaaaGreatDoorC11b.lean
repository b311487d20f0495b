/- Contracts of chapter 11: the laws' rules (sizes, copies, compared), machines, HasScale; the model's HasScale. -/
import Derived.Test.YtefhhigcplemaaaGreatDoorC11a
import Derived.Test.YtefhhigcplemaaaGreatDoorBk
import Derived.Test.YtefhhigcplemaaaGreatDoorLw
import Derived.Test.YtefhhigcplemaaaGreatDoorLm
namespace Go.Proofs.YtefhhigcplemaaaGreatDoor
open Go.RowKit
set_option linter.unusedVariables false
set_option linter.unusedSimpArgs false

/-- A rule was copied into blocks of the call's own. -/
def MadeR (L : Int) (n m : Nat) (xs ys : List Int) (w : World) (e : Ending) (w' : World) : Prop :=
  ∃ b1 b2 : Nat, e = .returned (.agg #[.int .i64 L, .slice (some ⟨b1, 0, none⟩) n n, .slice (some ⟨b2, 0, none⟩) m m]) ∧ w.heap.size ≤ b1 ∧ w.heap.size ≤ b2 ∧ Row w' b1 2 (xs.map vi) ∧ Row w' b2 2 (ys.map vi) ∧ Below w.heap.size w w'
theorem Blk.trio {w : World} {g : Nat} {t : TypeId} {x y z : Value} (h : Blk w g t #[x, y, z]) : w.cell? ⟨g, 0, none⟩ = some x ∧ w.cell? ⟨g, 1, none⟩ = some y ∧ w.cell? ⟨g, 2, none⟩ = some z ∧ (∀ i, w.frozen? ⟨g, i, none⟩ = false) := by
  have c0 := cell_of_row w g 0 _ _ _ h
  have c1 := cell_of_row w g 1 _ _ _ h
  have c2 := cell_of_row w g 2 _ _ _ h
  simp at c0 c1 c2
  exact ⟨c0, c1, c2, fun i => free_row h i⟩
/-- Three blocks made behind one another. -/
theorem tri_new (w : World) (T U V : TypeId) (a b c : Array Value) :
    Blk (((w.alloc (.cells a T)).alloc (.cells b U)).alloc (.cells c V)) w.heap.size T a ∧ Blk (((w.alloc (.cells a T)).alloc (.cells b U)).alloc (.cells c V)) (w.heap.size + 1) U b ∧ Blk (((w.alloc (.cells a T)).alloc (.cells b U)).alloc (.cells c V)) (w.heap.size + 1 + 1) V c ∧
    Gr w (((w.alloc (.cells a T)).alloc (.cells b U)).alloc (.cells c V)) := by
  have B0 := ((Blk.new w T a).alloc (.cells b U)).alloc (.cells c V)
  have B1 := (Blk.new (w.alloc (.cells a T)) U b).alloc (.cells c V)
  have B2 := Blk.new ((w.alloc (.cells a T)).alloc (.cells b U)) V c
  simp only [World.size_alloc] at B1 B2
  exact ⟨B0, B1, B2, (by repeat (first | with_reducible exact Gr.refl _ | with_reducible refine Gr.alloc ?_ _ | with_reducible refine Gr.gr ?_ _ _ | with_reducible refine Gr.drew ?_ | with_reducible refine Gr.drewN ?_ _))⟩
theorem two_boxes11 (w : World) (T U : TypeId) (a b : Array Value) : Blk ((w.alloc (.cells a T)).alloc (.cells b U)) w.heap.size T a ∧ Blk ((w.alloc (.cells a T)).alloc (.cells b U)) (w.heap.size + 1) U b ∧ Gr w ((w.alloc (.cells a T)).alloc (.cells b U)) := by
  have B0 := (Blk.new w T a).alloc (.cells b U)
  have B1 := Blk.new (w.alloc (.cells a T)) U b
  rw [World.size_alloc] at B1
  exact ⟨B0, B1, (by repeat (first | with_reducible exact Gr.refl _ | with_reducible refine Gr.alloc ?_ _ | with_reducible refine Gr.gr ?_ _ _ | with_reducible refine Gr.drew ?_ | with_reducible refine Gr.drewN ?_ _))⟩
theorem Row.far {w : World} {b : Nat} {t : TypeId} {vs : List Value} (h : Row w b t vs) {a : Addr} (ha : a.block ≠ b) (x : Value) : Row (w.setCell a x) b t vs := (heap_setCell_other w a b x ha.symm).trans h

/-- A rule that was copied, told in every later world. -/
def RuF (L : Int) (n m : Nat) (xs ys : List Int) (v : Value) (w : World) : Prop := ∃ b1 b2 : Nat, v = .agg #[.int .i64 L, .slice (some ⟨b1, 0, none⟩) n n, .slice (some ⟨b2, 0, none⟩) m m] ∧ Row w b1 2 (xs.map vi) ∧ Row w b2 2 (ys.map vi)
theorem RuF.gr {L : Int} {n m : Nat} {xs ys : List Int} (v : Value) (w w' : World) (hg : Gr w w') (h : RuF L n m xs ys v w) : RuF L n m xs ys v w' := by
  obtain ⟨b1, b2, e, h1, h2⟩ := h
  exact ⟨b1, b2, e, h1.gr hg, h2.gr hg⟩
theorem RuF.ty {T : TypeId} (hT : 2 ≠ T) {L : Int} {n m : Nat} {xs ys : List Int} (v : Value) (w w' : World) (hg : Ty T w w') (h : RuF L n m xs ys v w) : RuF L n m xs ys v w' := by
  obtain ⟨b1, b2, e, h1, h2⟩ := h
  exact ⟨b1, b2, e, h1.ty hT hg, h2.ty hT hg⟩
theorem on_spec (b : Bool) (L : Int) (A B : Option Addr) (n c m d : Nat) (xs ys : List Int) (w : World) :
    Calls Tryz.prog 103 #[.agg #[.int .i64 L, .slice A n c, .slice B m d], .bool b] w fun e w' => e = .returned (if b = true then .slice B m d else .slice A n c) ∧ Gr w w' := by
  cases b
  all_goals
    go_enter Tryz.func103, Tryz.ntmps103
    go_wp2
    go_ret
    exact ⟨rfl, (by repeat (first | with_reducible exact Gr.refl _ | with_reducible refine Gr.alloc ?_ _ | with_reducible refine Gr.gr ?_ _ _ | with_reducible refine Gr.drew ?_ | with_reducible refine Gr.drewN ?_ _))⟩
theorem hs_spec (b : Bool) (s : Int) (L : Int) (A B : Option Addr) (n c m d : Nat) (xs ys : List Int) (w : World) (hx : xs.length = n) (hy : ys.length = m) (hn : n ≤ 16777216) (hm : m ≤ 16777216) (hnc : n ≤ c) (hmd : m ≤ d) (hX : Reads w w.heap.size A (xs.map vi)) (hY : Reads w w.heap.size B (ys.map vi)) :
    Calls Tryz.prog 48 #[.agg #[.int .i64 L, .slice A n c, .slice B m d], .bool b, .int .i64 s] w fun e w' => e = .returned (.tuple #[.bool (hsR L xs ys b s).1, .int .i64 (hsR L xs ys b s).2]) ∧ Gr w w' := by
  have HR := Lib.hid (fun W h h' => rule_spec L A B n c m d xs ys W hx hy hn hm hnc hmd h h')
  have HO := Lib.hid (fun W => on_spec b L A B n c m d xs ys W)
  have HA := Lib.hid (fun W h => has_spec A n c xs s W hx hn h)
  have HB := Lib.hid (fun W h => has_spec B m d ys s W hy hm h)
  have RX := Lib.hid hX
  have RY := Lib.hid hY
  clear hx hy hX hY
  rcases rlB_tf L xs ys with h | h
  · have H := Lib.hid (hsR_ok L xs ys b s h)
    rw [h] at HR
    clear h
    cases b
    all_goals
      go_enter Tryz.func48, Tryz.ntmps48
      go_wp2_with (first | (go_at_call 92; (with_reducible refine (HR.out _ (RX.out.gr (by repeat (first | with_reducible exact Gr.refl _ | with_reducible refine Gr.alloc ?_ _ | with_reducible refine Gr.gr ?_ _ _ | with_reducible refine Gr.drew ?_ | with_reducible refine Gr.drewN ?_ _))) (RY.out.gr (by repeat (first | with_reducible exact Gr.refl _ | with_reducible refine Gr.alloc ?_ _ | with_reducible refine Gr.gr ?_ _ _ | with_reducible refine Gr.drew ?_ | with_reducible refine Gr.drewN ?_ _)))).mono ?_); rintro e w' ⟨rfl, k, os, rfl⟩) | (go_at_call 103; (with_reducible refine (HO.out _).mono ?_); rintro e w' ⟨rfl, k2, os2, rfl⟩) | (go_at_call 102; (with_reducible refine (HA.out _ (RX.out.gr (by repeat (first | with_reducible exact Gr.refl _ | with_reducible refine Gr.alloc ?_ _ | with_reducible refine Gr.gr ?_ _ _ | with_reducible refine Gr.drew ?_ | with_reducible refine Gr.drewN ?_ _)))).mono ?_); rintro e w' ⟨rfl, rfl⟩) | (go_at_call 102; (with_reducible refine (HB.out _ (RY.out.gr (by repeat (first | with_reducible exact Gr.refl _ | with_reducible refine Gr.alloc ?_ _ | with_reducible refine Gr.gr ?_ _ _ | with_reducible refine Gr.drew ?_ | with_reducible refine Gr.drewN ?_ _)))).mono ?_); rintro e w' ⟨rfl, rfl⟩))
      go_ret2
      exact ⟨ret_bi (by rw [H.out]; rfl) (by rw [H.out]), (by repeat (first | with_reducible exact Gr.refl _ | with_reducible refine Gr.alloc ?_ _ | with_reducible refine Gr.gr ?_ _ _ | with_reducible refine Gr.drew ?_ | with_reducible refine Gr.drewN ?_ _))⟩
  · have H := Lib.hid (hsR_no L xs ys b s h)
    rw [h] at HR
    clear h
    go_enter Tryz.func48, Tryz.ntmps48
    go_wp2_with (go_at_call 92; (with_reducible refine (HR.out _ (RX.out.gr (by repeat (first | with_reducible exact Gr.refl _ | with_reducible refine Gr.alloc ?_ _ | with_reducible refine Gr.gr ?_ _ _ | with_reducible refine Gr.drew ?_ | with_reducible refine Gr.drewN ?_ _))) (RY.out.gr (by repeat (first | with_reducible exact Gr.refl _ | with_reducible refine Gr.alloc ?_ _ | with_reducible refine Gr.gr ?_ _ _ | with_reducible refine Gr.drew ?_ | with_reducible refine Gr.drewN ?_ _)))).mono ?_); rintro e w' ⟨rfl, k, os, rfl⟩)
    go_ret2
    exact ⟨ret_bi (by rw [H.out]) (by rw [H.out]), (by repeat (first | with_reducible exact Gr.refl _ | with_reducible refine Gr.alloc ?_ _ | with_reducible refine Gr.gr ?_ _ _ | with_reducible refine Gr.drew ?_ | with_reducible refine Gr.drewN ?_ _))⟩
end Go.Proofs.YtefhhigcplemaaaGreatDoor
