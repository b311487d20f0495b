/- Contracts of chapter 9: the label of a tick; whether the labels of two ticks collide. -/
import Derived.Test.YtggflladheemoaaDoorC09a
import Derived.BigQuiet
namespace Go.Proofs.YtggflladheemoaaDoor
open Go.RowKit
set_option linter.unusedVariables false
set_option linter.unusedSimpArgs false

theorem ret_bi9 {a b : Bool} {c d : Int} (h : a = b) (h' : c = d) : Ending.returned (.tuple #[.bool a, .int .i64 c]) = .returned (.tuple #[.bool b, .int .i64 d]) := by rw [h, h']
def ltE (z : P3) : Int := if lbIs z then 0 else 2
def ltV (z : P3) : ByteArray := if lbIs z then lblB z.1 else ⟨#[]⟩
def dcE (y z : P3) : Int := if lbIs y ∧ lbIs z then 0 else 2
def dcV (y z : P3) : Bool := if lbIs y ∧ lbIs z then coT y z else false
theorem lbE_one (z : P3) : lbE [z] = ltE z := by
  unfold lbE ltE allL
  by_cases h : lbIs z <;> simp [h]
theorem lbE_two (y z : P3) : lbE [y, z] = dcE y z := by
  unfold lbE dcE allL
  by_cases h : lbIs y <;> by_cases h2 : lbIs z <;> simp [h, h2]
theorem reads_new (W : World) (T : TypeId) (vs : List Value) (b : Nat) (hb : b = W.heap.size) : Reads (W.alloc (.cells vs.toArray T)) (W.alloc (.cells vs.toArray T)).heap.size (some ⟨b, 0, none⟩) vs := by
  subst hb
  exact (Row.new W T vs).reads

set_option maxRecDepth 100000 in
theorem lt_impl (z : P3) (w : World) (ht : Tab w) :
    Calls Tryd.prog 62 #[tkV z] w fun e w' => e = .returned (.tuple #[.string (ltV z), .int .i64 (ltE z)]) ∧ Gr w w' := by
  have HT := Lib.hid ht
  have HE := lbE_one z
  have HL := fun w (h : Tab w) (hz : lbIs z) => label_impl z.1 z.2.1 z.2.2 w h hz.1.1 hz.1.2
  have HV := Lib.hid (show ltV z = if lbIs z then lblB z.1 else ⟨#[]⟩ from rfl)
  have HE2 := Lib.hid (show ltE z = if lbIs z then 0 else 2 from rfl)
  have HLE := fun (W : World) (b : Nat) (hb : b = W.heap.size) => lbcode_impl (some ⟨b, 0, none⟩) 1 1 [z] (W.alloc (.cells #[.int .i64 z.1, .int .i64 z.2.1, .int .i64 z.2.2] 60)) rfl (by omega) (reads_new W _ (cells3 [z]) b hb)
  rw [HE] at HLE
  obtain ⟨a, b, c⟩ := z
  simp only at HL HLE
  replace HL := Lib.hid HL
  replace HLE := Lib.hid HLE
  clear HE ht
  by_cases h : lbIs (a, b, c)
  · rw [if_pos h] at HV HE2
    rw [HE2.out] at HLE
    replace HL := Lib.hid (fun w ht => HL.out w ht h)
    generalize ltV (a, b, c) = s at *
    generalize ltE (a, b, c) = cd at *
    clear h
    go_enter Tryd.func62, Tryd.ntmps62
    go_wp2_with fail
    refine (HLE.out _ _ (by simp)).mono ?_
    rintro e w' ⟨rfl, k, os, rfl⟩
    go_wp2_with fail
    refine (HL.out _ (HT.out.gr (by repeat (first | with_reducible exact Gr.refl _ | with_reducible refine Gr.alloc ?_ _ | with_reducible refine Gr.gr ?_ _ _ | with_reducible refine Gr.drew ?_ | with_reducible refine Gr.drewN ?_ _)))).mono ?_
    rintro e w' ⟨rfl, k2, os2, rfl⟩
    go_wp2_with fail
    go_ret2
    exact ⟨ret_sc HV.out.symm HE2.out.symm, (by repeat (first | with_reducible exact Gr.refl _ | with_reducible refine Gr.alloc ?_ _ | with_reducible refine Gr.gr ?_ _ _ | with_reducible refine Gr.drew ?_ | with_reducible refine Gr.drewN ?_ _))⟩
  · rw [if_neg h] at HV HE2
    rw [HE2.out] at HLE
    generalize ltV (a, b, c) = s at *
    generalize ltE (a, b, c) = cd at *
    clear h HL
    go_enter Tryd.func62, Tryd.ntmps62
    go_wp2_with fail
    refine (HLE.out _ _ (by simp)).mono ?_
    rintro e w' ⟨rfl, k, os, rfl⟩
    go_wp2_with fail
    go_ret2
    exact ⟨ret_sc HV.out.symm HE2.out.symm, (by repeat (first | with_reducible exact Gr.refl _ | with_reducible refine Gr.alloc ?_ _ | with_reducible refine Gr.gr ?_ _ _ | with_reducible refine Gr.drew ?_ | with_reducible refine Gr.drewN ?_ _))⟩
set_option maxRecDepth 100000 in
theorem lt_spec (z : P3) (w : World) :
    Calls Tryd.prog 63 #[tkV z] w fun e w' => e = .returned (.tuple #[.string (ltV z), .int .i64 (ltE z)]) ∧ Gr w w' := by
  have HL := fun w (hz : lbIs z) => lbText_spec z.1 z.2.1 z.2.2 w hz.1.1 hz.1.2
  have HV := Lib.hid (show ltV z = if lbIs z then lblB z.1 else ⟨#[]⟩ from rfl)
  have HE2 := Lib.hid (show ltE z = if lbIs z then 0 else 2 from rfl)
  have HI := fun w => lbIs_any z w
  obtain ⟨a, b, c⟩ := z
  simp only [tkV] at HL HI
  by_cases h : lbIs (a, b, c)
  · rw [if_pos h] at HV HE2
    replace HL := Lib.hid (fun w => HL w h)
    rw [decide_eq_true h] at HI
    replace HI := Lib.hid HI
    generalize ltV (a, b, c) = s at *
    generalize ltE (a, b, c) = cd at *
    clear h
    go_enter Tryd.func63, Tryd.ntmps63
    go_wp2_with fail
    refine (HI.out _).mono ?_
    rintro e w' ⟨rfl, k, os, rfl⟩
    go_wp2_with fail
    refine (HL.out _).mono ?_
    rintro e w' ⟨rfl, k2, os2, rfl⟩
    go_wp2_with fail
    go_ret2
    exact ⟨ret_sc HV.out.symm HE2.out.symm, (by repeat (first | with_reducible exact Gr.refl _ | with_reducible refine Gr.alloc ?_ _ | with_reducible refine Gr.gr ?_ _ _ | with_reducible refine Gr.drew ?_ | with_reducible refine Gr.drewN ?_ _))⟩
  · rw [if_neg h] at HV HE2
    rw [decide_eq_false h] at HI
    replace HI := Lib.hid HI
    generalize ltV (a, b, c) = s at *
    generalize ltE (a, b, c) = cd at *
    clear h HL
    go_enter Tryd.func63, Tryd.ntmps63
    go_wp2_with fail
    refine (HI.out _).mono ?_
    rintro e w' ⟨rfl, k, os, rfl⟩
    go_wp2_with fail
    go_ret2
    exact ⟨ret_sc HV.out.symm HE2.out.symm, (by repeat (first | with_reducible exact Gr.refl _ | with_reducible refine Gr.alloc ?_ _ | with_reducible refine Gr.gr ?_ _ _ | with_reducible refine Gr.drew ?_ | with_reducible refine Gr.drewN ?_ _))⟩

set_option maxRecDepth 100000 in
theorem dc_impl (y z : P3) (w : World) (ht : Tab w) :
    Calls Tryd.prog 59 #[tkV y, tkV z] w fun e w' => e = .returned (.tuple #[.bool (dcV y z), .int .i64 (dcE y z)]) ∧ Gr w w' := by
  have HT := Lib.hid ht
  have HE := lbE_two y z
  have HL := fun w (h : Tab w) (hy : lbIs y ∧ lbIs z) => collide_impl y z w h hy.1 hy.2
  have HV := Lib.hid (show dcV y z = if lbIs y ∧ lbIs z then coT y z else false from rfl)
  have HE2 := Lib.hid (show dcE y z = if lbIs y ∧ lbIs z then 0 else 2 from rfl)
  have HLE := fun (W : World) (b : Nat) (hb : b = W.heap.size) => lbcode_impl (some ⟨b, 0, none⟩) 2 2 [y, z] (W.alloc (.cells #[.int .i64 y.1, .int .i64 y.2.1, .int .i64 y.2.2, .int .i64 z.1, .int .i64 z.2.1, .int .i64 z.2.2] 60)) rfl (by omega) (reads_new W _ (cells3 [y, z]) b hb)
  rw [HE] at HLE
  obtain ⟨a, b, c⟩ := y
  obtain ⟨a', b', c'⟩ := z
  simp only [tkV] at HL HLE
  replace HLE := Lib.hid HLE
  clear HE ht
  by_cases h : lbIs (a, b, c) ∧ lbIs (a', b', c')
  · rw [if_pos h] at HV HE2
    rw [HE2.out] at HLE
    replace HL := Lib.hid (fun w ht => HL w ht h)
    generalize dcV (a, b, c) (a', b', c') = s at *
    generalize dcE (a, b, c) (a', b', c') = cd at *
    generalize coT (a, b, c) (a', b', c') = cb at *
    clear h
    go_enter Tryd.func59, Tryd.ntmps59
    go_wp2_with fail
    refine (HLE.out _ _ (by simp)).mono ?_
    rintro e w' ⟨rfl, k, os, rfl⟩
    go_wp2_with fail
    refine (HL.out _ (HT.out.gr (by repeat (first | with_reducible exact Gr.refl _ | with_reducible refine Gr.alloc ?_ _ | with_reducible refine Gr.gr ?_ _ _ | with_reducible refine Gr.drew ?_ | with_reducible refine Gr.drewN ?_ _)))).mono ?_
    rintro e w' ⟨rfl, k2, os2, rfl⟩
    go_wp2_with fail
    go_ret2
    exact ⟨ret_bi9 HV.out.symm HE2.out.symm, (by repeat (first | with_reducible exact Gr.refl _ | with_reducible refine Gr.alloc ?_ _ | with_reducible refine Gr.gr ?_ _ _ | with_reducible refine Gr.drew ?_ | with_reducible refine Gr.drewN ?_ _))⟩
  · rw [if_neg h] at HV HE2
    rw [HE2.out] at HLE
    generalize dcV (a, b, c) (a', b', c') = s at *
    generalize dcE (a, b, c) (a', b', c') = cd at *
    clear h HL
    go_enter Tryd.func59, Tryd.ntmps59
    go_wp2_with fail
    refine (HLE.out _ _ (by simp)).mono ?_
    rintro e w' ⟨rfl, k, os, rfl⟩
    go_wp2_with fail
    go_ret2
    exact ⟨ret_bi9 HV.out.symm HE2.out.symm, (by repeat (first | with_reducible exact Gr.refl _ | with_reducible refine Gr.alloc ?_ _ | with_reducible refine Gr.gr ?_ _ _ | with_reducible refine Gr.drew ?_ | with_reducible refine Gr.drewN ?_ _))⟩
set_option maxRecDepth 100000 in
theorem dc_spec (y z : P3) (w : World) :
    Calls Tryd.prog 60 #[tkV y, tkV z] w fun e w' => e = .returned (.tuple #[.bool (dcV y z), .int .i64 (dcE y z)]) ∧ Gr w w' := by
  have HL := fun w (hy : lbIs y) (hz : lbIs z) => collide_spec y z w hy hz
  have HV := Lib.hid (show dcV y z = if lbIs y ∧ lbIs z then coT y z else false from rfl)
  have HE2 := Lib.hid (show dcE y z = if lbIs y ∧ lbIs z then 0 else 2 from rfl)
  have HY := fun w => lbIs_any y w
  have HZ := fun w => lbIs_any z w
  obtain ⟨a, b, c⟩ := y
  obtain ⟨a', b', c'⟩ := z
  simp only [tkV] at HL HY HZ
  by_cases h : lbIs (a, b, c)
  rotate_left
  · rw [if_neg (fun k => h k.1)] at HV HE2
    rw [decide_eq_false h] at HY
    replace HY := Lib.hid HY
    generalize dcV (a, b, c) (a', b', c') = s at *
    generalize dcE (a, b, c) (a', b', c') = cd at *
    clear h HL HZ
    go_enter Tryd.func60, Tryd.ntmps60
    go_wp2_with fail
    refine (HY.out _).mono ?_
    rintro e w' ⟨rfl, k, os, rfl⟩
    go_wp2_with fail
    go_ret2
    exact ⟨ret_bi9 HV.out.symm HE2.out.symm, (by repeat (first | with_reducible exact Gr.refl _ | with_reducible refine Gr.alloc ?_ _ | with_reducible refine Gr.gr ?_ _ _ | with_reducible refine Gr.drew ?_ | with_reducible refine Gr.drewN ?_ _))⟩
  rw [decide_eq_true h] at HY
  replace HY := Lib.hid HY
  by_cases h2 : lbIs (a', b', c')
  rotate_left
  · rw [if_neg (fun k => h2 k.2)] at HV HE2
    rw [decide_eq_false h2] at HZ
    replace HZ := Lib.hid HZ
    generalize dcV (a, b, c) (a', b', c') = s at *
    generalize dcE (a, b, c) (a', b', c') = cd at *
    clear h h2 HL
    go_enter Tryd.func60, Tryd.ntmps60
    go_wp2_with fail
    refine (HY.out _).mono ?_
    rintro e w' ⟨rfl, k, os, rfl⟩
    go_wp2_with fail
    refine (HZ.out _).mono ?_
    rintro e w' ⟨rfl, k2, os2, rfl⟩
    go_wp2_with fail
    go_ret2
    exact ⟨ret_bi9 HV.out.symm HE2.out.symm, (by repeat (first | with_reducible exact Gr.refl _ | with_reducible refine Gr.alloc ?_ _ | with_reducible refine Gr.gr ?_ _ _ | with_reducible refine Gr.drew ?_ | with_reducible refine Gr.drewN ?_ _))⟩
  rw [decide_eq_true h2] at HZ
  replace HZ := Lib.hid HZ
  rw [if_pos ⟨h, h2⟩] at HV HE2
  replace HL := Lib.hid (fun w => HL w h h2)
  generalize dcV (a, b, c) (a', b', c') = s at *
  generalize dcE (a, b, c) (a', b', c') = cd at *
  generalize coT (a, b, c) (a', b', c') = cb at *
  clear h h2
  go_enter Tryd.func60, Tryd.ntmps60
  go_wp2_with fail
  refine (HY.out _).mono ?_
  rintro e w' ⟨rfl, k, os, rfl⟩
  go_wp2_with fail
  refine (HZ.out _).mono ?_
  rintro e w' ⟨rfl, k2, os2, rfl⟩
  go_wp2_with fail
  refine (HL.out _).mono ?_
  rintro e w' ⟨rfl, k3, os3, rfl⟩
  go_wp2_with fail
  go_ret2
  exact ⟨ret_bi9 HV.out.symm HE2.out.symm, (by repeat (first | with_reducible exact Gr.refl _ | with_reducible refine Gr.alloc ?_ _ | with_reducible refine Gr.gr ?_ _ _ | with_reducible refine Gr.drew ?_ | with_reducible refine Gr.drewN ?_ _))⟩
end Go.Proofs.YtggflladheemoaaDoor
