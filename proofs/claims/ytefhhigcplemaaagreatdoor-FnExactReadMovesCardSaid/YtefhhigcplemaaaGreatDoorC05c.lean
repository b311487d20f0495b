/- Contracts of chapter 5: positions through the kinds of scale, places and distances, in the program and in the model. -/
import Derived.Test.YtefhhigcplemaaaGreatDoorC05b
import Derived.Test.YtefhhigcplemaaaGreatDoorMB
import Derived.Lib.LaidTab
namespace Go.Proofs.YtefhhigcplemaaaGreatDoor
open Go.RowKit
set_option linter.unusedVariables false
set_option linter.unusedSimpArgs false

/-- The table of decades lies as the program's text lays it. -/
def Dcs (w : World) : Prop := ∀ i : Nat, i < 6 → w.cell? ⟨1, i, none⟩ = some (.int .i64 (dec i))
theorem Dcs.gr {w w' : World} (h : Dcs w) (hg : Gr w w') : Dcs w' := by
  obtain ⟨k, os, rfl⟩ := hg
  intro i hi
  have := h i hi
  rw [gr_cell _ _ _ _ _ (World.block_lt_of_cell? w _ this)]
  exact this
theorem dcs_of {w : World} (h : Lib.TabIs Tryz.prog w "loop.example/g00951/impl.scaleDecades" .i64 [1, 2, 3, 1, 1, 1]) : Dcs w := by
  intro i hi
  have := h.cell (g := 1) (by kernel_rfl) i hi
  rw [this]
  rcases (show i = 0 ∨ i = 1 ∨ i = 2 ∨ i = 3 ∨ i = 4 ∨ i = 5 by omega) with rfl | rfl | rfl | rfl | rfl | rfl <;> rfl

theorem printed_0 (w : World) (hD : Dcs w) :
    Calls Tryz.prog 156 #[.int .i64 0] w fun e w' => e = .returned (.iface 214 (.agg #[.int .i64 1])) ∧ w = w' := by
  have c0 := hD 0 (by omega)
  rw [show dec ((0 : Nat) : Int) = 1 from rfl] at c0
  clear hD
  go_enter Tryz.func156, Tryz.ntmps156
  go_wp2
  go_ret
  exact ⟨rfl, rfl⟩

theorem printed_1 (w : World) (hD : Dcs w) :
    Calls Tryz.prog 156 #[.int .i64 1] w fun e w' => e = .returned (.iface 214 (.agg #[.int .i64 2])) ∧ w = w' := by
  have c0 := hD 1 (by omega)
  rw [show dec ((1 : Nat) : Int) = 2 from rfl] at c0
  clear hD
  go_enter Tryz.func156, Tryz.ntmps156
  go_wp2
  go_ret
  exact ⟨rfl, rfl⟩

theorem printed_2 (w : World) (hD : Dcs w) :
    Calls Tryz.prog 156 #[.int .i64 2] w fun e w' => e = .returned (.iface 214 (.agg #[.int .i64 3])) ∧ w = w' := by
  have c0 := hD 2 (by omega)
  rw [show dec ((2 : Nat) : Int) = 3 from rfl] at c0
  clear hD
  go_enter Tryz.func156, Tryz.ntmps156
  go_wp2
  go_ret
  exact ⟨rfl, rfl⟩

theorem printed_3 (w : World) :
    Calls Tryz.prog 156 #[.int .i64 3] w fun e w' => e = .returned (.iface 209 (.agg #[])) ∧ w = w' := by
  go_enter Tryz.func156, Tryz.ntmps156
  go_wp2
  go_ret
  exact ⟨rfl, rfl⟩

theorem printed_4 (w : World) :
    Calls Tryz.prog 156 #[.int .i64 4] w fun e w' => e = .returned (.iface 210 (.agg #[])) ∧ w = w' := by
  go_enter Tryz.func156, Tryz.ntmps156
  go_wp2
  go_ret
  exact ⟨rfl, rfl⟩

theorem printed_5 (w : World) :
    Calls Tryz.prog 156 #[.int .i64 5] w fun e w' => e = .returned (.iface 211 (.agg #[])) ∧ w = w' := by
  go_enter Tryz.func156, Tryz.ntmps156
  go_wp2
  go_ret
  exact ⟨rfl, rfl⟩

theorem ps_ret (a b c : Int) (x : (Int × Int) × Int) (p : Int × Int) (h : x = (p, 0)) (h1 : a = p.1) (h2 : b = p.2) (h3 : c = 0) : Ending.returned (.tuple #[.agg #[.int .i64 a, .int .i64 b], .int .i64 c]) = .returned (.tuple #[.agg #[.int .i64 x.1.1, .int .i64 x.1.2], .int .i64 x.2]) := by rw [h, h1, h2, h3]
theorem ps_no (c : Int) (x : (Int × Int) × Int) (h : x = ((0, 0), c)) : Ending.returned (.tuple #[.agg #[.int .i64 0, .int .i64 0], .int .i64 c]) = .returned (.tuple #[.agg #[.int .i64 x.1.1, .int .i64 x.1.2], .int .i64 x.2]) := by rw [h]

set_option maxHeartbeats 2000000 in
theorem poR_impl (s d t : Int) (w : World) (hD : Dcs w) :
    Calls Tryz.prog 110 #[.int .i64 s, .agg #[.int .i64 d, .int .i64 t]] w fun e w' => e = .returned (.tuple #[.agg #[.int .i64 (poR s d t).1.1, .int .i64 (poR s d t).1.2], .int .i64 (poR s d t).2]) ∧ Gr w w' := by
  have HD := Lib.hid hD
  clear hD
  rcases pcd_cases s d t with ⟨h1, e⟩ | ⟨h1, h2, e⟩ | ⟨h1, rfl, h3, e⟩ | ⟨h1, h2, h3, e⟩
  · have H := Lib.hid (poR_no s d t (by omega))
    rw [e] at H
    have E1 := Lib.hid h1
    clear h1 e
    go_enter Tryz.func110, Tryz.ntmps110
    go_wp2_with (go_at_call 82; refine (isFigure_impl _ _ _).mono ?_; rw [E1.out]; rintro e w' ⟨rfl, k, os, rfl⟩)
    ((try simp only [Exit.inBlock, Exit.then]); refine bodyPost_ret (v := .tuple #[.agg #[.int .i64 0, .int .i64 0], .int .i64 1]) (by simp [results, Tryz.results110, go_sem]) rfl ?_)
    exact ⟨ps_no _ _ H.out, (by repeat (first | with_reducible exact Gr.refl _ | with_reducible refine Gr.alloc ?_ _ | with_reducible refine Gr.gr ?_ _ _ | with_reducible refine Gr.drew ?_ | with_reducible refine Gr.drewN ?_ _))⟩
  · have H := Lib.hid (poR_no s d t (by omega))
    rw [e] at H
    have E1 := Lib.hid h1
    have E2 := Lib.hid h2
    clear h1 h2 e
    go_enter Tryz.func110, Tryz.ntmps110
    go_wp2_with (first
      | (go_at_call 82; refine (isFigure_impl _ _ _).mono ?_; rw [E1.out]; rintro e w' ⟨rfl, k, os, rfl⟩)
      | (go_at_call 155; refine (isScale_impl _ _).mono ?_; rw [E2.out]; rintro e w' ⟨rfl, rfl⟩))
    ((try simp only [Exit.inBlock, Exit.then]); refine bodyPost_ret (v := .tuple #[.agg #[.int .i64 0, .int .i64 0], .int .i64 2]) (by simp [results, Tryz.results110, go_sem]) rfl ?_)
    exact ⟨ps_no _ _ H.out, (by repeat (first | with_reducible exact Gr.refl _ | with_reducible refine Gr.alloc ?_ _ | with_reducible refine Gr.gr ?_ _ _ | with_reducible refine Gr.drew ?_ | with_reducible refine Gr.drewN ?_ _))⟩
  · have H := Lib.hid (poR_no 5 d t (by omega))
    rw [e] at H
    have E1 := Lib.hid h1
    have E2 := Lib.hid (show sc 5 = true from rfl)
    clear h1 e
    go_enter Tryz.func110, Tryz.ntmps110
    go_wp2_with (first
      | (go_at_call 82; refine (isFigure_impl _ _ _).mono ?_; rw [E1.out]; rintro e w' ⟨rfl, k, os, rfl⟩)
      | (go_at_call 155; refine (isScale_impl _ _).mono ?_; rw [E2.out]; rintro e w' ⟨rfl, rfl⟩))
    ((try simp only [Exit.inBlock, Exit.then]); refine bodyPost_ret (v := .tuple #[.agg #[.int .i64 0, .int .i64 0], .int .i64 2]) (by simp [results, Tryz.results110, go_sem]) rfl ?_)
    exact ⟨ps_no _ _ H.out, (by repeat (first | with_reducible exact Gr.refl _ | with_reducible refine Gr.alloc ?_ _ | with_reducible refine Gr.gr ?_ _ _ | with_reducible refine Gr.drew ?_ | with_reducible refine Gr.drewN ?_ _))⟩
  · have H := Lib.hid (poR_ok s d t e)
    have E1 := Lib.hid h1
    have E2 := Lib.hid h2
    rcases scale_cases s h2 with rfl | rfl | rfl | rfl | rfl | rfl
    · -- scale 0
      have HQ := Lib.hid (fun W => rep_impl 1 d t W h1 (by omega) (by omega))
      have HX : ((rep d t 1).1, (rep d t 1).2) = psn 0 d t := by rw [psn_0, rep_one]
      have hm : ∀ (w : World), (method 382 214 (.agg #[.int .i64 1]) "loop.example/g00951/impl.position").run Tryz.prog w = .ok (269, .agg #[.int .i64 1]) w := fun _ => by kernel_rfl
      generalize (rep d t 1).1 = x1 at *
      generalize (rep d t 1).2 = x2 at *
      have HX1 := Lib.hid (congrArg Prod.fst HX)
      have HX2 := Lib.hid (congrArg Prod.snd HX)
      clear h1 h2 h3 e HX
      go_enter Tryz.func110, Tryz.ntmps110
      go_wp2_with (first
        | (go_at_call 82; refine (isFigure_impl _ _ _).mono ?_; rw [E1.out]; rintro e w' ⟨rfl, k, os, rfl⟩)
        | (go_at_call 155; refine (isScale_impl _ _).mono ?_; rw [E2.out]; rintro e w' ⟨rfl, rfl⟩))
      go_region_held3 (fun w' => w'.cell? ⟨w.heap.size, 0, none⟩ = some (.int .i64 d) ∧ w'.cell? ⟨w.heap.size, 1, none⟩ = some (.int .i64 t)) (first | (go_simp; done) | (simp (disch := first | omega | (simp [gr_size]; done) | (simp [gr_size]; omega)) [gr_cell, World.cell?_drew, World.cell?_alloc_at, World.cell?_alloc_past]; done)) (first
        | (go_at_call 156; refine (printed_0 _ (HD.out.gr (by repeat (first | with_reducible exact Gr.refl _ | with_reducible refine Gr.alloc ?_ _ | with_reducible refine Gr.gr ?_ _ _ | with_reducible refine Gr.drew ?_ | with_reducible refine Gr.drewN ?_ _)))).mono ?_; rintro e w' ⟨rfl, rfl⟩)
        | (go_at_call 269; refine (HQ.out _).mono ?_; rintro e w' ⟨rfl, k, os, rfl⟩))
      all_goals
        go_wp2
        ((try simp only [Exit.inBlock, Exit.then]); refine bodyPost_ret (v := .tuple #[.agg #[.int .i64 x1, .int .i64 x2], .int .i64 0]) (by simp [results, Tryz.results110, go_sem]) rfl ?_)
        exact ⟨ps_ret _ _ _ _ _ H.out HX1.out HX2.out rfl, (by repeat (first | with_reducible exact Gr.refl _ | with_reducible refine Gr.alloc ?_ _ | with_reducible refine Gr.gr ?_ _ _ | with_reducible refine Gr.drew ?_ | with_reducible refine Gr.drewN ?_ _))⟩
    · -- scale 1
      have HQ := Lib.hid (fun W => rep_impl 2 d t W h1 (by omega) (by omega))
      have HX : ((rep d t 2).1, (rep d t 2).2) = psn 1 d t := by exact (psn_1 d t).symm
      have hm : ∀ (w : World), (method 382 214 (.agg #[.int .i64 2]) "loop.example/g00951/impl.position").run Tryz.prog w = .ok (269, .agg #[.int .i64 2]) w := fun _ => by kernel_rfl
      generalize (rep d t 2).1 = x1 at *
      generalize (rep d t 2).2 = x2 at *
      have HX1 := Lib.hid (congrArg Prod.fst HX)
      have HX2 := Lib.hid (congrArg Prod.snd HX)
      clear h1 h2 h3 e HX
      go_enter Tryz.func110, Tryz.ntmps110
      go_wp2_with (first
        | (go_at_call 82; refine (isFigure_impl _ _ _).mono ?_; rw [E1.out]; rintro e w' ⟨rfl, k, os, rfl⟩)
        | (go_at_call 155; refine (isScale_impl _ _).mono ?_; rw [E2.out]; rintro e w' ⟨rfl, rfl⟩))
      go_region_held3 (fun w' => w'.cell? ⟨w.heap.size, 0, none⟩ = some (.int .i64 d) ∧ w'.cell? ⟨w.heap.size, 1, none⟩ = some (.int .i64 t)) (first | (go_simp; done) | (simp (disch := first | omega | (simp [gr_size]; done) | (simp [gr_size]; omega)) [gr_cell, World.cell?_drew, World.cell?_alloc_at, World.cell?_alloc_past]; done)) (first
        | (go_at_call 156; refine (printed_1 _ (HD.out.gr (by repeat (first | with_reducible exact Gr.refl _ | with_reducible refine Gr.alloc ?_ _ | with_reducible refine Gr.gr ?_ _ _ | with_reducible refine Gr.drew ?_ | with_reducible refine Gr.drewN ?_ _)))).mono ?_; rintro e w' ⟨rfl, rfl⟩)
        | (go_at_call 269; refine (HQ.out _).mono ?_; rintro e w' ⟨rfl, k, os, rfl⟩))
      all_goals
        go_wp2
        ((try simp only [Exit.inBlock, Exit.then]); refine bodyPost_ret (v := .tuple #[.agg #[.int .i64 x1, .int .i64 x2], .int .i64 0]) (by simp [results, Tryz.results110, go_sem]) rfl ?_)
        exact ⟨ps_ret _ _ _ _ _ H.out HX1.out HX2.out rfl, (by repeat (first | with_reducible exact Gr.refl _ | with_reducible refine Gr.alloc ?_ _ | with_reducible refine Gr.gr ?_ _ _ | with_reducible refine Gr.drew ?_ | with_reducible refine Gr.drewN ?_ _))⟩
    · -- scale 2
      have HQ := Lib.hid (fun W => rep_impl 3 d t W h1 (by omega) (by omega))
      have HX : ((rep d t 3).1, (rep d t 3).2) = psn 2 d t := by exact (psn_2 d t).symm
      have hm : ∀ (w : World), (method 382 214 (.agg #[.int .i64 3]) "loop.example/g00951/impl.position").run Tryz.prog w = .ok (269, .agg #[.int .i64 3]) w := fun _ => by kernel_rfl
      generalize (rep d t 3).1 = x1 at *
      generalize (rep d t 3).2 = x2 at *
      have HX1 := Lib.hid (congrArg Prod.fst HX)
      have HX2 := Lib.hid (congrArg Prod.snd HX)
      clear h1 h2 h3 e HX
      go_enter Tryz.func110, Tryz.ntmps110
      go_wp2_with (first
        | (go_at_call 82; refine (isFigure_impl _ _ _).mono ?_; rw [E1.out]; rintro e w' ⟨rfl, k, os, rfl⟩)
        | (go_at_call 155; refine (isScale_impl _ _).mono ?_; rw [E2.out]; rintro e w' ⟨rfl, rfl⟩))
      go_region_held3 (fun w' => w'.cell? ⟨w.heap.size, 0, none⟩ = some (.int .i64 d) ∧ w'.cell? ⟨w.heap.size, 1, none⟩ = some (.int .i64 t)) (first | (go_simp; done) | (simp (disch := first | omega | (simp [gr_size]; done) | (simp [gr_size]; omega)) [gr_cell, World.cell?_drew, World.cell?_alloc_at, World.cell?_alloc_past]; done)) (first
        | (go_at_call 156; refine (printed_2 _ (HD.out.gr (by repeat (first | with_reducible exact Gr.refl _ | with_reducible refine Gr.alloc ?_ _ | with_reducible refine Gr.gr ?_ _ _ | with_reducible refine Gr.drew ?_ | with_reducible refine Gr.drewN ?_ _)))).mono ?_; rintro e w' ⟨rfl, rfl⟩)
        | (go_at_call 269; refine (HQ.out _).mono ?_; rintro e w' ⟨rfl, k, os, rfl⟩))
      all_goals
        go_wp2
        ((try simp only [Exit.inBlock, Exit.then]); refine bodyPost_ret (v := .tuple #[.agg #[.int .i64 x1, .int .i64 x2], .int .i64 0]) (by simp [results, Tryz.results110, go_sem]) rfl ?_)
        exact ⟨ps_ret _ _ _ _ _ H.out HX1.out HX2.out rfl, (by repeat (first | with_reducible exact Gr.refl _ | with_reducible refine Gr.alloc ?_ _ | with_reducible refine Gr.gr ?_ _ _ | with_reducible refine Gr.drew ?_ | with_reducible refine Gr.drewN ?_ _))⟩
    · -- scale 3
      have HQ := Lib.hid (fun W => inv_impl d t W h1)
      have HX : ((1048576 - (lgb true (d * 100000) + 1)), (1048576 - lgb false (d * 100000))) = psn 3 d t := by exact (psn_3 d t).symm
      have hm : ∀ (w : World), (method 382 209 (.agg #[]) "loop.example/g00951/impl.position").run Tryz.prog w = .ok (253, .agg #[]) w := fun _ => by kernel_rfl
      generalize (1048576 - (lgb true (d * 100000) + 1)) = x1 at *
      generalize (1048576 - lgb false (d * 100000)) = x2 at *
      have HX1 := Lib.hid (congrArg Prod.fst HX)
      have HX2 := Lib.hid (congrArg Prod.snd HX)
      clear h1 h2 h3 e HX
      go_enter Tryz.func110, Tryz.ntmps110
      go_wp2_with (first
        | (go_at_call 82; refine (isFigure_impl _ _ _).mono ?_; rw [E1.out]; rintro e w' ⟨rfl, k, os, rfl⟩)
        | (go_at_call 155; refine (isScale_impl _ _).mono ?_; rw [E2.out]; rintro e w' ⟨rfl, rfl⟩))
      go_region_held3 (fun w' => w'.cell? ⟨w.heap.size, 0, none⟩ = some (.int .i64 d) ∧ w'.cell? ⟨w.heap.size, 1, none⟩ = some (.int .i64 t)) (first | (go_simp; done) | (simp (disch := first | omega | (simp [gr_size]; done) | (simp [gr_size]; omega)) [gr_cell, World.cell?_drew, World.cell?_alloc_at, World.cell?_alloc_past]; done)) (first
        | (go_at_call 156; refine (printed_3 _).mono ?_; rintro e w' ⟨rfl, rfl⟩)
        | (go_at_call 253; refine (HQ.out _).mono ?_; rintro e w' ⟨rfl, k, os, rfl⟩))
      all_goals
        go_wp2
        ((try simp only [Exit.inBlock, Exit.then]); refine bodyPost_ret (v := .tuple #[.agg #[.int .i64 x1, .int .i64 x2], .int .i64 0]) (by simp [results, Tryz.results110, go_sem]) rfl ?_)
        exact ⟨ps_ret _ _ _ _ _ H.out HX1.out HX2.out rfl, (by repeat (first | with_reducible exact Gr.refl _ | with_reducible refine Gr.alloc ?_ _ | with_reducible refine Gr.gr ?_ _ _ | with_reducible refine Gr.drew ?_ | with_reducible refine Gr.drewN ?_ _))⟩
    · -- scale 4
      have HQ := Lib.hid (fun W => fold_impl d t W h1)
      have HX : ((fld d).1, (fld d).2) = psn 4 d t := by exact (psn_4 d t).symm
      have hm : ∀ (w : World), (method 382 210 (.agg #[]) "loop.example/g00951/impl.position").run Tryz.prog w = .ok (264, .agg #[]) w := fun _ => by kernel_rfl
      generalize (fld d).1 = x1 at *
      generalize (fld d).2 = x2 at *
      have HX1 := Lib.hid (congrArg Prod.fst HX)
      have HX2 := Lib.hid (congrArg Prod.snd HX)
      clear h1 h2 h3 e HX
      go_enter Tryz.func110, Tryz.ntmps110
      go_wp2_with (first
        | (go_at_call 82; refine (isFigure_impl _ _ _).mono ?_; rw [E1.out]; rintro e w' ⟨rfl, k, os, rfl⟩)
        | (go_at_call 155; refine (isScale_impl _ _).mono ?_; rw [E2.out]; rintro e w' ⟨rfl, rfl⟩))
      go_region_held3 (fun w' => w'.cell? ⟨w.heap.size, 0, none⟩ = some (.int .i64 d) ∧ w'.cell? ⟨w.heap.size, 1, none⟩ = some (.int .i64 t)) (first | (go_simp; done) | (simp (disch := first | omega | (simp [gr_size]; done) | (simp [gr_size]; omega)) [gr_cell, World.cell?_drew, World.cell?_alloc_at, World.cell?_alloc_past]; done)) (first
        | (go_at_call 156; refine (printed_4 _).mono ?_; rintro e w' ⟨rfl, rfl⟩)
        | (go_at_call 264; refine (HQ.out _).mono ?_; rintro e w' ⟨rfl, k, os, rfl⟩))
      all_goals
        go_wp2
        ((try simp only [Exit.inBlock, Exit.then]); refine bodyPost_ret (v := .tuple #[.agg #[.int .i64 x1, .int .i64 x2], .int .i64 0]) (by simp [results, Tryz.results110, go_sem]) rfl ?_)
        exact ⟨ps_ret _ _ _ _ _ H.out HX1.out HX2.out rfl, (by repeat (first | with_reducible exact Gr.refl _ | with_reducible refine Gr.alloc ?_ _ | with_reducible refine Gr.gr ?_ _ _ | with_reducible refine Gr.drew ?_ | with_reducible refine Gr.drewN ?_ _))⟩
    · -- scale 5
      obtain rfl : t = 0 := by
        by_cases h5 : t = 0
        · exact h5
        · exact absurd ⟨rfl, h5⟩ h3
      have HQ := Lib.hid (fun W => lin_impl d 0 W h1)
      have HX : ((((d - 1000) * 1048576).fdiv 9000), (cd ((d - 1000) * 1048576) 9000)) = psn 5 d 0 := by exact (psn_5 d 0).symm
      have hm : ∀ (w : World), (method 382 211 (.agg #[]) "loop.example/g00951/impl.position").run Tryz.prog w = .ok (267, .agg #[]) w := fun _ => by kernel_rfl
      generalize (((d - 1000) * 1048576).fdiv 9000) = x1 at *
      generalize (cd ((d - 1000) * 1048576) 9000) = x2 at *
      have HX1 := Lib.hid (congrArg Prod.fst HX)
      have HX2 := Lib.hid (congrArg Prod.snd HX)
      clear h1 h2 h3 e HX
      go_enter Tryz.func110, Tryz.ntmps110
      go_wp2_with (first
        | (go_at_call 82; refine (isFigure_impl _ _ _).mono ?_; rw [E1.out]; rintro e w' ⟨rfl, k, os, rfl⟩)
        | (go_at_call 155; refine (isScale_impl _ _).mono ?_; rw [E2.out]; rintro e w' ⟨rfl, rfl⟩))
      go_region_held3 (fun w' => w'.cell? ⟨w.heap.size, 0, none⟩ = some (.int .i64 d) ∧ w'.cell? ⟨w.heap.size, 1, none⟩ = some (.int .i64 0)) (first | (go_simp; done) | (simp (disch := first | omega | (simp [gr_size]; done) | (simp [gr_size]; omega)) [gr_cell, World.cell?_drew, World.cell?_alloc_at, World.cell?_alloc_past]; done)) (first
        | (go_at_call 156; refine (printed_5 _).mono ?_; rintro e w' ⟨rfl, rfl⟩)
        | (go_at_call 267; refine (HQ.out _).mono ?_; rintro e w' ⟨rfl, k, os, rfl⟩))
      all_goals
        go_wp2
        ((try simp only [Exit.inBlock, Exit.then]); refine bodyPost_ret (v := .tuple #[.agg #[.int .i64 x1, .int .i64 x2], .int .i64 0]) (by simp [results, Tryz.results110, go_sem]) rfl ?_)
        exact ⟨ps_ret _ _ _ _ _ H.out HX1.out HX2.out rfl, (by repeat (first | with_reducible exact Gr.refl _ | with_reducible refine Gr.alloc ?_ _ | with_reducible refine Gr.gr ?_ _ _ | with_reducible refine Gr.drew ?_ | with_reducible refine Gr.drewN ?_ _))⟩

theorem lgb_ok {d t : Int} (h : fg d t = true) : lgb false (d * 100000) ≤ lgb true (d * 100000) := by
  obtain ⟨⟨d1, d2⟩, -⟩ := (fg_iff d t).1 h
  exact lgb_le (d * 100000) (by omega) (by omega)

end Go.Proofs.YtefhhigcplemaaaGreatDoor
