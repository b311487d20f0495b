/- For every two figures, valid or not, the program's ProductSpan answers as the model does, and the law returns true. No condition. -/
import Derived.Test.YtipanchmhohlbaaC04e
import Derived.Test.YtipanchmhohlbaaC02z
import Derived.Test.YtipanchmhohlbaaFr
import Derived.Test.YtipanchmhohlbaaRows
import Derived.WalkKit
import Derived.ProofKit
import Derived.OpenShut
import Derived.Lib.SmallJoins
namespace Go.Proofs.Ytipanchmhohlbaa.fnExactProductSpan
open Go.ChangeShapes Go.WideShapes Go.ChangeAt Go.RowKit
set_option linter.unusedVariables false
set_option linter.unusedSimpArgs false

theorem own : ownKnob Try.prog.godebug = none := by kernel_rfl

attribute [local go_sem] gr_of_drew gr_alloc_size gr_lt_s up_s1 up_n1 up_m1 up_s2 up_n2 up_m2 up_s3 up_n3 up_m3 up_s4 up_n4 up_m4 up_s5 up_n5 up_m5 up_s6 up_n6 up_m6

set_option maxHeartbeats 4000000 in
set_option maxRecDepth 100000 in
theorem walk (w : World) (a0_0 : Int) (wf0_0 : (Lit.int .i64 a0_0).wf = true) (a0_1 : Int) (wf0_1 : (Lit.int .i64 a0_1).wf = true) (a1_0 : Int) (wf1_0 : (Lit.int .i64 a1_0).wf = true) (a1_1 : Int) (wf1_1 : (Lit.int .i64 a1_1).wf = true) :
    Calls Try.prog 9 #[.agg #[.int .i64 a0_0, .int .i64 a0_1], .agg #[.int .i64 a1_0, .int .i64 a1_1]] w (LawDone w) := by
  go_enter Try.func9, Try.ntmps9
  go_upto_region 1 with fail
  go_cut [5, 6, 7] (fun x y z wx => ∃ p q : Nat, x = .pointer (some ⟨p, 0, none⟩) ∧ y = .pointer (some ⟨q, 0, none⟩) ∧ z = .int .i64 (psR a0_0 a0_1 a1_0 a1_1).c ∧ wx.cell? ⟨p, 0, none⟩ = some (.int .i64 (psR a0_0 a0_1 a1_0 a1_1).a) ∧ wx.cell? ⟨p, 1, none⟩ = some (.int .i64 (psR a0_0 a0_1 a1_0 a1_1).s) ∧
    wx.cell? ⟨q, 0, none⟩ = some (.int .i64 (psR a0_0 a0_1 a1_0 a1_1).b) ∧ wx.cell? ⟨q, 1, none⟩ = some (.int .i64 (psR a0_0 a0_1 a1_0 a1_1).t) ∧ p < wx.heap.size ∧ q < wx.heap.size ∧ Gr ((w.alloc (.cells #[.int .i64 a0_0, .int .i64 a0_1] 51)).alloc (.cells #[.int .i64 a1_0, .int .i64 a1_1] 51)) wx)
  case first =>
    go_region_held3 (fun w' => w'.cell? ⟨w.heap.size, 0, none⟩ = some (.int .i64 a0_0) ∧ w'.cell? ⟨w.heap.size, 1, none⟩ = some (.int .i64 a0_1) ∧ w'.cell? ⟨w.heap.size + 1, 0, none⟩ = some (.int .i64 a1_0) ∧ w'.cell? ⟨w.heap.size + 1, 1, none⟩ = some (.int .i64 a1_1)) (first | (go_simp; done) | (simp (disch := first | omega | (simp [gr_size]; done) | (simp [gr_size]; omega)) [gr_cell, World.cell?_drew, World.cell?_alloc_at, World.cell?_alloc_past]; done)) (first
      | (go_at_call 45; refine (toFigure_any _ _ _).mono ?_; rintro e w' ⟨rfl, k, os, rfl⟩)
      | (go_at_call 25; refine (psR_spec _ _ _ _ _).mono ?_; rintro e w' ⟨rfl, k, os, rfl⟩))
    all_goals
      go_wp2_with fail
      go_meet
      refine ⟨_, _, rfl, rfl, rfl, ?_, ?_, ?_, ?_, ?_, ?_, ?_⟩
      all_goals (first | (go_simp; done) | (simp [gr_size]; done) | (simp [gr_size]; omega) | omega | exact (by repeat (first | with_reducible exact Gr.refl _ | with_reducible refine Gr.alloc ?_ _ | with_reducible refine Gr.gr ?_ _ _ | with_reducible refine Gr.drew ?_ | with_reducible refine Gr.drewN ?_ _)))
  case rest =>
    obtain ⟨p, q, rfl, rfl, rfl, p0, p1, q0, q1, sp, sq, hG⟩ := hcut
    have A0 := ((Blk.new w 51 #[.int .i64 a0_0, .int .i64 a0_1]).alloc (.cells #[.int .i64 a1_0, .int .i64 a1_1] 51)).gr hG
    have B0 := (Blk.new (w.alloc (.cells #[.int .i64 a0_0, .int .i64 a0_1] 51)) 51 #[.int .i64 a1_0, .int .i64 a1_1]).gr hG
    rw [World.size_alloc] at B0
    have lA := A0.lt
    have lB := B0.lt
    have kA := Nat.le_of_lt lA
    have kB := Nat.le_of_lt lB
    obtain ⟨x0, x1, -⟩ := A0.two
    obtain ⟨y0, y1, -⟩ := B0.two
    have hG' : Gr w wc := (Gr.alloc (Gr.alloc (Gr.refl _) _) _).trans hG
    clear A0 B0 hG
    go_upto_region 2 with fail
    go_cut [8, 9, 10] (fun x y z wx => ∃ p q : Nat, x = .pointer (some ⟨p, 0, none⟩) ∧ y = .pointer (some ⟨q, 0, none⟩) ∧ z = .int .i64 (psR a0_0 a0_1 a1_0 a1_1).c ∧ wx.cell? ⟨p, 0, none⟩ = some (.int .i64 (psR a0_0 a0_1 a1_0 a1_1).a) ∧ wx.cell? ⟨p, 1, none⟩ = some (.int .i64 (psR a0_0 a0_1 a1_0 a1_1).s) ∧
    wx.cell? ⟨q, 0, none⟩ = some (.int .i64 (psR a0_0 a0_1 a1_0 a1_1).b) ∧ wx.cell? ⟨q, 1, none⟩ = some (.int .i64 (psR a0_0 a0_1 a1_0 a1_1).t) ∧ p < wx.heap.size ∧ q < wx.heap.size ∧ Gr wc wx)
    case first =>
      go_region_held3 (fun w' => w'.cell? ⟨w.heap.size, 0, none⟩ = some (.int .i64 a0_0) ∧ w'.cell? ⟨w.heap.size, 1, none⟩ = some (.int .i64 a0_1) ∧ w'.cell? ⟨w.heap.size + 1, 0, none⟩ = some (.int .i64 a1_0) ∧ w'.cell? ⟨w.heap.size + 1, 1, none⟩ = some (.int .i64 a1_1)) (first | exact keep4 (by repeat (first | with_reducible exact Gr.refl _ | with_reducible refine Gr.alloc ?_ _ | with_reducible refine Gr.gr ?_ _ _ | with_reducible refine Gr.drew ?_ | with_reducible refine Gr.drewN ?_ _)) lA lB x0 x1 y0 y1 | (go_simp; done)) (first
        | (go_at_call 45; refine (toFigure_any _ _ _).mono ?_; rintro e w' ⟨rfl, k, os, rfl⟩)
        | (go_at_call 24; refine (psR_impl _ _ _ _ _).mono ?_; rintro e w' ⟨rfl, k, os, rfl⟩))
      all_goals
        go_wp2_with fail
        go_meet
        refine ⟨_, _, rfl, rfl, rfl, ?_, ?_, ?_, ?_, ?_, ?_, ?_⟩
        all_goals (first | (go_simp; done) | (simp [gr_size]; done) | (simp [gr_size]; omega) | omega | exact (by repeat (first | with_reducible exact Gr.refl _ | with_reducible refine Gr.alloc ?_ _ | with_reducible refine Gr.gr ?_ _ _ | with_reducible refine Gr.drew ?_ | with_reducible refine Gr.drewN ?_ _)))
    case rest =>
      obtain ⟨p', q', rfl, rfl, rfl, p0', p1', q0', q1', sp', sq', hG2⟩ := hcut
      have hB := hG2.below
      have r0 := (hB.cell (p := ⟨p, 0, none⟩) sp).trans p0
      have r1 := (hB.cell (p := ⟨p, 1, none⟩) sp).trans p1
      have t0 := (hB.cell (p := ⟨q, 0, none⟩) sq).trans q0
      have t1 := (hB.cell (p := ⟨q, 1, none⟩) sq).trans q1
      have lp := Nat.lt_of_lt_of_le sp hB.size
      have lq := Nat.lt_of_lt_of_le sq hB.size
      have hG3 := hG'.trans hG2
      clear p0 p1 q0 q1 sp sq x0 x1 y0 y1 lA lB kA kB hB hG2 hG'
      go_wp2_with (go_at_call 43; refine (eqFigure_same _ _ _).mono ?_; rintro e w' ⟨rfl, k, os, rfl⟩)
      go_ret
      exact ⟨rfl, (hG3.trans (by repeat (first | with_reducible exact Gr.refl _ | with_reducible refine Gr.alloc ?_ _ | with_reducible refine Gr.gr ?_ _ _ | with_reducible refine Gr.drew ?_ | with_reducible refine Gr.drewN ?_ _))).below⟩

set_option maxRecDepth 100000 in
theorem lifted (os : Os) (started : os.Started) (H : Type) (enc : TypeId × Value → H) :
    ReturnsInHanded {} Try.checked os 9 .any (Rows.fnExactProductSpanSpec.pre6 enc Try.prog Try.f9 Rows.fnExactProductSpanRow.domain false) (Rows.fnExactProductSpanSpec.post enc Try.prog Try.f9 false true false false) := by
  refine returnsInHanded_of_change (C := Try.checked) own started (by kernel_rfl) Try.func9
    (ChangeSpec.witness6 (enc := enc) (C := Try.checked) false ⟨#[], #[.agg #[.int .i64 0, .int .i64 0], .agg #[.int .i64 0, .int .i64 0]], []⟩ 8 (by kernel_rfl) (by kernel_rfl) (by kernel_rfl) (by kernel_rfl)) ?_
  intro W base args ds gs before hval0 hW hcnd _
  have hval : ∀ (j : Nat) t v, Try.f9.params[j]? = some t → args[j]? = some v → Value.okWide Try.prog W .any base t v := hval0
  have hW' := hW
  obtain ⟨p, q, hA0, hV, hpq, hfz, hnd⟩ := hW
  have hA : DataW.TrodAll enc Try.prog W 0 (fun _ => true) true Try.f9.params.toList args.toList ds p := hA0
  have hT := hA
  obtain ⟨rfl, rfl⟩ := trodVars_none hV
  rw [Try.params9] at hA hval
  obtain ⟨v0, vs0, d0, ds0, p0, q0, hargs, rfl, rfl, h0, r0⟩ := trodAll_cons hA
  obtain ⟨v1, vs1, d1, ds1, p1, q1, rfl, rfl, rfl, h1, r1⟩ := trodAll_cons r0
  obtain ⟨rfl, rfl, rfl⟩ := trodAll_nil r1
  obtain rfl : args = #[v0, v1] := by cases args; simp_all
  obtain ⟨c0_0, c0_1, y0_0, y0_1, m0, rfl, rfl, rfl, hy0_0, hy0_1⟩ := Go.Joins.open_agg2 Try.underlying51 (by kernel_rfl) (show Try.prog.cellsOf 51 = 2 by kernel_rfl) (hval 0 51 v0 rfl rfl) h0
  obtain ⟨a0_0, e0_0, rfl, wf0_0⟩ := DataW.trod_int Try.underlying2 hy0_0
  simp at e0_0
  subst e0_0
  obtain ⟨a0_1, e0_1, rfl, wf0_1⟩ := DataW.trod_int Try.underlying2 hy0_1
  simp at e0_1
  subst e0_1
  obtain ⟨c1_0, c1_1, y1_0, y1_1, m1, rfl, rfl, rfl, hy1_0, hy1_1⟩ := Go.Joins.open_agg2 Try.underlying51 (by kernel_rfl) (show Try.prog.cellsOf 51 = 2 by kernel_rfl) (hval 1 51 v1 rfl rfl) h1
  obtain ⟨a1_0, e1_0, rfl, wf1_0⟩ := DataW.trod_int Try.underlying2 hy1_0
  simp at e1_0
  subst e1_0
  obtain ⟨a1_1, e1_1, rfl, wf1_1⟩ := DataW.trod_int Try.underlying2 hy1_1
  simp at e1_1
  subst e1_1
  clear hA0 hval0
  refine (walk W a0_0 wf0_0 a0_1 wf0_1 a1_0 wf1_0 a1_1 wf1_1).mono fun e W' ⟨he, hb⟩ => ?_
  subst he
  exact ⟨_, rfl, law_post laidOut hW' hT hpq (by kernel_rfl) (fun _ _ => rfl) rfl rfl rfl Try.underlying4 hb⟩

theorem over : Rows.fnExactProductSpanRow.holds Try.pinned (OpenSpec.ofChange Rows.fnExactProductSpanSpec) :=
  OpenClaim.holds_of_wide 9 Try.f9 rfl rfl rfl rfl rfl rfl rfl ⟨rfl, rfl, rfl, rfl, rfl⟩ rfl rfl rfl rfl rfl (by kernel_rfl) Try.func9 (by kernel_rfl)
    (of_decide_eq_true (by kernel_rfl)) (by unfold Func.isWrapper; first | (rw [if_pos (by decide +kernel)]; kernel_rfl) | (rw [if_neg (by decide +kernel)]; exact ⟨rfl, rfl⟩))
    (fun os started H enc _ => lifted os started H enc)

theorem proved : Rows.FnExactProductSpanSaid :=
  over
end Go.Proofs.Ytipanchmhohlbaa.fnExactProductSpan
