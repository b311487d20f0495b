/- Contracts of chapter 6, the program's: a figure and the next one; the needed length. -/
import Derived.Test.YtgadkpkpdpphbaaDoorC06k
import Derived.Test.YtgadkpkpdpphbaaDoorC01b
import Derived.Test.YtgadkpkpdpphbaaDoorC02d
namespace Go.Proofs.YtgadkpkpdpphbaaDoor
open Go.RowKit Go.Maps
set_option linter.unusedVariables false
set_option linter.unusedSimpArgs false

/-- Three blocks of two cells that have just been made. -/
theorem three_new (w : World) (T U V : TypeId) (a b c d e f : Value) :
    Blk (((w.alloc (.cells #[a, b] T)).alloc (.cells #[c, d] U)).alloc (.cells #[e, f] V)) w.heap.size T #[a, b] ∧ Blk (((w.alloc (.cells #[a, b] T)).alloc (.cells #[c, d] U)).alloc (.cells #[e, f] V)) (w.heap.size + 1) U #[c, d] ∧
    Blk (((w.alloc (.cells #[a, b] T)).alloc (.cells #[c, d] U)).alloc (.cells #[e, f] V)) (w.heap.size + 1 + 1) V #[e, f] ∧ Gr w (((w.alloc (.cells #[a, b] T)).alloc (.cells #[c, d] U)).alloc (.cells #[e, f] V)) := by
  refine ⟨((Blk.new w T _).alloc _).alloc _, ?_, ?_, (((Gr.refl w).alloc _).alloc _).alloc _⟩
  · have := (Blk.new (w.alloc (.cells #[a, b] T)) U #[c, d]).alloc (.cells #[e, f] V)
    simpa using this
  · have := Blk.new ((w.alloc (.cells #[a, b] T)).alloc (.cells #[c, d] U)) V #[e, f]
    simpa using this

set_option maxRecDepth 100000 in
set_option maxHeartbeats 2000000 in
theorem nb_zero (d t g : Int) (w : World) (hz : (roR d t g).2 ≠ 0 ∨ ((roR d t g).2 = 0 ∧ (roR d t g).1.2 ≠ t)) :
    Calls Tryd.prog 61 #[.agg #[.int .i64 d, .int .i64 t], .int .i64 g] w fun e w' => e = .returned (.tuple #[.agg #[.int .i64 0, .int .i64 0], .agg #[.int .i64 0, .int .i64 0], .bool false]) ∧ Gr w w' := by
  have HR := Lib.hid (fun W => roR_impl d t g W)
  generalize roR d t g = R at *
  obtain ⟨⟨a, b⟩, c⟩ := R
  simp only at hz HR
  rcases hz with hc | ⟨rfl, hb⟩
  all_goals
    go_enter Tryd.func61, Tryd.ntmps61
    go_wp2_with fail
    obtain ⟨B0, B1, B2, G0⟩ := three_new w 27 27 27 (.int .i64 d) (.int .i64 t) (.int .i64 0) (.int .i64 0) (.int .i64 0) (.int .i64 0)
    generalize ((w.alloc (.cells #[.int .i64 d, .int .i64 t] 27)).alloc (.cells #[.int .i64 0, .int .i64 0] 27)).alloc (.cells #[.int .i64 0, .int .i64 0] 27) = v at *
    refine (HR.out v).mono ?_
    rintro en w1 ⟨rfl, hg1⟩
    have C0 := B0.gr hg1
    have C1 := B1.gr hg1
    have C2 := B2.gr hg1
    obtain ⟨z0, z1, zf⟩ := C0.two
    obtain ⟨x0, x1, xf⟩ := C1.two
    obtain ⟨y0, y1, yf⟩ := C2.two
    have l0 := C0.lt
    have l1 := C1.lt
    have l2 := C2.lt
    have HG := Lib.hid (G0.trans hg1)
    clear B0 B1 B2 G0 hg1 HR C0 C1 C2
    go_wp2
    ((try simp only [Exit.inBlock, Exit.then]); refine bodyPost_ret (v := .tuple #[.agg #[.int .i64 0, .int .i64 0], .agg #[.int .i64 0, .int .i64 0], .bool false]) (by simp [results, Tryd.results61, go_sem, x0, x1, y0, y1, l1, l2, World.cell?_setCell_same']) rfl ?_)
    refine ⟨rfl, Gr.of_below (Below.trans HG.out.below ?_)⟩
    refine Below.mono (B := w.heap.size) ?_ (Nat.le_refl _)
    have hsz := HG.out.below.size
    repeat (first | with_reducible exact Below.refl _ _ | (with_reducible refine Below.alloc ?_ (by simp; omega) _) | (with_reducible refine Below.setCell ?_ (by simp; omega) _) | (with_reducible refine Below.setCell ?_ (by simp) _))

/-- The cells of block g are in v as in u. -/
def Kp (g : Nat) (u v : World) : Prop := g < v.heap.size ∧ ∀ i, v.cell? ⟨g, i, none⟩ = u.cell? ⟨g, i, none⟩
theorem Kp.refl {g : Nat} {u : World} (h : g < u.heap.size) : Kp g u u := ⟨h, fun _ => rfl⟩
theorem Kp.set {g : Nat} {u v : World} (h : Kp g u v) (a : Addr) (x : Value) (ha : g ≠ a.block) : Kp g u (v.setCell a x) :=
  ⟨by simpa [World.setCell] using h.1, fun i => (World.cell?_of_block (Below.heap_setCell v a x g ha)).trans (h.2 i)⟩
theorem Kp.gr {g : Nat} {u v : World} (h : Kp g u v) (k : Nat) (os : Array Obj) : Kp g u (Proofs.YtgadkpkpdpphbaaDoor.gr v k os) := ⟨by rw [gr_size]; have := h.1; omega, fun i => (gr_cell v k os g i h.1).trans (h.2 i)⟩
theorem Kp.drew {g : Nat} {u v : World} (h : Kp g u v) : Kp g u v.drew := h
theorem Kp.alloc {g : Nat} {u v : World} (h : Kp g u v) (o : Obj) : Kp g u (v.alloc o) := ⟨by rw [World.size_alloc]; have := h.1; omega, fun i => (World.cell?_of_block (Below.heap_alloc v o g h.1)).trans (h.2 i)⟩

set_option maxRecDepth 100000 in
set_option maxHeartbeats 4000000 in
theorem nb_next (d t g A : Int) (w : World) (hR : roR d t g = ((A, t), 0)) (g1 : 1 ≤ g) (g4 : g ≤ 4) (a1 : 0 ≤ A) (a2 : A ≤ 100000) :
    Calls Tryd.prog 61 #[.agg #[.int .i64 d, .int .i64 t], .int .i64 g] w fun e w' => e = .returned (.tuple #[.agg #[.int .i64 A, .int .i64 t], .agg #[.int .i64 (A + p10 (4 - g).toNat), .int .i64 t], .bool (fg (A + p10 (4 - g).toNat) t)]) ∧ Gr w w' := by
  have HR := Lib.hid (fun W => roR_impl d t g W)
  rw [hR] at HR
  have hu := p10_bd (4 - g).toNat (by omega)
  have HT := Lib.hid (fun W => tenTo_any (4 - g) W (by omega) (by omega))
  have hu3 : p10 (4 - g).toNat ≤ 1000 := by
    rcases (show g = 1 ∨ g = 2 ∨ g = 3 ∨ g = 4 by omega) with rfl | rfl | rfl | rfl <;> decide
  have HI := Lib.hid (fun W => isFigure_impl (A + p10 (4 - g).toNat) t W)
  generalize p10 (4 - g).toNat = u at *
  generalize fg (A + u) t = ok at *
  have qg : IntKind.i64.wrap (4 - g) = 4 - g := IntWalk.i64_in _ (by omega)
  have qu : IntKind.i64.wrap (A + u) = A + u := IntWalk.i64_in _ (by omega)
  clear hR hu
  go_enter Tryd.func61, Tryd.ntmps61
  go_wp2_with fail
  obtain ⟨B0, B1, B2, G0⟩ := three_new w 27 27 27 (.int .i64 d) (.int .i64 t) (.int .i64 0) (.int .i64 0) (.int .i64 0) (.int .i64 0)
  generalize ((w.alloc (.cells #[.int .i64 d, .int .i64 t] 27)).alloc (.cells #[.int .i64 0, .int .i64 0] 27)).alloc (.cells #[.int .i64 0, .int .i64 0] 27) = v at *
  refine (HR.out v).mono ?_
  rintro en w1 ⟨rfl, hg1⟩
  have C0 := B0.gr hg1
  have C1 := B1.gr hg1
  have C2 := B2.gr hg1
  obtain ⟨z0, z1, zf⟩ := C0.two
  obtain ⟨x0, x1, xf⟩ := C1.two
  obtain ⟨y0, y1, yf⟩ := C2.two
  have l0 := C0.lt
  have l1 := C1.lt
  have l2 := C2.lt
  have HG := Lib.hid (G0.trans hg1)
  have HC := Lib.hid (And.intro C1 C2)
  clear B0 B1 B2 G0 hg1 HR C0 C1 C2
  go_wp2_with fail
  go_region_held3 (fun w' => w'.cell? ⟨w1.heap.size, 0, none⟩ = some (.int .i64 A) ∧ w'.cell? ⟨w1.heap.size, 1, none⟩ = some (.int .i64 t)) (first | (go_simp; done) | (first | (go_simp; done) | (simp (disch := first | omega | (simp [gr_size]; done) | (simp [gr_size]; omega)) [gr_cell, World.cell?_drew, World.cell?_alloc_at, World.cell?_alloc_past]; done))) (first
    | (go_at_call 71; (try rw [qg]); refine (HT.out _).mono ?_; rintro e w' ⟨rfl, rfl⟩))
  all_goals
    go_wp2_with fail
    obtain ⟨n5, E7, E9, G5⟩ := two_new w1 27 27 (.int .i64 A) (.int .i64 t) (.int .i64 (A + u)) (.int .i64 t)
    have F1 := HC.out.1.gr G5
    have F2 := HC.out.2.gr G5
    have HG5 := Lib.hid (HG.out.trans G5)
    have n12 := l2
    clear z0 z1 zf x0 x1 xf y0 y1 yf l0 l1 l2
    generalize (w1.alloc (.cells #[.int .i64 A, .int .i64 t] 27)).alloc (.cells #[.int .i64 (A + u), .int .i64 t] 27) = u5 at *
    obtain ⟨z0, z1, zf⟩ := E7.two
    obtain ⟨v0, v1, vf⟩ := E9.two
    obtain ⟨x0, x1, xf⟩ := F1.two
    obtain ⟨y0, y1, yf⟩ := F2.two
    have l0 := F1.lt
    have l1 := F2.lt
    have l3 := E7.lt
    have l4 := E9.lt
    have HF := Lib.hid (And.intro F1 F2)
    clear E7 E9 F1 F2 G5 n5 HC
    go_region_held3 (fun w' => w'.cell? ⟨w1.heap.size, 0, none⟩ = some (.int .i64 A) ∧ w'.cell? ⟨w1.heap.size, 1, none⟩ = some (.int .i64 t) ∧ w'.cell? ⟨w1.heap.size + 1, 0, none⟩ = some (.int .i64 (A + u)) ∧ w'.cell? ⟨w1.heap.size + 1, 1, none⟩ = some (.int .i64 t)) (first | exact ⟨((by repeat (first | with_reducible exact Kp.refl l3 | with_reducible refine Kp.gr ?_ _ _ | with_reducible refine Kp.drew ?_ | with_reducible refine Kp.alloc ?_ _ | with_reducible refine Kp.set ?_ _ _ (by simp; omega)) : Kp _ u5 _).2 0).trans z0, ((by repeat (first | with_reducible exact Kp.refl l3 | with_reducible refine Kp.gr ?_ _ _ | with_reducible refine Kp.drew ?_ | with_reducible refine Kp.alloc ?_ _ | with_reducible refine Kp.set ?_ _ _ (by simp; omega)) : Kp _ u5 _).2 1).trans z1, ((by repeat (first | with_reducible exact Kp.refl l4 | with_reducible refine Kp.gr ?_ _ _ | with_reducible refine Kp.drew ?_ | with_reducible refine Kp.alloc ?_ _ | with_reducible refine Kp.set ?_ _ _ (by simp; omega)) : Kp _ u5 _).2 0).trans v0, ((by repeat (first | with_reducible exact Kp.refl l4 | with_reducible refine Kp.gr ?_ _ _ | with_reducible refine Kp.drew ?_ | with_reducible refine Kp.alloc ?_ _ | with_reducible refine Kp.set ?_ _ _ (by simp; omega)) : Kp _ u5 _).2 1).trans v1⟩) (first
      | (go_at_call 60; refine (HI.out _).mono ?_; rintro e w' ⟨rfl, k, os, rfl⟩))
  all_goals
    go_wp2
    ((try simp only [Exit.inBlock, Exit.then]); refine bodyPost_ret (v := .tuple #[.agg #[.int .i64 A, .int .i64 t], .agg #[.int .i64 (A + u), .int .i64 t], .bool ok]) (by simp [results, Tryd.results61, go_sem, x0, x1, y0, y1, l0, l1, World.cell?_setCell_same']) rfl ?_)
    refine ⟨rfl, Gr.of_below (Below.trans HG5.out.below ?_)⟩
    have hsz := HG5.out.below.size
    repeat (first | with_reducible exact Below.refl _ _ | (with_reducible refine Below.grew ?_ (by simp [World.setCell]; omega) _ _) | (with_reducible refine Below.setCell ?_ (by simp; omega) _) | (with_reducible refine Below.setCell ?_ (by simp) _))

/-- The loop's measure: what is left of the lengths. -/
def mz (sb : Nat) (w : World) : Nat := 100200 - (match w.cell? ⟨sb, 1, none⟩ with | some v => (intOf v).toNat | none => 0)
theorem mz_of {sb : Nat} {w : World} {x : Int} (h : w.cell? ⟨sb, 1, none⟩ = some (.int .i64 x)) : mz sb w = 100200 - x.toNat := by unfold mz; rw [h]; rfl
theorem Blk.gb2 {w w' : World} {mb g : Nat} {t : TypeId} {cs : Array Value} (h : Blk w g t cs) (hg : Gb mb w w') (hne : g ≠ mb) : Blk w' g t cs := (hg.block g h.lt (fun e => hne (by cases e; rfl))).trans h
theorem Blk.gs {w w' : World} {sb mb g : Nat} {t : TypeId} {cs : Array Value} (h : Blk w g t cs) (hg : Gs sb mb w w') (h1 : g ≠ sb) (h2 : g ≠ mb) : Blk w' g t cs := (hg.block g h.lt h1 h2).trans h
theorem Gs.below {w w' : World} {sb mb B : Nat} (h : Gs sb mb w w') (h1 : B ≤ sb) (h2 : B ≤ mb) (h3 : B ≤ w.heap.size) : Below B w w' := ⟨h.os, h.tape, h.output, h.size, fun k hk => h.block k (by omega) (by omega) (by omega)⟩
theorem dcs_at {w : World} (h : Dcs w) (s : Int) (hs : 0 ≤ s ∧ s ≤ 5) : w.cell? ⟨0, s.toNat, none⟩ = some (.int .i64 (dec s)) ∧ 0 < w.heap.size := by
  have hc := h s.toNat (by omega)
  rw [show ((s.toNat : Nat) : Int) = s by omega] at hc
  exact ⟨hc, World.block_lt_of_cell? w _ hc⟩

set_option maxHeartbeats 4000000 in
/-- The arguments are out of their ranges. -/
theorem nlRg_any (s d t e g : Int) (w : World) (hD : Dcs w) (hf : fg d t = true) (h : sc s = false ∨ (sc s = true ∧ decide (0 ≤ e ∧ e ≤ 200) = false) ∨ (sc s = true ∧ decide (0 ≤ e ∧ e ≤ 200) = true ∧ t < 0) ∨ (sc s = true ∧ decide (0 ≤ e ∧ e ≤ 200) = true ∧ 0 ≤ t ∧ dec s ≤ t)) :
    Calls Tryd.prog 27 #[.int .i64 s, .agg #[.int .i64 d, .int .i64 t], .int .i64 e, .int .i64 g] w fun e' w' => e' = .returned (.tuple #[.int .i64 0, .int .i64 2]) ∧ Gr w w' := by
  have HF := Lib.hid (fun W => isFigure_impl d t W)
  rw [hf] at HF
  obtain ⟨⟨-, -⟩, t1, t2⟩ := (fg_iff d t).1 hf
  have K1 := Lib.hid (fun W => isScale_impl s W)
  have K2 := Lib.hid (fun W => isEye_any e W)
  have HD := Lib.hid hD
  have HS := Lib.hid (sc_iff s)
  clear hf hD
  rcases h with h1 | ⟨h1, h2⟩ | ⟨h1, h2, h3⟩ | ⟨h1, h2, h3, h4⟩
  all_goals
    rw [h1] at K1
    (try rw [h2] at K2)
    (try (have h4' : ¬ t < dec s := by omega))
    (try (have h3' : ¬ t < 0 := by omega; have h3d : decide (t < 0) = false := decide_eq_false h3'))
    (try (have h3d : decide (t < 0) = true := decide_eq_true h3))
    (try (have h4d : decide (dec s ≤ t) = true := decide_eq_true h4))
    go_enter Tryd.func27, Tryd.ntmps27
    go_wp2_with fail
    have B0 := Blk.new w 27 #[.int .i64 d, .int .i64 t]
    have G0 : Gr w (w.alloc (.cells #[.int .i64 d, .int .i64 t] 27)) := (by repeat (first | with_reducible exact Gr.refl _ | with_reducible refine Gr.alloc ?_ _ | with_reducible refine Gr.gr ?_ _ _ | with_reducible refine Gr.drew ?_ | with_reducible refine Gr.drewN ?_ _))
    generalize (w.alloc (.cells #[.int .i64 d, .int .i64 t] 27)) = v at *
    refine (HF.out v).mono ?_
    rintro en w1 ⟨rfl, hg1⟩
    obtain ⟨x0, x1, xf⟩ := (B0.gr hg1).two
    have l0 := (B0.gr hg1).lt
    have HG := Lib.hid (G0.trans hg1)
    (try (have s12 := HS.out.1 h1; obtain ⟨hc, hgl⟩ := dcs_at (HD.out.gr (G0.trans hg1)) s s12; obtain ⟨s1, s2⟩ := s12; have s6 : s < 6 := by omega))
    clear B0 G0 hg1
    go_wp2_with fail
    ((first | refine region_gr_on (by kernel_rfl) (by kernel_rfl) ?_ | refine region_gr (by kernel_rfl) (by kernel_rfl) ?_); (repeat (quiet_step (first | exact Calls.gr_same (K1.out _) | exact Calls.gr_same (K2.out _)))); refine wpQuiet_nil ?_; intro _ hw'; obtain ⟨⟨kq, oq⟩, hw''⟩ := hw'; subst hw'')
    go_wp2_with fail
    go_ret2
    exact ⟨rfl, HG.out.trans (by repeat (first | with_reducible exact Gr.refl _ | with_reducible refine Gr.alloc ?_ _ | with_reducible refine Gr.gr ?_ _ _ | with_reducible refine Gr.drew ?_ | with_reducible refine Gr.drewN ?_ _))⟩

theorem nlIn_any (s d t e g : Int) (w : World) (hf : fg d t = false) :
    Calls Tryd.prog 27 #[.int .i64 s, .agg #[.int .i64 d, .int .i64 t], .int .i64 e, .int .i64 g] w fun e' w' => e' = .returned (.tuple #[.int .i64 0, .int .i64 1]) ∧ Gr w w' := by
  have HF := Lib.hid (fun W => isFigure_impl d t W)
  rw [hf] at HF
  clear hf
  go_enter Tryd.func27, Tryd.ntmps27
  go_wp2_with (go_at_call 60; refine (HF.out _).mono ?_; rintro en w' ⟨rfl, k, os, rfl⟩)
  go_ret2
  exact ⟨rfl, (by repeat (first | with_reducible exact Gr.refl _ | with_reducible refine Gr.alloc ?_ _ | with_reducible refine Gr.gr ?_ _ _ | with_reducible refine Gr.drew ?_ | with_reducible refine Gr.drewN ?_ _))⟩

set_option maxHeartbeats 4000000 in
/-- .. there is no next figure. -/
theorem nlNo_any (s d t e g x1 x2 x3 x4 : Int) (w : World) (hD : Dcs w) (hf : fg d t = true) (h1 : sc s = true) (h2 : decide (0 ≤ e ∧ e ≤ 200) = true) (h3 : 0 ≤ t) (h4 : t < dec s)
    (hNB : ∀ W, Calls Tryd.prog 61 #[.agg #[.int .i64 d, .int .i64 t], .int .i64 g] W fun e w' => e = .returned (.tuple #[.agg #[.int .i64 x1, .int .i64 x2], .agg #[.int .i64 x3, .int .i64 x4], .bool false]) ∧ Gr W w') :
    Calls Tryd.prog 27 #[.int .i64 s, .agg #[.int .i64 d, .int .i64 t], .int .i64 e, .int .i64 g] w fun e' w' => e' = .returned (.tuple #[.int .i64 0, .int .i64 2]) ∧ Gr w w' := by
  have HF := Lib.hid (fun W => isFigure_impl d t W)
  rw [hf] at HF
  obtain ⟨⟨-, -⟩, t1, t2⟩ := (fg_iff d t).1 hf
  have K1 := Lib.hid (fun W => isScale_impl s W)
  have K2 := Lib.hid (fun W => isEye_any e W)
  rw [h1] at K1
  rw [h2] at K2
  have HD := Lib.hid hD
  have s12 := (sc_iff s).1 h1
  have HNB := Lib.hid hNB
  have h4' : ¬ dec s ≤ t := by omega
  have h3' : ¬ t < 0 := by omega
  have h3d : decide (t < 0) = false := decide_eq_false h3'
  have h4d : decide (dec s ≤ t) = false := decide_eq_false h4'
  clear hf hD h1 h2 h3 hNB
  go_enter Tryd.func27, Tryd.ntmps27
  go_wp2_with fail
  have B0 := Blk.new w 27 #[.int .i64 d, .int .i64 t]
  have G0 : Gr w (w.alloc (.cells #[.int .i64 d, .int .i64 t] 27)) := (by repeat (first | with_reducible exact Gr.refl _ | with_reducible refine Gr.alloc ?_ _ | with_reducible refine Gr.gr ?_ _ _ | with_reducible refine Gr.drew ?_ | with_reducible refine Gr.drewN ?_ _))
  generalize (w.alloc (.cells #[.int .i64 d, .int .i64 t] 27)) = v at *
  refine (HF.out v).mono ?_
  rintro en w1 ⟨rfl, hg1⟩
  obtain ⟨x0, x1', xf⟩ := (B0.gr hg1).two
  have l0 := (B0.gr hg1).lt
  have HG := Lib.hid (G0.trans hg1)
  obtain ⟨hc, hgl⟩ := dcs_at (HD.out.gr (G0.trans hg1)) s s12
  obtain ⟨s1, s2⟩ := s12
  have s6 : s < 6 := by omega
  clear B0 G0 hg1
  go_wp2_with fail
  ((first | refine region_gr_on (by kernel_rfl) (by kernel_rfl) ?_ | refine region_gr (by kernel_rfl) (by kernel_rfl) ?_); (repeat (quiet_step (first | exact Calls.gr_same (K1.out _) | exact Calls.gr_same (K2.out _)))); refine wpQuiet_nil ?_; intro _ hw'; obtain ⟨⟨kq, oq⟩, hw''⟩ := hw'; subst hw'')
  have HG1 := Lib.hid (HG.out.trans ((by repeat (first | with_reducible exact Gr.refl _ | with_reducible refine Gr.alloc ?_ _ | with_reducible refine Gr.gr ?_ _ _ | with_reducible refine Gr.drew ?_ | with_reducible refine Gr.drewN ?_ _)) : Gr w1 (gr w1 kq oq)))
  have y0 := keepB (Bl.gr (Bl.refl w1) kq oq) l0 x0
  have y1 := keepB (Bl.gr (Bl.refl w1) kq oq) l0 x1'
  clear x0 x1' xf l0 hc hgl HG K1 K2 HF h4 h3' h4'
  generalize gr w1 kq oq = u at *
  go_wp2_with fail
  refine (HNB.out u).mono ?_
  rintro en w2 ⟨rfl, hg2⟩
  have HG2 := Lib.hid (HG1.out.trans hg2)
  clear y0 y1 hg2 HNB HG1
  go_wp2
  go_ret2
  exact ⟨rfl, HG2.out.trans (by repeat (first | with_reducible exact Gr.refl _ | with_reducible refine Gr.alloc ?_ _ | with_reducible refine Gr.gr ?_ _ _ | with_reducible refine Gr.drew ?_ | with_reducible refine Gr.drewN ?_ _))⟩

set_option maxRecDepth 100000 in
set_option maxHeartbeats 4000000 in
/-- The arguments are in their ranges: what neighbours answers decides. -/
theorem nl_loop (s d t e g A B : Int) (w : World) (hD : Dcs w) (hf : fg d t = true) (h1 : sc s = true) (h2 : decide (0 ≤ e ∧ e ≤ 200) = true) (h3 : 0 ≤ t) (h4 : t < dec s)
    (hNB : ∀ W, Calls Tryd.prog 61 #[.agg #[.int .i64 d, .int .i64 t], .int .i64 g] W fun e w' => e = .returned (.tuple #[.agg #[.int .i64 A, .int .i64 t], .agg #[.int .i64 B, .int .i64 t], .bool true]) ∧ Gr W w')
    (hAP : ∀ (sb mb : Nat) (l : Int) (W : World), Sht W sb mb s l → ln l = true → Calls Tryd.prog 64 #[.pointer (some ⟨sb, 0, none⟩), .agg #[.int .i64 A, .int .i64 t], .agg #[.int .i64 B, .int .i64 t], .int .i64 e] W fun e' w' => e' = .returned (.bool (apt s A t B t l e)) ∧ Gb mb W w' ∧ Sht w' sb mb s l) :
    Calls Tryd.prog 27 #[.int .i64 s, .agg #[.int .i64 d, .int .i64 t], .int .i64 e, .int .i64 g] w fun e' w' => e' = .returned (.tuple #[.int .i64 (if ndN s A t B t e < 0 then 0 else 100 * (ndN s A t B t e + 1)), .int .i64 (if ndN s A t B t e < 0 then 4 else 0)]) ∧ Gr w w' := by
  have HF := Lib.hid (fun W => isFigure_impl d t W)
  rw [hf] at HF
  obtain ⟨⟨-, -⟩, t1, t2⟩ := (fg_iff d t).1 hf
  have K1 := Lib.hid (fun W => isScale_impl s W)
  have K2 := Lib.hid (fun W => isEye_any e W)
  rw [h1] at K1
  rw [h2] at K2
  have HD := Lib.hid hD
  have s12 := (sc_iff s).1 h1
  have HNB := Lib.hid hNB
  have hN := fstQ_spec (fun i => apt s A t B t (100 * ((i : Int) + 1)) e) 1000
  rw [← ndN] at hN
  have HN := Lib.hid hN
  have HK := Lib.hid (fun (k : Nat) (hk : k < 1000) (hq : apt s A t B t (100 * ((k : Int) + 1)) e = true) (hb : ∀ j, j < k → apt s A t B t (100 * ((j : Int) + 1)) e = false) => show ndN s A t B t e = k from fstQ_hit (fun i => apt s A t B t (100 * ((i : Int) + 1)) e) 1000 k hk hq hb)
  have HZ := Lib.hid (fun (hb : ∀ j : Nat, j < 1000 → apt s A t B t (100 * ((j : Int) + 1)) e = false) => show ndN s A t B t e = -1 from fstQ_none (fun i => apt s A t B t (100 * ((i : Int) + 1)) e) 1000 hb)
  have HAP := Lib.hid hAP
  have h4' : ¬ dec s ≤ t := by omega
  have h3' : ¬ t < 0 := by omega
  have h3d : decide (t < 0) = false := decide_eq_false h3'
  have h4d : decide (dec s ≤ t) = false := decide_eq_false h4'
  generalize ndN s A t B t e = z at *
  generalize hr1 : (if z < 0 then (0 : Int) else 100 * (z + 1)) = r1 at *
  generalize hr2 : (if z < 0 then (4 : Int) else 0) = r2 at *
  have R1 := Lib.hid hr1
  have R2 := Lib.hid hr2
  clear hf hD h1 h2 h3 hNB hAP hN HN hr1 hr2
  go_enter Tryd.func27, Tryd.ntmps27
  go_wp2_with fail
  have B0 := Blk.new w 27 #[.int .i64 d, .int .i64 t]
  have G0 : Gr w (w.alloc (.cells #[.int .i64 d, .int .i64 t] 27)) := (by repeat (first | with_reducible exact Gr.refl _ | with_reducible refine Gr.alloc ?_ _ | with_reducible refine Gr.gr ?_ _ _ | with_reducible refine Gr.drew ?_ | with_reducible refine Gr.drewN ?_ _))
  generalize (w.alloc (.cells #[.int .i64 d, .int .i64 t] 27)) = v at *
  refine (HF.out v).mono ?_
  rintro en w1 ⟨rfl, hg1⟩
  obtain ⟨x0, x1, xf⟩ := (B0.gr hg1).two
  have l0 := (B0.gr hg1).lt
  have HG := Lib.hid (G0.trans hg1)
  obtain ⟨hc, hgl⟩ := dcs_at (HD.out.gr (G0.trans hg1)) s s12
  obtain ⟨s1, s2⟩ := s12
  have s6 : s < 6 := by omega
  clear B0 G0 hg1
  go_wp2_with fail
  ((first | refine region_gr_on (by kernel_rfl) (by kernel_rfl) ?_ | refine region_gr (by kernel_rfl) (by kernel_rfl) ?_); (repeat (quiet_step (first | exact Calls.gr_same (K1.out _) | exact Calls.gr_same (K2.out _)))); refine wpQuiet_nil ?_; intro _ hw'; obtain ⟨⟨kq, oq⟩, hw''⟩ := hw'; subst hw'')
  have HG1 := Lib.hid (HG.out.trans ((by repeat (first | with_reducible exact Gr.refl _ | with_reducible refine Gr.alloc ?_ _ | with_reducible refine Gr.gr ?_ _ _ | with_reducible refine Gr.drew ?_ | with_reducible refine Gr.drewN ?_ _)) : Gr w1 (gr w1 kq oq)))
  have y0 := keepB (Bl.gr (Bl.refl w1) kq oq) l0 x0
  have y1 := keepB (Bl.gr (Bl.refl w1) kq oq) l0 x1
  clear x0 x1 xf l0 hc hgl HG K1 K2 HF h4 h3' h4'
  generalize gr w1 kq oq = u at *
  go_wp2_with fail
  refine (HNB.out u).mono ?_
  rintro en w2 ⟨rfl, hg2⟩
  have HG2 := Lib.hid (HG1.out.trans hg2)
  clear y0 y1 hg2 HNB HG1
  go_wp2_with fail
  obtain ⟨nv, B1, B2, G3⟩ := two_new w2 27 27 (.int .i64 A) (.int .i64 t) (.int .i64 B) (.int .i64 t)
  generalize (w2.alloc (.cells #[.int .i64 A, .int .i64 t] 27)).alloc (.cells #[.int .i64 B, .int .i64 t] 27) = v2 at *
  have HD3 := HD.out.gr (HG2.out.trans G3)
  refine (newSheet_any s 100 v2 HD3).mono ?_
  rintro en w3 ⟨rfl, hg3, hs3⟩
  have C1 := B1.gr hg3
  have C2 := B2.gr hg3
  have hb := (HG2.out.trans (G3.trans hg3)).below
  have n1 := HG2.out.below.size
  have n2 := B2.lt
  clear B1 B2 G3 hg3 HD HD3 HG2 nv
  go_wp2_with fail
  go_loopw [65] (fun _ wr => ∃ (k : Nat) (L : Int), Hid (L = 100 * ((k : Int) + 1)) ∧ k ≤ 1000 ∧ 100 ≤ L ∧ L ≤ 100100 ∧ Sht wr (v2.heap.size + 1) v2.heap.size s L ∧ Below w.heap.size w wr ∧ Blk wr w2.heap.size 27 #[.int .i64 A, .int .i64 t] ∧ Blk wr (w2.heap.size + 1) 27 #[.int .i64 B, .int .i64 t] ∧ Hid (∀ j, j < k → apt s A t B t (100 * ((j : Int) + 1)) e = false)) (fun _ wr => mz (v2.heap.size + 1) wr)
  case atStart => exact ⟨0, 100, Lib.hid (by simp), by omega, by omega, by omega, hs3, hb, C1, C2, Lib.hid (fun j hj => absurd hj (by omega))⟩
  case round =>
    obtain ⟨k, L, hL, hk, L1, L2, hS, hbw, D1, D2, HB⟩ := hrel
    clear hs3 hb C1 C2
    obtain ⟨sl, ml, c0, c1, c2⟩ := hS.cells
    obtain ⟨p0, p1, pf⟩ := D1.two
    obtain ⟨q0, q1, qf⟩ := D2.two
    have hmz := mz_of c1
    have hws := hbw.size
    by_cases hlt : L ≤ 100000
    · have hkl : k < 1000 := by have := hL.out; omega
      have HA := Lib.hid (HAP.out _ _ L wr hS ((ln_iff L).2 ⟨by omega, hlt⟩))
      cases hq : apt s A t B t L e
      · rw [hq] at HA
        have HQ := Lib.hid hq
        clear hq
        go_wp2_with (first
          | (go_at_call 64; refine HA.out.mono ?_; rintro en w5 ⟨rfl, hg5, hs5⟩; obtain ⟨sl5, ml5, c05, c15, c25⟩ := hs5.cells)
          | (go_at_call 63; refine (printOn_any _ _ s L (L + 100) w5 hs5).mono ?_; rintro en w6 ⟨rfl, hs6, hgs⟩))
        go_roundw
        case rel =>
          have h5 := hg5.size
          exact ⟨k + 1, L + 100, Lib.hid (by have := hL.out; omega), by omega, by omega, by omega, hs6, (hbw.trans (hg5.below (by omega) (by omega))).trans (hgs.below (by omega) (by omega) (by omega)),
            (D1.gb2 hg5 (by omega)).gs hgs (by omega) (by omega), (D2.gb2 hg5 (by omega)).gs hgs (by omega) (by omega), Lib.hid (fun j hj => by
              rcases Nat.lt_succ_iff_lt_or_eq.1 hj with h | rfl
              · exact HB.out j h
              · rw [← hL.out]; exact HQ.out)⟩
        case measure =>
          rw [mz_of hs6.cells.2.2.2.1, hmz]
          omega
      · rw [hq] at HA
        have hz : z = k := HK.out k hkl (by rw [← hL.out]; exact hq) HB.out
        have HZ2 := Lib.hid (And.intro hz hL.out)
        clear hq hz
        go_wp2_with (go_at_call 64; refine HA.out.mono ?_; rintro en w5 ⟨rfl, hg5, hs5⟩; obtain ⟨sl5, ml5, c05, c15, c25⟩ := hs5.cells)
        go_ret2
        exact ⟨ret_two (by rw [← R1.out, if_neg (by have := HZ2.out.1; omega), HZ2.out.1]; exact HZ2.out.2) (by rw [← R2.out, if_neg (by have := HZ2.out.1; omega)]), Gr.of_below (hbw.trans (hg5.below (by omega) (by omega)))⟩
    · have hk2 : k = 1000 := by have := hL.out; omega
      have hz : z = -1 := HZ.out (fun j hj => HB.out j (by omega))
      have HZ2 := Lib.hid hz
      clear hz
      go_wp2
      go_ret2
      exact ⟨ret_two (by rw [← R1.out, if_pos (by have := HZ2.out; omega)]) (by rw [← R2.out, if_pos (by have := HZ2.out; omega)]), Gr.of_below hbw⟩
end Go.Proofs.YtgadkpkpdpphbaaDoor
