/- Draws of chapter 10: figures with units, bounds of readings, errors to be multiplied. -/
import Derived.Test.YtdbeedfapkfibaaGreatDoorD26
import Derived.Test.YtdbeedfapkfibaaGreatDoorLd
namespace Go.Proofs.YtdbeedfapkfibaaGreatDoor
open Go.RowKit
set_option linter.unusedVariables false
set_option linter.unusedSimpArgs false

theorem drawWorstDigits_any (A : Option Addr) (n c : Nat) (w : World) (hn : n ≤ 4611686018427387904) (hB : Bytes w w.heap.size A n) :
    Calls Tryz.prog 11 #[.slice A n c] w (EuN w) := by
  go_enter Tryz.func11, Tryz.ntmps11
  go_wp2_with fail
  have R0 := Blk.new w 31 #[.int .i64 0, .int .i64 0, .int .i64 0]
  have hW0 : Below w.heap.size w (w.alloc (.cells #[.int .i64 0, .int .i64 0, .int .i64 0] 31)) := (Below.refl _ w).alloc (Nat.le_refl _) _
  refine (drawErrorUnits_any A n c _ hn (hB.later hW0)).mono ?_
  rintro e w1 ⟨s, l, x, y, z, rfl, hl, hb⟩
  have R1 : Blk w1 w.heap.size 31 #[.int .i64 0, .int .i64 0, .int .i64 0] := (hb.block _ R0.lt).trans R0
  have hW1 := hW0.trans (hb.mono (by simp))
  obtain ⟨r0, r1, r2, rf⟩ := R1.tri
  have lr := R1.lt
  clear R0 R1 hb hW0
  go_wp2_with fail
  ((try simp only [Exit.inBlock, Exit.then]); refine bodyPost_ret (v := .tuple #[.int .i64 s, .int .i64 l, .agg #[.int .i64 (x), .int .i64 (y), .int .i64 (z)]]) (by simp [results, Tryz.results11, go_sem, r0, r1, r2, World.cell?_setCell_same']) rfl ?_)
  exact ⟨s, l, x, y, z, rfl, hl, ((hW1.setCell (Nat.le_refl _) _).setCell (Nat.le_refl _) _).setCell (Nat.le_refl _) _⟩

/-- A drawn figure with units. -/
def SfN (w : World) (e : Ending) (w' : World) : Prop := ∃ d t u : Int, e = .returned (.tuple #[.agg #[.int .i64 d, .int .i64 t], .int .i64 u]) ∧ FigN d t ∧ Below w.heap.size w w'
set_option maxHeartbeats 4000000 in
theorem drawSpreadFigure_any (A : Option Addr) (n c : Nat) (w : World) (hn : n ≤ 4611686018427387904) (hB : Bytes w w.heap.size A n) :
    Calls Tryz.prog 5 #[.slice A n c] w (SfN w) := by
  go_enter Tryz.func5, Tryz.ntmps5
  go_wp2_with fail
  have P0 := Blk.new w 25 #[.int .i64 0, .int .i64 0]
  have hW0 : Below w.heap.size w (w.alloc (.cells #[.int .i64 0, .int .i64 0] 25)) := (Below.refl _ w).alloc (Nat.le_refl _) _
  refine (from_any A n c _ hn (hB.later hW0)).mono ?_
  rintro e w1 ⟨b, rfl, hb, hS1, hl1⟩
  rw [World.size_alloc] at hb
  have P1 : Blk w1 w.heap.size 25 #[.int .i64 0, .int .i64 0] := (hl1.block _ P0.lt).trans P0
  have hW1 := hW0.trans (hl1.mono (by simp))
  clear P0 hl1 hW0
  go_wp2_with fail
  refine (figDraw_any A n c b _ hS1).mono ?_
  rintro e w2 ⟨a, s, rfl, hI1, hS2, hd2⟩
  have P2 := (P1.dr hd2 (by omega)).alloc (.cells #[.int .i64 a, .int .i64 s] 25)
  have E2 := Blk.new w2 25 #[.int .i64 a, .int .i64 s]
  have l2 := hS2.lt
  have S2 := hS2.alloc (.cells #[.int .i64 a, .int .i64 s] 25)
  have hT2 := hd2.alloc (.cells #[.int .i64 a, .int .i64 s] 25)
  have hz2 : (w2.alloc (.cells #[.int .i64 a, .int .i64 s] 25)).heap.size = w2.heap.size + 1 := World.size_alloc ..
  clear P1 hd2 hS2
  go_wp2_with fail
  generalize w2.alloc (.cells #[.int .i64 a, .int .i64 s] 25) = w3 at *
  obtain ⟨k0, k1, kf⟩ := E2.two
  go_region_held3 (fun w' => w'.cell? ⟨w2.heap.size, 0, none⟩ = some (.int .i64 a) ∧ w'.cell? ⟨w2.heap.size, 1, none⟩ = some (.int .i64 s)) (first | exact ⟨k0, k1⟩ | exact ⟨u0, u1⟩ | exact ⟨v0, v1⟩ | exact ⟨h0, h1⟩ | (go_simp; done)) (first
    | (go_at_call 20; refine (pick_any AnyN A n c b _ 7 7 _ (hS5.alloc _) (by have := hS5.lt; omega) (by omega) (by omega) (allP_alloc AnyN w5 _ _ _ [0, 100, x, 1048576, 1048577, -1, y] rfl rfl (by simp [AnyN]; omega))).mono ?_; rintro e w6 ⟨u, rfl, hu, hS6, hd6⟩; have E6 := (E5.alloc _).dr hd6 (by omega); have P6 := (P5.alloc _).dr hd6 (by omega); obtain ⟨u0, u1, -⟩ := E6.two; obtain ⟨p0, p1, pf⟩ := P6.two)
    | (go_at_call 21; refine (next_any A n c b _ _ hS4).mono ?_; rintro e w5 ⟨y, rfl, y0, y1, -, hS5, hd5⟩; have y1 := y1 (by omega); have E5 := E4.dr hd5 (by omega); have P5 := P4.dr hd5 (by omega); have l5 := E5.lt; obtain ⟨v0, v1, -⟩ := E5.two)
    | (go_at_call 21; refine (next_any A n c b _ _ S2.drew).mono ?_; rintro e w4 ⟨x, rfl, x0, x1, -, hS4, hd4⟩; have x1 := x1 (by omega); have E4 := Blk.dr (w := w3.drew) E2 hd4 (by omega); have P4 := Blk.dr (w := w3.drew) P2 hd4 (by omega); have l4 := E4.lt; obtain ⟨h0, h1, -⟩ := E4.two))
  all_goals
    have hW6 := hW1.trans (((((hT2.drew.trans hd4).trans hd5).alloc _).trans hd6).below (B := w.heap.size) (by omega) hW1.size)
    go_wp2
    ((try simp only [Exit.inBlock, Exit.then]); refine bodyPost_ret (v := .tuple #[.agg #[.int .i64 a, .int .i64 s], .int .i64 u]) (by simp [results, Tryz.results5, go_sem, p0, p1, World.cell?_setCell_same']) rfl ?_)
    exact ⟨a, s, u, rfl, hI1, (hW6.setCell (p := ⟨w.heap.size, 0, none⟩) (Nat.le_refl _) _).setCell (p := ⟨w.heap.size, 1, none⟩) (Nat.le_refl _) _⟩

/-- Drawn errors with two numbers. -/
def SeN (w : World) (e : Ending) (w' : World) : Prop := ∃ x y z p q : Int, e = .returned (.tuple #[.agg #[.int .i64 (x), .int .i64 (y), .int .i64 (z)], .int .i64 p, .int .i64 q]) ∧ Below w.heap.size w w'
set_option maxHeartbeats 4000000 in
theorem drawScaleErrors_any (A : Option Addr) (n c : Nat) (w : World) (hn : n ≤ 4611686018427387904) (hB : Bytes w w.heap.size A n) :
    Calls Tryz.prog 14 #[.slice A n c] w (SeN w) := by
  go_enter Tryz.func14, Tryz.ntmps14
  go_wp2_with fail
  have R0 := Blk.new w 31 #[.int .i64 0, .int .i64 0, .int .i64 0]
  have hW0 : Below w.heap.size w (w.alloc (.cells #[.int .i64 0, .int .i64 0, .int .i64 0] 31)) := (Below.refl _ w).alloc (Nat.le_refl _) _
  refine (from_any A n c _ hn (hB.later hW0)).mono ?_
  rintro e w1 ⟨b, rfl, hb, hS1, hl1⟩
  rw [World.size_alloc] at hb
  have R1 : Blk w1 w.heap.size 31 #[.int .i64 0, .int .i64 0, .int .i64 0] := (hl1.block _ R0.lt).trans R0
  have hW1 := hW0.trans (hl1.mono (by simp))
  clear R0 hl1 hW0
  go_wp2_with fail
  refine (drawE_any A n c b _ hS1).mono ?_
  rintro e w3 ⟨x, y, z, rfl, hS3, hd3⟩
  have l3 := hS3.lt
  have R3 := (R1.dr hd3 (by omega)).alloc (.cells #[.int .i64 x, .int .i64 y, .int .i64 z] 31)
  have E3 := Blk.new w3 31 #[.int .i64 x, .int .i64 y, .int .i64 z]
  have hT3 := hd3.alloc (.cells #[.int .i64 x, .int .i64 y, .int .i64 z] 31)
  have S3 := hS3.alloc (.cells #[.int .i64 x, .int .i64 y, .int .i64 z] 31)
  clear R1 hd3 hS1 hS3
  go_wp2_with fail
  have hz3 : (w3.alloc (.cells #[.int .i64 x, .int .i64 y, .int .i64 z] 31)).heap.size = w3.heap.size + 1 := World.size_alloc ..
  generalize w3.alloc (.cells #[.int .i64 x, .int .i64 y, .int .i64 z] 31) = w4 at *
  obtain ⟨k0, k1, k2, kf⟩ := E3.tri
  have lw : w.heap.size < w4.heap.size := by have := R3.lt; omega
  have hN : w.heap.size ≤ b := by omega
  have hB4 : Bytes w4 w.heap.size A n := hB.keep fun k hk => (hW1.trans (hT3.below (B := w.heap.size) (by omega) hW1.size)).block k hk
  have hq1 : ∀ q ∈ [(7, w.heap.size, 31, 3)], q.2.1 ≠ b := by intro q hq; simp at hq; subst hq; simp; omega
  have hq2 : ∀ q ∈ [(7, w.heap.size, 31, 3)], q.2.1 ≠ b ∧ q.2.1 < w4.heap.size := by intro q hq; simp at hq; subst hq; simp; omega
  have HL := Lib.hid (fun wz (hz : DrC w.heap.size A n c b [(7, w.heap.size, 31, 3)] w4 wz) => (hz.keeps E3 (by omega) (by intro q hq; simp at hq; subst hq; simp; omega)).tri)
  have HB := Lib.hid hB4
  have HR := Lib.hid R3
  clear hB4 R3
  refine region_draws [(7, w.heap.size, 31, 3)] [(2, .row 7 AnyN), (3, .pure fun v => ∃ x, v = .int .i64 x ∧ AnyN x), (5, .row 7 AnyN), (6, .pure fun v => ∃ x, v = .int .i64 x ∧ AnyN x), (7, .blk w.heap.size 31)] S3 HB.out (by intro q hq; simp at hq; subst hq; exact ⟨_, rfl, HR.out⟩) (by intro p hp r T he; simp at hp; rcases hp with rfl | rfl | rfl | rfl | rfl <;> simp at he; obtain ⟨rfl, rfl⟩ := he; simp; omega) (by kernel_rfl) (by kernel_rfl) ?_
  (refine lz_one rfl (fun K hK => ?_); refine ⟨rfl, ?_⟩; apply Exists.intro; refine ⟨fun wz hz => ?_, ?_⟩; (focus (obtain ⟨k0, k1, k2, kf⟩ := HL.out wz hz; go_simp; (first | done | exact ⟨rfl, rfl⟩ | trivial))); (go_simp; refine hK _ _ ?_; clear hK K))
  (refine lz_one rfl (fun K hK => ?_); refine ⟨rfl, ?_⟩; apply Exists.intro; refine ⟨fun wz hz => ?_, ?_⟩; (focus (skip; go_simp; (first | done | exact ⟨rfl, rfl⟩ | trivial))); (go_simp; refine hK _ _ ?_; clear hK K))
  (refine lz_many _ rfl (fun K hK => ?_); refine ⟨rfl, fun wz hz ha => ?_, fun vz wz hz hf => ?_⟩; (focus (go_simp; exact lz_row (p := AnyN) hN hq2 rfl hz _ _ 7 [1, 2, 3, 10, 1000, 1001, 0] rfl rfl (by simp [AnyN]))); (obtain ⟨g1, rfl, -⟩ := hf; clear hz wz; go_simp; refine hK _ _ ?_; clear hK K))
  (refine lz_many _ rfl (fun K hK => ?_); refine ⟨rfl, fun wz hz ha => ?_, fun vz wz hz hf => ?_⟩; (focus (go_simp; exact lz_pick hN hq1 rfl hz (by omega) (by omega) (ha ⟨2, .data⟩ (by simp) rfl))); (obtain ⟨q, rfl, hq⟩ := hf; clear hz wz; go_simp; refine hK _ _ ?_; clear hK K))
  (refine lz_one rfl (fun K hK => ?_); refine ⟨rfl, ?_⟩; apply Exists.intro; refine ⟨fun wz hz => ?_, ?_⟩; (focus (skip; go_simp; (first | done | exact ⟨rfl, rfl⟩ | trivial))); (go_simp; refine hK _ _ ?_; clear hK K))
  (refine lz_many _ rfl (fun K hK => ?_); refine ⟨rfl, fun wz hz ha => ?_, fun vz wz hz hf => ?_⟩; (focus (go_simp; exact lz_row (p := AnyN) hN hq2 rfl hz _ _ 7 [1, 2, 3, 7, 1000, 1001, 0] rfl rfl (by simp [AnyN]))); (obtain ⟨g2, rfl, -⟩ := hf; clear hz wz; go_simp; refine hK _ _ ?_; clear hK K))
  (refine lz_many _ rfl (fun K hK => ?_); refine ⟨rfl, fun wz hz ha => ?_, fun vz wz hz hf => ?_⟩; (focus (go_simp; exact lz_pick hN hq1 rfl hz (by omega) (by omega) (ha ⟨5, .data⟩ (by simp) rfl))); (obtain ⟨u, rfl, hu⟩ := hf; clear hz wz; go_simp; refine hK _ _ ?_; clear hK K))
  (refine lz_many _ rfl (fun K hK => ?_); refine ⟨rfl, fun wz hz ha => ?_, fun vz wz hz hf => ?_⟩; (focus (obtain ⟨y0, e0⟩ := hz.cells (List.mem_singleton.2 rfl) 0 (by simp); obtain ⟨y1, e1⟩ := hz.cells (List.mem_singleton.2 rfl) 1 (by simp); obtain ⟨y2, e2⟩ := hz.cells (List.mem_singleton.2 rfl) 2 (by simp); have ef := hz.free (List.mem_singleton.2 rfl); simp only at e0 e1 e2 ef; go_simp; exact lz_three hN (Nat.le_refl _) (by omega) rfl (by intro q' hq' _; simp at hq'; subst hq'; rfl) hz rfl)); (obtain - := hf; clear hz wz; go_simp; refine hK _ _ ?_; clear hK K))
  (refine lz_one rfl (fun K hK => ?_); refine ⟨rfl, ?_⟩; apply Exists.intro; refine ⟨fun wz hz => ?_, ?_⟩; (focus (skip; go_simp; (first | done | exact ⟨rfl, rfl⟩ | trivial))); (go_simp; refine hK _ _ ?_; clear hK K))
  (refine lz_one rfl (fun K hK => ?_); refine ⟨rfl, ?_⟩; apply Exists.intro; refine ⟨fun wz hz => ?_, ?_⟩; (focus (skip; go_simp; (first | done | exact ⟨rfl, rfl⟩ | trivial))); (go_simp; refine hK _ _ ?_; clear hK K))
  refine lz_nil ?_
  intro w6 hz hg
  obtain ⟨cs, ecs, hR⟩ := hg 7
  cases ecs
  clear hg
  obtain ⟨p0, p1, p2, pf⟩ := hR.tri
  have lp := hR.lt
  have hW6 := hW1.trans ((hT3.below (B := w.heap.size) (by omega) hW1.size).trans (hz.below (B := w.heap.size) (by omega) (by omega) (by intro q hq; simp at hq; subst hq; simp)))
  go_wp2
  ((try simp only [Exit.inBlock, Exit.then]); refine bodyPost_ret (v := .tuple #[.agg #[.int .i64 (x), .int .i64 (y), .int .i64 (z)], .int .i64 q, .int .i64 u]) (by simp [results, Tryz.results14, go_sem, p0, p1, p2, World.cell?_setCell_same']) rfl ?_)
  exact ⟨x, y, z, q, u, rfl, hW6⟩

/-- A drawn scale, a length, errors and a figure. -/
def RbN (w : World) (e : Ending) (w' : World) : Prop := ∃ s l x y z d t : Int, e = .returned (.tuple #[.int .i64 s, .int .i64 l, .agg #[.int .i64 (x), .int .i64 (y), .int .i64 (z)], .agg #[.int .i64 d, .int .i64 t]]) ∧ LenN l ∧ FigN d t ∧ Below w.heap.size w w'
set_option maxHeartbeats 4000000 in
theorem drawReadingBound_any (A : Option Addr) (n c : Nat) (w : World) (hn : n ≤ 4611686018427387904) (hB : Bytes w w.heap.size A n) :
    Calls Tryz.prog 8 #[.slice A n c] w (RbN w) := by
  go_enter Tryz.func8, Tryz.ntmps8
  go_wp2_with fail
  have R0 := (Blk.new w 31 #[.int .i64 0, .int .i64 0, .int .i64 0]).alloc (.cells #[.int .i64 0, .int .i64 0] 25)
  have F0 := Blk.new (w.alloc (.cells #[.int .i64 0, .int .i64 0, .int .i64 0] 31)) 25 #[.int .i64 0, .int .i64 0]
  rw [World.size_alloc] at F0
  have hW0 : Below w.heap.size w ((w.alloc (.cells #[.int .i64 0, .int .i64 0, .int .i64 0] 31)).alloc (.cells #[.int .i64 0, .int .i64 0] 25)) := ((Below.refl _ w).alloc (Nat.le_refl _) _).alloc (by simp) _
  refine (from_any A n c _ hn (hB.later hW0)).mono ?_
  rintro e w1 ⟨b, rfl, hb, hS1, hl1⟩
  rw [World.size_alloc, World.size_alloc] at hb
  have R1 : Blk w1 w.heap.size 31 #[.int .i64 0, .int .i64 0, .int .i64 0] := (hl1.block _ R0.lt).trans R0
  have F1 : Blk w1 (w.heap.size + 1) 25 #[.int .i64 0, .int .i64 0] := (hl1.block _ F0.lt).trans F0
  have hW1 := hW0.trans (hl1.mono (by simp; omega))
  clear R0 F0 hl1 hW0
  go_wp2_with fail
  refine (drawErrorUnits_any A n c _ hn (hB.later hW1)).mono ?_
  rintro e w3 ⟨s, l, x, y, z, rfl, hl, hb3⟩
  have R3 := (R1.below hb3 R1.lt).alloc (.cells #[.int .i64 x, .int .i64 y, .int .i64 z] 31)
  have F3 := (F1.below hb3 F1.lt).alloc (.cells #[.int .i64 x, .int .i64 y, .int .i64 z] 31)
  have E3 := Blk.new w3 31 #[.int .i64 x, .int .i64 y, .int .i64 z]
  have l1 := hS1.lt
  have z3 := hb3.size
  have S3 := (hS1.under hb3 l1).alloc (.cells #[.int .i64 x, .int .i64 y, .int .i64 z] 31)
  have hW3 := (hW1.trans (hb3.mono hW1.size)).alloc (by omega) (.cells #[.int .i64 x, .int .i64 y, .int .i64 z] 31)
  clear R1 F1 hb3 hS1 hW1
  go_wp2_with fail
  have hz3 : (w3.alloc (.cells #[.int .i64 x, .int .i64 y, .int .i64 z] 31)).heap.size = w3.heap.size + 1 := World.size_alloc ..
  generalize w3.alloc (.cells #[.int .i64 x, .int .i64 y, .int .i64 z] 31) = w4 at *
  obtain ⟨k0, k1, k2, kf⟩ := E3.tri
  have ne1 : w.heap.size ≠ w.heap.size + 1 := by omega
  have ne2 : w.heap.size + 1 ≠ w.heap.size := by omega
  have lw : w.heap.size + 1 < w4.heap.size := by have := F3.lt; omega
  have hN : w.heap.size ≤ b := by omega
  have hB4 : Bytes w4 w.heap.size A n := hB.keep fun k hk => hW3.block k hk
  have hq1 : ∀ q ∈ [(7, w.heap.size, 31, 3), (8, w.heap.size + 1, 25, 2)], q.2.1 ≠ b := by intro q hq; simp at hq; rcases hq with rfl | rfl <;> simp <;> omega
  have HL := Lib.hid (fun wz (hz : DrC w.heap.size A n c b [(7, w.heap.size, 31, 3), (8, w.heap.size + 1, 25, 2)] w4 wz) => (hz.keeps E3 (by omega) (by intro q hq; simp at hq; rcases hq with rfl | rfl <;> simp <;> omega)).tri)
  have HB := Lib.hid hB4
  have HR := Lib.hid R3
  have HF := Lib.hid F3
  clear hB4 R3 F3
  refine region_draws [(7, w.heap.size, 31, 3), (8, w.heap.size + 1, 25, 2)] [(4, .pure fun v => ∃ x y, v = .agg #[.int .i64 x, .int .i64 y] ∧ FigN x y), (7, .blk w.heap.size 31), (8, .blk (w.heap.size + 1) 25)] S3 HB.out (by intro q hq; simp at hq; rcases hq with rfl | rfl; { exact ⟨_, rfl, HR.out⟩ }; { exact ⟨_, rfl, HF.out⟩ }) (by intro p hp r T he; simp at hp; rcases hp with rfl | rfl | rfl <;> simp at he <;> obtain ⟨rfl, rfl⟩ := he <;> simp <;> omega) (by kernel_rfl) (by kernel_rfl) ?_
  (refine lz_one rfl (fun K hK => ?_); refine ⟨rfl, ?_⟩; apply Exists.intro; refine ⟨fun wz hz => ?_, ?_⟩; (focus (skip; go_simp; (first | done | exact ⟨rfl, rfl⟩ | trivial))); (go_simp; refine hK _ _ ?_; clear hK K))
  (refine lz_one rfl (fun K hK => ?_); refine ⟨rfl, ?_⟩; apply Exists.intro; refine ⟨fun wz hz => ?_, ?_⟩; (focus (skip; go_simp; (first | done | exact ⟨rfl, rfl⟩ | trivial))); (go_simp; refine hK _ _ ?_; clear hK K))
  (refine lz_one rfl (fun K hK => ?_); refine ⟨rfl, ?_⟩; apply Exists.intro; refine ⟨fun wz hz => ?_, ?_⟩; (focus (obtain ⟨k0, k1, k2, kf⟩ := HL.out wz hz; go_simp; (first | done | exact ⟨rfl, rfl⟩ | trivial))); (go_simp; refine hK _ _ ?_; clear hK K))
  (refine lz_one rfl (fun K hK => ?_); refine ⟨rfl, ?_⟩; apply Exists.intro; refine ⟨fun wz hz => ?_, ?_⟩; (focus (skip; go_simp; (first | done | exact ⟨rfl, rfl⟩ | trivial))); (go_simp; refine hK _ _ ?_; clear hK K))
  (refine lz_many _ rfl (fun K hK => ?_); refine ⟨rfl, fun wz hz ha => ?_, fun vz wz hz hf => ?_⟩; (focus (go_simp; exact lz_gotF hN hq1 rfl hz (figDraw_any A n c b wz hz.src))); (obtain ⟨d, t, rfl, hf⟩ := hf; clear hz wz; go_simp; refine hK _ _ ?_; clear hK K))
  (refine lz_one rfl (fun K hK => ?_); refine ⟨rfl, ?_⟩; apply Exists.intro; refine ⟨fun wz hz => ?_, ?_⟩; (focus (skip; go_simp; (first | done | exact ⟨rfl, rfl⟩ | trivial))); (go_simp; refine hK _ _ ?_; clear hK K))
  (refine lz_one rfl (fun K hK => ?_); refine ⟨rfl, ?_⟩; apply Exists.intro; refine ⟨fun wz hz => ?_, ?_⟩; (focus (skip; go_simp; (first | done | exact ⟨rfl, rfl⟩ | trivial))); (go_simp; refine hK _ _ ?_; clear hK K))
  (refine lz_many _ rfl (fun K hK => ?_); refine ⟨rfl, fun wz hz ha => ?_, fun vz wz hz hf => ?_⟩; (focus (obtain ⟨y0, e0⟩ := hz.cells (List.mem_cons_self ..) 0 (by simp); obtain ⟨y1, e1⟩ := hz.cells (List.mem_cons_self ..) 1 (by simp); obtain ⟨y2, e2⟩ := hz.cells (List.mem_cons_self ..) 2 (by simp); have ef := hz.free (List.mem_cons_self ..); simp only at e0 e1 e2 ef; go_simp; exact lz_three hN (Nat.le_refl _) (by omega) rfl (by intro q' hq' he'; simp at hq'; rcases hq' with rfl | rfl; { rfl }; { simp at he' }) hz rfl)); (obtain - := hf; clear hz wz; go_simp; refine hK _ _ ?_; clear hK K))
  (refine lz_many _ rfl (fun K hK => ?_); refine ⟨rfl, fun wz hz ha => ?_, fun vz wz hz hf => ?_⟩; (focus (obtain ⟨y0, e0⟩ := hz.cells (List.mem_cons_of_mem _ (List.mem_cons_self ..)) 0 (by simp); obtain ⟨y1, e1⟩ := hz.cells (List.mem_cons_of_mem _ (List.mem_cons_self ..)) 1 (by simp); have ef := hz.free (List.mem_cons_of_mem _ (List.mem_cons_self ..)); simp only at e0 e1 ef; go_simp; exact lz_two hN (Nat.le_succ _) (by omega) rfl (by intro q' hq' he'; simp at hq'; rcases hq' with rfl | rfl; { simp at he' }; { rfl }) hz rfl)); (obtain - := hf; clear hz wz; go_simp; refine hK _ _ ?_; clear hK K))
  refine lz_nil ?_
  intro w5 hz hg
  obtain ⟨cs, ecs, hR⟩ := hg 7
  cases ecs
  obtain ⟨ds, eds, hF⟩ := hg 8
  cases eds
  clear hg
  obtain ⟨p0, p1, p2, pf⟩ := hR.tri
  obtain ⟨q0, q1, qf⟩ := hF.two
  have lp := hR.lt
  have lq := hF.lt
  have hW6 := hW3.trans (hz.below (B := w.heap.size) (by omega) (by omega) (by intro q hq; simp at hq; rcases hq with rfl | rfl <;> simp))
  clear k0 k1 k2 kf
  go_wp2
  ((try simp only [Exit.inBlock, Exit.then]); refine bodyPost_ret (v := .tuple #[.int .i64 s, .int .i64 l, .agg #[.int .i64 (x), .int .i64 (y), .int .i64 (z)], .agg #[.int .i64 d, .int .i64 t]]) (by simp [results, Tryz.results8, go_sem, p0, p1, p2, q0, q1, World.cell?_setCell_same']) rfl ?_)
  exact ⟨s, l, x, y, z, d, t, rfl, hl, hf, hW6⟩
end Go.Proofs.YtdbeedfapkfibaaGreatDoor
