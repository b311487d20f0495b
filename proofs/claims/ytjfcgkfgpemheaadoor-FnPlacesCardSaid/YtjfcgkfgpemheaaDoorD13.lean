/- Draws of chapter 5: a place, a distance, a name. -/
import Derived.Test.YtjfcgkfgpemheaaDoorD12
namespace Go.Proofs.YtjfcgkfgpemheaaDoor
open Go.RowKit
set_option linter.unusedVariables false
set_option linter.unusedSimpArgs false

set_option maxHeartbeats 1000000 in
theorem drawPlaceOf_any (A : Option Addr) (n c : Nat) (w : World) (hn : n ≤ 4611686018427387904) (hB : Bytes w w.heap.size A n) :
    Calls Tryd.prog 22 #[.slice A n c] w (ScaFL w) := by
  go_enter Tryd.func22, Tryd.ntmps22
  go_wp2_with fail
  have R0 := Blk.new w 25 #[.int .i64 0, .int .i64 0]
  have hW0 : Below w.heap.size w (w.alloc (.cells #[.int .i64 0, .int .i64 0] 25)) := (Below.refl _ w).alloc (Nat.le_refl _) _
  refine (from_any A n c _ hn (hB.later hW0)).mono ?_
  rintro e w1 ⟨b, rfl, hb, hS1, hl1⟩
  rw [World.size_alloc] at hb
  have R1 : Blk w1 w.heap.size 25 #[.int .i64 0, .int .i64 0] := (hl1.block _ R0.lt).trans R0
  have hW1 := hW0.trans (hl1.mono (by simp))
  clear R0 hl1 hW0
  go_wp2_with fail
  refine (drawScl_any A n c b _ hS1).mono ?_
  rintro e w2 ⟨s, rfl, hs, hS2, hd2⟩
  have R2 := R1.dr hd2 (by omega)
  have hW2 := hW1.trans (hd2.below (by omega) hW1.size)
  clear R1 hd2 hW1 hS1
  go_wp2_with fail
  refine (drawFigure5_any A n c b s _ hS2).mono ?_
  rintro e w3 ⟨a, t, rfl, hf, hS3, hd3⟩
  have l3 := hS3.lt
  have P3 := (R2.dr hd3 (by omega)).alloc (.cells #[.int .i64 a, .int .i64 t] 25)
  have E3 := Blk.new w3 25 #[.int .i64 a, .int .i64 t]
  have hT3 := hd3.alloc (.cells #[.int .i64 a, .int .i64 t] 25)
  have S3 := hS3.alloc (.cells #[.int .i64 a, .int .i64 t] 25)
  clear R2 hd3 hS2 hS3
  go_wp2_with fail
  generalize w3.alloc (.cells #[.int .i64 a, .int .i64 t] 25) = w4 at *
  obtain ⟨k0, k1, kf⟩ := E3.two
  go_region_held3 (fun w' => w'.cell? ⟨w3.heap.size, 0, none⟩ = some (.int .i64 a) ∧ w'.cell? ⟨w3.heap.size, 1, none⟩ = some (.int .i64 t)) (first | exact ⟨k0, k1⟩ | exact ⟨h0, h1⟩ | (go_simp; done)) (first
    | (go_at_call 45; refine (drawLength_any A n c b _ S3.drew).mono ?_; rintro e w5 ⟨y, rfl, hy, hS5, hd5⟩; obtain ⟨h0, h1, hf1⟩ := (Blk.dr (w := w4.drew) E3 hd5 (by omega)).two; obtain ⟨p0, p1, pf⟩ := (Blk.dr (w := w4.drew) P3 hd5 (by omega)).two))
  all_goals
    have hW6 := hW2.trans ((hT3.drew.trans hd5).below (B := w.heap.size) (by omega) hW2.size)
    go_wp2
    ((try simp only [Exit.inBlock, Exit.then]); refine bodyPost_ret (v := .tuple #[.int .i64 s, .agg #[.int .i64 a, .int .i64 t], .int .i64 y]) (by simp [results, Tryd.results22, go_sem, p0, p1, World.cell?_setCell_same']) rfl ?_)
    exact ⟨s, a, t, y, rfl, hs, hf, hy, (hW6.setCell (p := ⟨w.heap.size, 0, none⟩) (Nat.le_refl _) _).setCell (p := ⟨w.heap.size, 1, none⟩) (Nat.le_refl _) _⟩

set_option maxHeartbeats 2000000 in
theorem drawDistance_any (A : Option Addr) (n c : Nat) (w : World) (hn : n ≤ 4611686018427387904) (hB : Bytes w w.heap.size A n) :
    Calls Tryd.prog 25 #[.slice A n c] w (ScaFFL w) := by
  go_enter Tryd.func25, Tryd.ntmps25
  go_wp2_with fail
  have R0 := (Blk.new w 25 #[.int .i64 0, .int .i64 0]).alloc (.cells #[.int .i64 0, .int .i64 0] 25)
  have Q0 := Blk.new (w.alloc (.cells #[.int .i64 0, .int .i64 0] 25)) 25 #[.int .i64 0, .int .i64 0]
  rw [World.size_alloc] at Q0
  have hW0 : Below w.heap.size w ((w.alloc (.cells #[.int .i64 0, .int .i64 0] 25)).alloc (.cells #[.int .i64 0, .int .i64 0] 25)) := ((Below.refl _ w).alloc (Nat.le_refl _) _).alloc (by rw [World.size_alloc]; omega) _
  refine (from_any A n c _ hn (hB.later hW0)).mono ?_
  rintro e w1 ⟨b, rfl, hb, hS1, hl1⟩
  rw [World.size_alloc, World.size_alloc] at hb
  have R1 : Blk w1 w.heap.size 25 #[.int .i64 0, .int .i64 0] := (hl1.block _ R0.lt).trans R0
  have Q1 : Blk w1 (w.heap.size + 1) 25 #[.int .i64 0, .int .i64 0] := (hl1.block _ Q0.lt).trans Q0
  have hW1 := hW0.trans (hl1.mono (by simp; omega))
  clear R0 Q0 hl1 hW0
  go_wp2_with fail
  refine (drawScl_any A n c b _ hS1).mono ?_
  rintro e w2 ⟨s, rfl, hs, hS2, hd2⟩
  have R2 := R1.dr hd2 (by omega)
  have Q2 := Q1.dr hd2 (by omega)
  have hW2 := hW1.trans (hd2.below (by omega) hW1.size)
  clear R1 Q1 hd2 hW1 hS1
  go_wp2_with fail
  refine (drawFigure5_any A n c b s _ hS2).mono ?_
  rintro e w3 ⟨a, t, rfl, hf, hS3, hd3⟩
  have l3 := hS3.lt
  have R3 := (R2.dr hd3 (by omega)).alloc (.cells #[.int .i64 a, .int .i64 t] 25)
  have Q3 := (Q2.dr hd3 (by omega)).alloc (.cells #[.int .i64 a, .int .i64 t] 25)
  have E3 := Blk.new w3 25 #[.int .i64 a, .int .i64 t]
  have hT3 := hd3.alloc (.cells #[.int .i64 a, .int .i64 t] 25)
  have S3 := hS3.alloc (.cells #[.int .i64 a, .int .i64 t] 25)
  have z3 : (w3.alloc (.cells #[.int .i64 a, .int .i64 t] 25)).heap.size = w3.heap.size + 1 := World.size_alloc ..
  clear R2 Q2 hd3 hS2 hS3
  go_wp2_with fail
  refine (drawFigure5_any A n c b s _ S3).mono ?_
  rintro e w4 ⟨a', t', rfl, hf', hS4, hd4⟩
  have l4 := hS4.lt
  have z4 := hd4.size
  have R4 := (R3.dr hd4 (by omega)).alloc (.cells #[.int .i64 a', .int .i64 t'] 25)
  have Q4 := (Q3.dr hd4 (by omega)).alloc (.cells #[.int .i64 a', .int .i64 t'] 25)
  have E4 := (E3.dr hd4 (by omega)).alloc (.cells #[.int .i64 a', .int .i64 t'] 25)
  have F4 := Blk.new w4 25 #[.int .i64 a', .int .i64 t']
  have hT4 := (hT3.trans hd4).alloc (.cells #[.int .i64 a', .int .i64 t'] 25)
  have S4 := hS4.alloc (.cells #[.int .i64 a', .int .i64 t'] 25)
  clear R3 Q3 E3 hd4 hT3 S3 hS4
  go_wp2_with fail
  generalize w4.alloc (.cells #[.int .i64 a', .int .i64 t'] 25) = w6 at *
  obtain ⟨k0, k1, kf⟩ := E4.two
  obtain ⟨j0, j1, jf⟩ := F4.two
  go_region_held3 (fun w' => w'.cell? ⟨w3.heap.size, 0, none⟩ = some (.int .i64 a) ∧ w'.cell? ⟨w3.heap.size, 1, none⟩ = some (.int .i64 t) ∧ w'.cell? ⟨w4.heap.size, 0, none⟩ = some (.int .i64 a') ∧ w'.cell? ⟨w4.heap.size, 1, none⟩ = some (.int .i64 t')) (first | exact ⟨k0, k1, j0, j1⟩ | exact ⟨h0, h1, i0, i1⟩ | (go_simp; done)) (first
    | (go_at_call 45; refine (drawLength_any A n c b _ S4.drew).mono ?_; rintro e w5 ⟨y, rfl, hy, hS5, hd5⟩; obtain ⟨h0, h1, hf1⟩ := (Blk.dr (w := w6.drew) E4 hd5 (by omega)).two; obtain ⟨i0, i1, if1⟩ := (Blk.dr (w := w6.drew) F4 hd5 (by omega)).two; obtain ⟨p0, p1, pf⟩ := (Blk.dr (w := w6.drew) R4 hd5 (by omega)).two; obtain ⟨q0, q1, qf⟩ := (Blk.dr (w := w6.drew) Q4 hd5 (by omega)).two))
  all_goals
    have hW6 := hW2.trans ((hT4.drew.trans hd5).below (B := w.heap.size) (by omega) hW2.size)
    go_wp2
    ((try simp only [Exit.inBlock, Exit.then]); refine bodyPost_ret (v := .tuple #[.int .i64 s, .agg #[.int .i64 a, .int .i64 t], .agg #[.int .i64 a', .int .i64 t'], .int .i64 y]) (by simp [results, Tryd.results25, go_sem, p0, p1, q0, q1, World.cell?_setCell_same']) rfl ?_)
    exact ⟨s, a, t, a', t', y, rfl, hs, hf, hf', hy, (((hW6.setCell (p := ⟨w.heap.size, 0, none⟩) (Nat.le_refl _) _).setCell (p := ⟨w.heap.size, 1, none⟩) (Nat.le_refl _) _).setCell (p := ⟨w.heap.size + 1, 0, none⟩) (Nat.le_succ _) _).setCell (p := ⟨w.heap.size + 1, 1, none⟩) (Nat.le_succ _) _⟩

theorem nmA_size (k : Nat) : (nmA k).size ≤ 2 := by
  rcases (show k = 0 ∨ k = 1 ∨ k = 2 ∨ k = 3 ∨ k = 4 ∨ 5 ≤ k by omega) with rfl | rfl | rfl | rfl | rfl | h
  iterate 5 exact (by decide)
  obtain ⟨j, rfl⟩ : ∃ j, k = j + 5 := ⟨k - 5, by omega⟩
  exact (by decide : (⟨#[76]⟩ : ByteArray).size ≤ 2)

set_option maxHeartbeats 1000000 in
theorem drawReadScale_any (A : Option Addr) (n c : Nat) (w : World) (hn : n ≤ 4611686018427387904) (hB : Bytes w w.heap.size A n) :
    Calls Tryd.prog 31 #[.slice A n c] w (OneS 3 w) := by
  go_enter Tryd.func31, Tryd.ntmps31
  go_wp2_with fail
  refine (from_any A n c _ hn hB).mono ?_
  rintro e w1 ⟨b, rfl, hb, hS1, hl1⟩
  have l1 := hS1.lt
  go_wp2_with fail
  refine (names_spec _).mono ?_
  rintro e w2 ⟨rfl, rfl⟩
  go_wp2_with fail
  refine (next_any A n c b _ _ (hS1.alloc nmObj)).mono ?_
  rintro e w2 ⟨x, rfl, x0, x1, -, hS2, hd2⟩
  have x1 := x1 (by omega)
  obtain ⟨x, rfl⟩ := Int.eq_ofNat_of_zero_le x0
  have hx : x < 6 := by omega
  have C2 : w2.cell? ⟨w1.heap.size, x, none⟩ = some (.string (nmA x)) := hd2.cell (a := ⟨w1.heap.size, x, none⟩) (nmObj_cell w1 x hx) (by exact Nat.ne_of_gt l1)
  have hT2 := (Dr.refl b w1).alloc nmObj |>.trans hd2
  have hz := nmA_size x
  clear hS1 hd2 x0
  go_wp2_with fail
  generalize nmA x = y at *
  refine (next_any A n c b _ _ hS2).mono ?_
  rintro e w3 ⟨z, rfl, z0, z1, -, hS3, hd3⟩
  have hT3 := hT2.trans hd3
  have hW3 := hl1.trans (hT3.below hb hl1.size)
  clear hS2 hd3 hT2 z1 C2
  by_cases hz0 : z = 0
  · subst hz0
    go_wp2_with fail
    refine (damage_any A n c b y (by omega) _ hS3).mono ?_
    rintro e w5 ⟨u, rfl, hu, hS5, hd5⟩
    have hW5 := hl1.trans ((hT3.trans hd5).below hb hl1.size)
    go_wp2_with fail
    go_ret
    exact ⟨u, rfl, by omega, hW5⟩
  · have hz2 : (z == 0) = false := by simp [hz0]
    go_wp2_with fail
    go_ret
    exact ⟨y, rfl, by omega, hW3⟩
end Go.Proofs.YtjfcgkfgpemheaaDoor
