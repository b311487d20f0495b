/- Draws of chapter 6: what NeededLength is asked. -/
import Derived.Test.YtgadkpkpdpphbaaDoorD15
namespace Go.Proofs.YtgadkpkpdpphbaaDoor
open Go.RowKit
set_option linter.unusedVariables false
set_option linter.unusedSimpArgs false

def PrtN (x : Int) : Prop := 0 ≤ x ∧ x ≤ 5
/-- A drawn scale, figure, eye, number of digits. -/
def NlN (w : World) (e : Ending) (w' : World) : Prop := ∃ s a t k g : Int, e = .returned (.tuple #[.int .i64 s, .agg #[.int .i64 a, .int .i64 t], .int .i64 k, .int .i64 g]) ∧ ScaN s ∧ FigN a t ∧ EyeN k ∧ PrtN g ∧ Below w.heap.size w w'
theorem AllP.dr {P : Int → Prop} {b g k : Nat} {w w' : World} (h : AllP P w g k) (hd : Dr b w w') (hg : g ≠ b) : AllP P w' g k := by
  intro j hj
  obtain ⟨x, hx, hc⟩ := h j hj
  exact ⟨x, hx, hd.cell (a := ⟨g, j, none⟩) hc hg⟩
theorem tmod_dec {x d : Int} (x0 : 0 ≤ x) (d1 : 1 ≤ d) (d2 : d ≤ 3) : 0 ≤ x.tmod d ∧ x.tmod d ≤ 2 := by
  rw [Int.tmod_eq_emod_of_nonneg x0]
  have := Int.emod_nonneg x (show d ≠ 0 by omega)
  have := Int.emod_lt_of_pos x (show 0 < d by omega)
  omega

set_option maxHeartbeats 4000000 in
set_option maxRecDepth 100000 in
theorem drawNeeded_any (A : Option Addr) (n c : Nat) (w : World) (hn : n ≤ 4611686018427387904) (hB : Bytes w w.heap.size A n) :
    Calls Tryd.prog 26 #[.slice A n c] w (NlN w) := by
  go_enter Tryd.func26, Tryd.ntmps26
  go_wp2_with fail
  have R0 := Blk.new w 27 #[.int .i64 0, .int .i64 0]
  have hW0 : Below w.heap.size w (w.alloc (.cells #[.int .i64 0, .int .i64 0] 27)) := (Below.refl _ w).alloc (Nat.le_refl _) _
  refine (from_any A n c _ hn (hB.later hW0)).mono ?_
  rintro e w1 ⟨b, rfl, hb, hS1, hl1⟩
  rw [World.size_alloc] at hb
  have R1 : Blk w1 w.heap.size 27 #[.int .i64 0, .int .i64 0] := (hl1.block _ R0.lt).trans R0
  have hW1 := hW0.trans (hl1.mono (by simp))
  clear R0 hl1 hW0
  go_wp2_with fail
  refine (drawScl_any A n c b _ hS1).mono ?_
  rintro e w2 ⟨s, rfl, hs, hS2, hd2⟩
  have R2 := R1.dr hd2 (by omega)
  have hW2 := hW1.trans (hd2.below (by omega) hW1.size)
  clear R1 hd2 hW1 hS1
  go_wp2_with fail
  refine (drawFigure5_any A n c b s _ hS2).mono ?_
  rintro e w3 ⟨a, t, rfl, hf, hS3, hd3⟩
  have l3 := hS3.lt
  have P3 := (R2.dr hd3 (by omega)).alloc (.cells #[.int .i64 a, .int .i64 t] 27)
  have E3 := Blk.new w3 27 #[.int .i64 a, .int .i64 t]
  have hT3 := hd3.alloc (.cells #[.int .i64 a, .int .i64 t] 27)
  have S3 := hS3.alloc (.cells #[.int .i64 a, .int .i64 t] 27)
  have z3 : w2.heap.size ≤ w3.heap.size := hd3.size
  have z2 : w.heap.size < w3.heap.size := by have := R2.lt; omega
  clear R2 hd3 hS2 hS3
  go_wp2_with fail
  refine (next_any A n c b _ _ S3).mono ?_
  rintro e w4 ⟨x, rfl, x0, x1, -, S4, hd4⟩
  have P4 := P3.dr hd4 (by omega)
  have E4 := E3.dr hd4 (by omega)
  have hT4 := hT3.trans hd4
  clear P3 E3 S3 hd4 hT3 x1
  by_cases hx : 0 < x
  · clear x0
    go_wp2_with fail
    refine (next_any A n c b _ _ S4).mono ?_
    rintro e w5 ⟨u, rfl, u0, u1, -, S5, hd5⟩
    have P5 := P4.dr hd5 (by omega)
    have E5 := E4.dr hd5 (by omega)
    have hT5 := hT4.trans hd5
    have HD := Lib.hid (fun W => decades_spec s W)
    obtain ⟨d1, d2⟩ := dec_bd s
    generalize dec s = dc at *
    obtain ⟨v0, v1⟩ := tmod_dec u0 d1 d2
    have ev : u.tmod dc = u % dc := Int.tmod_eq_emod_of_nonneg u0
    rw [ev] at v0 v1
    have P6 := P5.far (a := ⟨w3.heap.size, 1, none⟩) (by show w3.heap.size ≠ w.heap.size; omega) (.int .i64 (u % dc))
    have E6 : Blk _ _ _ #[.int .i64 a, .int .i64 (u % dc)] := E5.set 1 (.int .i64 (u % dc))
    have S6 := S5.far (a := ⟨w3.heap.size, 1, none⟩) (by exact l3) (.int .i64 (u % dc))
    have hT6 := hT5.setCell (a := ⟨w3.heap.size, 1, none⟩) (.inr (by show w2.heap.size ≤ w3.heap.size; omega)) (.int .i64 (u % dc))
    obtain ⟨k0, k1, kf⟩ := E5.two
    clear P4 E4 S4 hd5 hT4 u1 P5 E5 S5 hT5 ev
    go_wp2_with (go_at_call 58; refine (HD.out _).mono ?_; rintro e w' ⟨rfl, rfl⟩)
    clear k0 k1 kf HD
    generalize w5.setCell ⟨w3.heap.size, 1, none⟩ (.int .i64 (u % dc)) = w6 at *
    generalize u % dc = t' at *
    have hf6 : FigN a t' := ⟨hf.1, by omega, by omega⟩
    have kb := E6.lt
    have hAll : AllP PrtN (w6.alloc (.cells #[.int .i64 2, .int .i64 3, .int .i64 1, .int .i64 4, .int .i64 2, .int .i64 3, .int .i64 0, .int .i64 5] 2)).drew w6.heap.size 8 := allP_alloc PrtN w6 _ 2 8 [2, 3, 1, 4, 2, 3, 0, 5] rfl rfl (by simp [PrtN])
    obtain ⟨k0, k1, kf⟩ := E6.two
    go_region_held3 (fun w' => w'.cell? ⟨w3.heap.size, 0, none⟩ = some (.int .i64 a) ∧ w'.cell? ⟨w3.heap.size, 1, none⟩ = some (.int .i64 t')) (first | exact ⟨k0, k1⟩ | exact ⟨h0, h1⟩ | exact ⟨m0, m1⟩ | exact ⟨(World.cell?_alloc_past _ _ _ hE7.lt).trans h0, (World.cell?_alloc_past _ _ _ hE7.lt).trans h1⟩ | exact ⟨(World.cell?_alloc_past _ _ _ kb).trans k0, (World.cell?_alloc_past _ _ _ kb).trans k1⟩ | (go_simp; done)) (first
      | (go_at_call 42; refine (drawEye_any A n c b _ (by first | with_reducible exact S6.drew | with_reducible exact (S6.alloc (.cells #[.int .i64 2, .int .i64 3, .int .i64 1, .int .i64 4, .int .i64 2, .int .i64 3, .int .i64 0, .int .i64 5] 2)).drew)).mono ?_; rintro e w7 ⟨y, rfl, hy, hS7, hd7⟩; have hE7 : Blk w7 w3.heap.size 27 #[.int .i64 a, .int .i64 t'] := (by first | exact Blk.dr (w := w6.drew) E6 (by with_reducible exact hd7) (by omega) | exact Blk.dr (w := (w6.alloc (.cells #[.int .i64 2, .int .i64 3, .int .i64 1, .int .i64 4, .int .i64 2, .int .i64 3, .int .i64 0, .int .i64 5] 2)).drew) (E6.alloc (.cells #[.int .i64 2, .int .i64 3, .int .i64 1, .int .i64 4, .int .i64 2, .int .i64 3, .int .i64 0, .int .i64 5] 2)) (by with_reducible exact hd7) (by omega)); have hP7 : Blk w7 w.heap.size 27 #[.int .i64 0, .int .i64 0] := (by first | exact Blk.dr (w := w6.drew) P6 (by with_reducible exact hd7) (by omega) | exact Blk.dr (w := (w6.alloc (.cells #[.int .i64 2, .int .i64 3, .int .i64 1, .int .i64 4, .int .i64 2, .int .i64 3, .int .i64 0, .int .i64 5] 2)).drew) (P6.alloc (.cells #[.int .i64 2, .int .i64 3, .int .i64 1, .int .i64 4, .int .i64 2, .int .i64 3, .int .i64 0, .int .i64 5] 2)) (by with_reducible exact hd7) (by omega)); obtain ⟨h0, h1, hf1⟩ := hE7.two)
      | (go_at_call 59; (first | (have hAll7 : AllP PrtN (w7.alloc (.cells #[.int .i64 2, .int .i64 3, .int .i64 1, .int .i64 4, .int .i64 2, .int .i64 3, .int .i64 0, .int .i64 5] 2)) w7.heap.size 8 := allP_alloc PrtN w7 _ 2 8 [2, 3, 1, 4, 2, 3, 0, 5] rfl rfl (by simp [PrtN]); with_reducible refine (pick_any PrtN A n c b _ 8 8 _ (hS7.alloc (.cells #[.int .i64 2, .int .i64 3, .int .i64 1, .int .i64 4, .int .i64 2, .int .i64 3, .int .i64 0, .int .i64 5] 2)) (by have := hS7.lt; omega) (by omega) (by omega) hAll7).mono ?_) | with_reducible refine (pick_any PrtN A n c b _ 8 8 _ hS7 (by have := S6.lt; omega) (by omega) (by omega) (AllP.dr (w := (w6.alloc (.cells #[.int .i64 2, .int .i64 3, .int .i64 1, .int .i64 4, .int .i64 2, .int .i64 3, .int .i64 0, .int .i64 5] 2)).drew) hAll hd7 (by have := S6.lt; omega))).mono ?_); rintro e w8 ⟨q, rfl, hq, hS8, hd8⟩; have hE8 : Blk w8 w3.heap.size 27 #[.int .i64 a, .int .i64 t'] := (by first | exact Blk.dr (w := w7) hE7 (by with_reducible exact hd8) (by omega) | exact Blk.dr (hE7.alloc (.cells #[.int .i64 2, .int .i64 3, .int .i64 1, .int .i64 4, .int .i64 2, .int .i64 3, .int .i64 0, .int .i64 5] 2)) (by with_reducible exact hd8) (by omega)); have hP8 : Blk w8 w.heap.size 27 #[.int .i64 0, .int .i64 0] := (by first | exact Blk.dr (w := w7) hP7 (by with_reducible exact hd8) (by omega) | exact Blk.dr (hP7.alloc (.cells #[.int .i64 2, .int .i64 3, .int .i64 1, .int .i64 4, .int .i64 2, .int .i64 3, .int .i64 0, .int .i64 5] 2)) (by with_reducible exact hd8) (by omega)); obtain ⟨m0, m1, mf1⟩ := hE8.two; obtain ⟨p0, p1, pf⟩ := hP8.two))
    all_goals
      have hT8 : Dr b w2 w8 := by
        first
          | with_reducible exact (((hT6.drew).trans hd7).alloc (.cells #[.int .i64 2, .int .i64 3, .int .i64 1, .int .i64 4, .int .i64 2, .int .i64 3, .int .i64 0, .int .i64 5] 2)).trans hd8
          | with_reducible exact ((((hT6.alloc (.cells #[.int .i64 2, .int .i64 3, .int .i64 1, .int .i64 4, .int .i64 2, .int .i64 3, .int .i64 0, .int .i64 5] 2)).drew).trans hd7)).trans hd8
      have hW8 := hW2.trans (hT8.below (B := w.heap.size) (by omega) hW2.size)
      go_wp2
      ((try simp only [Exit.inBlock, Exit.then]); refine bodyPost_ret (v := .tuple #[.int .i64 s, .agg #[.int .i64 a, .int .i64 t'], .int .i64 y, .int .i64 q]) (by simp [results, Tryd.results26, go_sem, p0, p1, World.cell?_setCell_same']) rfl ?_)
      exact ⟨s, a, t', y, q, rfl, hs, hf6, hy, hq, (hW8.setCell (p := ⟨w.heap.size, 0, none⟩) (Nat.le_refl _) _).setCell (p := ⟨w.heap.size, 1, none⟩) (Nat.le_refl _) _⟩
  · obtain rfl : x = 0 := by omega
    clear x0 hx
    have kb := E4.lt
    have hAll : AllP PrtN (w4.alloc (.cells #[.int .i64 2, .int .i64 3, .int .i64 1, .int .i64 4, .int .i64 2, .int .i64 3, .int .i64 0, .int .i64 5] 2)).drew w4.heap.size 8 := allP_alloc PrtN w4 _ 2 8 [2, 3, 1, 4, 2, 3, 0, 5] rfl rfl (by simp [PrtN])
    obtain ⟨k0, k1, kf⟩ := E4.two
    go_wp2_with fail
    go_region_held3 (fun w' => w'.cell? ⟨w3.heap.size, 0, none⟩ = some (.int .i64 a) ∧ w'.cell? ⟨w3.heap.size, 1, none⟩ = some (.int .i64 t)) (first | exact ⟨k0, k1⟩ | exact ⟨h0, h1⟩ | exact ⟨m0, m1⟩ | exact ⟨(World.cell?_alloc_past _ _ _ hE7.lt).trans h0, (World.cell?_alloc_past _ _ _ hE7.lt).trans h1⟩ | exact ⟨(World.cell?_alloc_past _ _ _ kb).trans k0, (World.cell?_alloc_past _ _ _ kb).trans k1⟩ | (go_simp; done)) (first
      | (go_at_call 42; refine (drawEye_any A n c b _ (by first | with_reducible exact S4.drew | with_reducible exact (S4.alloc (.cells #[.int .i64 2, .int .i64 3, .int .i64 1, .int .i64 4, .int .i64 2, .int .i64 3, .int .i64 0, .int .i64 5] 2)).drew)).mono ?_; rintro e w7 ⟨y, rfl, hy, hS7, hd7⟩; have hE7 : Blk w7 w3.heap.size 27 #[.int .i64 a, .int .i64 t] := (by first | exact Blk.dr (w := w4.drew) E4 (by with_reducible exact hd7) (by omega) | exact Blk.dr (w := (w4.alloc (.cells #[.int .i64 2, .int .i64 3, .int .i64 1, .int .i64 4, .int .i64 2, .int .i64 3, .int .i64 0, .int .i64 5] 2)).drew) (E4.alloc (.cells #[.int .i64 2, .int .i64 3, .int .i64 1, .int .i64 4, .int .i64 2, .int .i64 3, .int .i64 0, .int .i64 5] 2)) (by with_reducible exact hd7) (by omega)); have hP7 : Blk w7 w.heap.size 27 #[.int .i64 0, .int .i64 0] := (by first | exact Blk.dr (w := w4.drew) P4 (by with_reducible exact hd7) (by omega) | exact Blk.dr (w := (w4.alloc (.cells #[.int .i64 2, .int .i64 3, .int .i64 1, .int .i64 4, .int .i64 2, .int .i64 3, .int .i64 0, .int .i64 5] 2)).drew) (P4.alloc (.cells #[.int .i64 2, .int .i64 3, .int .i64 1, .int .i64 4, .int .i64 2, .int .i64 3, .int .i64 0, .int .i64 5] 2)) (by with_reducible exact hd7) (by omega)); obtain ⟨h0, h1, hf1⟩ := hE7.two)
      | (go_at_call 59; (first | (have hAll7 : AllP PrtN (w7.alloc (.cells #[.int .i64 2, .int .i64 3, .int .i64 1, .int .i64 4, .int .i64 2, .int .i64 3, .int .i64 0, .int .i64 5] 2)) w7.heap.size 8 := allP_alloc PrtN w7 _ 2 8 [2, 3, 1, 4, 2, 3, 0, 5] rfl rfl (by simp [PrtN]); with_reducible refine (pick_any PrtN A n c b _ 8 8 _ (hS7.alloc (.cells #[.int .i64 2, .int .i64 3, .int .i64 1, .int .i64 4, .int .i64 2, .int .i64 3, .int .i64 0, .int .i64 5] 2)) (by have := hS7.lt; omega) (by omega) (by omega) hAll7).mono ?_) | with_reducible refine (pick_any PrtN A n c b _ 8 8 _ hS7 (by have := S4.lt; omega) (by omega) (by omega) (AllP.dr (w := (w4.alloc (.cells #[.int .i64 2, .int .i64 3, .int .i64 1, .int .i64 4, .int .i64 2, .int .i64 3, .int .i64 0, .int .i64 5] 2)).drew) hAll hd7 (by have := S4.lt; omega))).mono ?_); rintro e w8 ⟨q, rfl, hq, hS8, hd8⟩; have hE8 : Blk w8 w3.heap.size 27 #[.int .i64 a, .int .i64 t] := (by first | exact Blk.dr (w := w7) hE7 (by with_reducible exact hd8) (by omega) | exact Blk.dr (hE7.alloc (.cells #[.int .i64 2, .int .i64 3, .int .i64 1, .int .i64 4, .int .i64 2, .int .i64 3, .int .i64 0, .int .i64 5] 2)) (by with_reducible exact hd8) (by omega)); have hP8 : Blk w8 w.heap.size 27 #[.int .i64 0, .int .i64 0] := (by first | exact Blk.dr (w := w7) hP7 (by with_reducible exact hd8) (by omega) | exact Blk.dr (hP7.alloc (.cells #[.int .i64 2, .int .i64 3, .int .i64 1, .int .i64 4, .int .i64 2, .int .i64 3, .int .i64 0, .int .i64 5] 2)) (by with_reducible exact hd8) (by omega)); obtain ⟨m0, m1, mf1⟩ := hE8.two; obtain ⟨p0, p1, pf⟩ := hP8.two))
    all_goals
      have hT8 : Dr b w2 w8 := by
        first
          | with_reducible exact (((hT4.drew).trans hd7).alloc (.cells #[.int .i64 2, .int .i64 3, .int .i64 1, .int .i64 4, .int .i64 2, .int .i64 3, .int .i64 0, .int .i64 5] 2)).trans hd8
          | with_reducible exact ((((hT4.alloc (.cells #[.int .i64 2, .int .i64 3, .int .i64 1, .int .i64 4, .int .i64 2, .int .i64 3, .int .i64 0, .int .i64 5] 2)).drew).trans hd7)).trans hd8
      have hW8 := hW2.trans (hT8.below (B := w.heap.size) (by omega) hW2.size)
      go_wp2
      ((try simp only [Exit.inBlock, Exit.then]); refine bodyPost_ret (v := .tuple #[.int .i64 s, .agg #[.int .i64 a, .int .i64 t], .int .i64 y, .int .i64 q]) (by simp [results, Tryd.results26, go_sem, p0, p1, World.cell?_setCell_same']) rfl ?_)
      exact ⟨s, a, t, y, q, rfl, hs, hf, hy, hq, (hW8.setCell (p := ⟨w.heap.size, 0, none⟩) (Nat.le_refl _) _).setCell (p := ⟨w.heap.size, 1, none⟩) (Nat.le_refl _) _⟩
end Go.Proofs.YtgadkpkpdpphbaaDoor
