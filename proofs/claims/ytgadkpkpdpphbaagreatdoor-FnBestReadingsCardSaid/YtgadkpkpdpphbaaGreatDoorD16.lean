/- Draws of chapter 6: what its laws draw. -/
import Derived.Test.YtgadkpkpdpphbaaGreatDoorD15
import Derived.Test.YtgadkpkpdpphbaaGreatDoorFd
namespace Go.Proofs.YtgadkpkpdpphbaaGreatDoor
open Go.RowKit
set_option linter.unusedVariables false
set_option linter.unusedSimpArgs false
attribute [local go_sem high] run_imin run_imax

def BstR (w : World) (e : Ending) (w' : World) : Prop := ∃ s l p : Int, e = .returned (.tuple #[.int .i64 s, .int .i64 l, .int .i64 p]) ∧ ScaN s ∧ LenN l ∧ PtN p ∧ Below w.heap.size w w'
theorem drawBest_any (A : Option Addr) (n c : Nat) (w : World) (hn : n ≤ 4611686018427387904) (hB : Bytes w w.heap.size A n) :
    Calls Tryz.prog 5 #[.slice A n c] w (BstR w) := by
  go_enter Tryz.func5, Tryz.ntmps5
  go_wp2_with fail
  refine (drawFirst_any A n c w hn hB).mono ?_
  rintro e w1 ⟨s, l, p, k, rfl, hs, hl, hp, hk, hb⟩
  go_wp2_with fail
  go_ret3
  exact ⟨s, l, p, rfl, hs, hl, hp, hb⟩
theorem drawReadError_any (A : Option Addr) (n c : Nat) (w : World) (hn : n ≤ 4611686018427387904) (hB : Bytes w w.heap.size A n) :
    Calls Tryz.prog 11 #[.slice A n c] w (RdN w) := by
  go_enter Tryz.func11, Tryz.ntmps11
  go_wp2_with fail
  refine (drawFirst_any A n c w hn hB).mono ?_
  rintro e w1 ⟨s, l, p, k, rfl, hs, hl, hp, hk, hb⟩
  go_wp2_with fail
  ((try simp only [Exit.inBlock, Exit.then]); refine bodyPost_ret (v := .tuple #[.int .i64 s, .int .i64 l, .int .i64 p, .int .i64 k]) (by simp [results, Tryz.results11, go_sem]) rfl ?_)
  exact ⟨s, l, p, k, rfl, hs, hl, hp, hk, hb⟩

/-- A drawn scale, figure, length, point, eye. -/
def MbN (w : World) (e : Ending) (w' : World) : Prop := ∃ s a t l p k : Int, e = .returned (.tuple #[.int .i64 s, .agg #[.int .i64 a, .int .i64 t], .int .i64 l, .int .i64 p, .int .i64 k]) ∧ ScaN s ∧ FigN a t ∧ LenN l ∧ PtN p ∧ EyeN k ∧ Below w.heap.size w w'

set_option maxHeartbeats 4000000 in
set_option maxRecDepth 100000 in
theorem drawMayBe_any (A : Option Addr) (n c : Nat) (w : World) (hn : n ≤ 4611686018427387904) (hB : Bytes w w.heap.size A n) :
    Calls Tryz.prog 8 #[.slice A n c] w (MbN w) := by
  go_enter Tryz.func8, Tryz.ntmps8
  go_wp2_with fail
  have R0 := Blk.new w 27 #[.int .i64 0, .int .i64 0]
  have hW0 : Below w.heap.size w (w.alloc (.cells #[.int .i64 0, .int .i64 0] 27)) := (Below.refl _ w).alloc (Nat.le_refl _) _
  refine (from_any A n c _ hn (hB.later hW0)).mono ?_
  rintro e w1 ⟨b, rfl, hb, hS1, hl1⟩
  rw [World.size_alloc] at hb
  have R1 : Blk w1 w.heap.size 27 #[.int .i64 0, .int .i64 0] := (hl1.block _ R0.lt).trans R0
  have hW1 := hW0.trans (hl1.mono (by simp))
  clear R0 hl1 hW0
  go_wp2_with fail
  refine (drawScl_any A n c b _ hS1).mono ?_
  rintro e w2 ⟨s, rfl, hs, hS2, hd2⟩
  have R2 := R1.dr hd2 (by omega)
  have hW2 := hW1.trans (hd2.below (by omega) hW1.size)
  clear R1 hd2 hW1 hS1
  go_wp2_with fail
  refine (drawFigure5_any A n c b s _ hS2).mono ?_
  rintro e w3 ⟨a, t, rfl, hf, hS3, hd3⟩
  have l3 := hS3.lt
  have P3 := (R2.dr hd3 (by omega)).alloc (.cells #[.int .i64 a, .int .i64 t] 27)
  have E3 := Blk.new w3 27 #[.int .i64 a, .int .i64 t]
  have hT3 := hd3.alloc (.cells #[.int .i64 a, .int .i64 t] 27)
  have S3 := hS3.alloc (.cells #[.int .i64 a, .int .i64 t] 27)
  have z3 : w2.heap.size ≤ w3.heap.size := hd3.size
  have z2 : w.heap.size < w3.heap.size := by have := R2.lt; omega
  clear R2 hd3 hS2 hS3
  go_wp2_with fail
  refine (drawLength_any A n c b _ S3).mono ?_
  rintro e w4 ⟨l, rfl, hl, S4, hd4⟩
  have P4 := P3.dr hd4 (by omega)
  have E4 := E3.dr hd4 (by omega)
  have hT4 := hT3.trans hd4
  clear P3 E3 S3 hd4 hT3
  go_wp2_with fail
  refine (drawPoint_any A n c b s l hl _ S4).mono ?_
  rintro e w5 ⟨p, rfl, hp, S5, hd5⟩
  have P5 := P4.dr hd5 (by omega)
  have E5 := E4.dr hd5 (by omega)
  have hT5 := hT4.trans hd5
  obtain ⟨k0, k1, kf⟩ := E5.two
  clear P4 E4 S4 hd5 hT4
  go_wp2_with fail
  refine (code_spec5 s a t _).mono ?_
  rintro e w6 ⟨rfl, hg6⟩
  have P6 := P5.gr hg6
  have E6 := E5.gr hg6
  have S6 := S5.below hg6.below
  have hT6 := hT5.trans (Dr.of_below hg6.below)
  clear P5 E5 S5 hT5 hg6 k0 k1 kf
  -- what is left: the point stays, or is taken near to the figure's place
  have fin : ∀ (w7 : World) (q : Int), PtN q → Blk w7 w.heap.size 27 #[.int .i64 0, .int .i64 0] → Blk w7 w3.heap.size 27 #[.int .i64 a, .int .i64 t] → Src A n c b w7 → Dr b w2 w7 → True := fun _ _ _ _ _ _ _ => trivial
  rcases pcd_cases s a t with ⟨-, h⟩ | ⟨-, -, h⟩ | ⟨-, -, -, h⟩ | ⟨f1, f2, f3, h⟩
  all_goals rw [h]
  iterate 3
    · clear h
      go_wp2_with fail
      obtain ⟨k0, k1, kf⟩ := E6.two
      go_region_held3 (fun w' => w'.cell? ⟨w3.heap.size, 0, none⟩ = some (.int .i64 a) ∧ w'.cell? ⟨w3.heap.size, 1, none⟩ = some (.int .i64 t)) (first | exact ⟨k0, k1⟩ | exact ⟨h0, h1⟩ | (go_simp; done)) (first
        | (go_at_call 41; refine (drawEye_any A n c b _ S6.drew).mono ?_; rintro e w7 ⟨y, rfl, hy, hS7, hd7⟩; obtain ⟨h0, h1, hf1⟩ := (Blk.dr (w := w6.drew) E6 hd7 (by omega)).two; obtain ⟨p0, p1, pf⟩ := (Blk.dr (w := w6.drew) P6 hd7 (by omega)).two))
      all_goals
        have hW7 := hW2.trans ((hT6.drew.trans hd7).below (B := w.heap.size) (by omega) hW2.size)
        go_wp2
        ((try simp only [Exit.inBlock, Exit.then]); refine bodyPost_ret (v := .tuple #[.int .i64 s, .agg #[.int .i64 a, .int .i64 t], .int .i64 l, .int .i64 p, .int .i64 y]) (by simp [results, Tryz.results8, go_sem, p0, p1, World.cell?_setCell_same']) rfl ?_)
        exact ⟨s, a, t, l, p, y, rfl, hs, hf, hl, hp, hy, (hW7.setCell (p := ⟨w.heap.size, 0, none⟩) (Nat.le_refl _) _).setCell (p := ⟨w.heap.size, 1, none⟩) (Nat.le_refl _) _⟩
  · have HLn := Lib.hid (fun W => isLength_spec l W)
    rcases ln_tf l with hln | hln
    rotate_left
    · rw [hln] at HLn
      clear h hln
      go_wp2_with (go_at_call 37; refine (HLn.out _).mono ?_; rintro e w' ⟨rfl, rfl⟩)
      obtain ⟨k0, k1, kf⟩ := E6.two
      go_region_held3 (fun w' => w'.cell? ⟨w3.heap.size, 0, none⟩ = some (.int .i64 a) ∧ w'.cell? ⟨w3.heap.size, 1, none⟩ = some (.int .i64 t)) (first | exact ⟨k0, k1⟩ | exact ⟨h0, h1⟩ | (go_simp; done)) (first
        | (go_at_call 41; refine (drawEye_any A n c b _ S6.drew).mono ?_; rintro e w7 ⟨y, rfl, hy, hS7, hd7⟩; obtain ⟨h0, h1, hf1⟩ := (Blk.dr (w := w6.drew) E6 hd7 (by omega)).two; obtain ⟨p0, p1, pf⟩ := (Blk.dr (w := w6.drew) P6 hd7 (by omega)).two))
      all_goals
        have hW7 := hW2.trans ((hT6.drew.trans hd7).below (B := w.heap.size) (by omega) hW2.size)
        go_wp2
        ((try simp only [Exit.inBlock, Exit.then]); refine bodyPost_ret (v := .tuple #[.int .i64 s, .agg #[.int .i64 a, .int .i64 t], .int .i64 l, .int .i64 p, .int .i64 y]) (by simp [results, Tryz.results8, go_sem, p0, p1, World.cell?_setCell_same']) rfl ?_)
        exact ⟨s, a, t, l, p, y, rfl, hs, hf, hl, hp, hy, (hW7.setCell (p := ⟨w.heap.size, 0, none⟩) (Nat.le_refl _) _).setCell (p := ⟨w.heap.size, 1, none⟩) (Nat.le_refl _) _⟩
    · have HQ := Lib.hid (fun W => position_spec s a t W f1 f2 (lgb_ok f1))
      have HL := Lib.hid (fun W => pl_spec s a t l W f1 hln)
      rw [hln] at HLn
      obtain ⟨q1, q2, -, -, -⟩ := pl_bd s a t l f1 hln
      generalize pl s a t l = z at *
      generalize psn s a t = x at *
      obtain ⟨z1, z2⟩ := z
      simp only at HL q1 q2
      clear h hln f1 f2 f3
      go_wp2_with (go_at_call 37; refine (HLn.out _).mono ?_; rintro e w' ⟨rfl, rfl⟩)
      refine (next_any A n c b _ _ S6).mono ?_
      rintro e w7 ⟨u, rfl, u0, u1, -, S7, hd7⟩
      have P7 := P6.dr hd7 (by omega)
      have E7 := E6.dr hd7 (by omega)
      have hT7 := hT6.trans hd7
      clear P6 E6 S6 hd7 hT6 u1
      by_cases hu : u = 0
      · subst hu
        obtain ⟨k0, k1, kf⟩ := E7.two
        clear u0
        go_wp2_with fail
        refine (HQ.out _).mono ?_
        rintro e w8 ⟨rfl, hg8⟩
        have P8 := P7.gr hg8
        have E8 := E7.gr hg8
        have S8 := S7.below hg8.below
        have hT8 := hT7.trans (Dr.of_below hg8.below)
        clear P7 E7 S7 hT7 hg8 k0 k1 kf
        go_wp2_with fail
        refine (HL.out _).mono ?_
        rintro e w9 ⟨rfl, hg9⟩
        have P9 := P8.gr hg9
        have E9 := E8.gr hg9
        have S9 := S8.below hg9.below
        have hT9 := hT8.trans (Dr.of_below hg9.below)
        clear P8 E8 S8 hT8 hg9
        go_wp2_with fail
        refine (next_any A n c b _ _ S9).mono ?_
        rintro e wa ⟨v, rfl, v0, v1, -, Sa, hda⟩
        have v1 := v1 (by omega)
        have Pa := P9.dr hda (by omega)
        have Ea := E9.dr hda (by omega)
        have hTa := hT9.trans hda
        obtain ⟨k0, k1, kf⟩ := Ea.two
        clear P9 E9 S9 hda hT9
        have HPt := Lib.hid (fun x => ptN_clamp l x hl)
        go_wp2_with fail
        go_region_held3 (fun w' => w'.cell? ⟨w3.heap.size, 0, none⟩ = some (.int .i64 a) ∧ w'.cell? ⟨w3.heap.size, 1, none⟩ = some (.int .i64 t)) (first | exact ⟨k0, k1⟩ | exact ⟨h0, h1⟩ | (go_simp; done)) (first
          | (go_at_call 41; refine (drawEye_any A n c b _ Sa.drew).mono ?_; rintro e wb ⟨y, rfl, hy, hSb, hdb⟩; obtain ⟨h0, h1, hf1⟩ := (Blk.dr (w := wa.drew) Ea hdb (by omega)).two; obtain ⟨p0, p1, pf⟩ := (Blk.dr (w := wa.drew) Pa hdb (by omega)).two))
        all_goals
          have hWb := hW2.trans ((hTa.drew.trans hdb).below (B := w.heap.size) (by omega) hW2.size)
          go_wp2
          refine bodyPost_ret_by (by simp [results, Tryz.results8, go_sem, p0, p1, World.cell?_setCell_same']; rfl) rfl ?_
          exact ⟨s, a, t, l, _, y, rfl, hs, hf, hl, HPt.out _, hy, (hWb.setCell (p := ⟨w.heap.size, 0, none⟩) (Nat.le_refl _) _).setCell (p := ⟨w.heap.size, 1, none⟩) (Nat.le_refl _) _⟩
      · have hu2 : (u == 0) = false := by simp [hu]
        clear u0
        obtain ⟨k0, k1, kf⟩ := E7.two
        go_wp2_with fail
        go_region_held3 (fun w' => w'.cell? ⟨w3.heap.size, 0, none⟩ = some (.int .i64 a) ∧ w'.cell? ⟨w3.heap.size, 1, none⟩ = some (.int .i64 t)) (first | exact ⟨k0, k1⟩ | exact ⟨h0, h1⟩ | (go_simp; done)) (first
          | (go_at_call 41; refine (drawEye_any A n c b _ S7.drew).mono ?_; rintro e wb ⟨y, rfl, hy, hSb, hdb⟩; obtain ⟨h0, h1, hf1⟩ := (Blk.dr (w := w7.drew) E7 hdb (by omega)).two; obtain ⟨p0, p1, pf⟩ := (Blk.dr (w := w7.drew) P7 hdb (by omega)).two))
        all_goals
          have hWb := hW2.trans ((hT7.drew.trans hdb).below (B := w.heap.size) (by omega) hW2.size)
          go_wp2
          ((try simp only [Exit.inBlock, Exit.then]); refine bodyPost_ret (v := .tuple #[.int .i64 s, .agg #[.int .i64 a, .int .i64 t], .int .i64 l, .int .i64 p, .int .i64 y]) (by simp [results, Tryz.results8, go_sem, p0, p1, World.cell?_setCell_same']) rfl ?_)
          exact ⟨s, a, t, l, p, y, rfl, hs, hf, hl, hp, hy, (hWb.setCell (p := ⟨w.heap.size, 0, none⟩) (Nat.le_refl _) _).setCell (p := ⟨w.heap.size, 1, none⟩) (Nat.le_refl _) _⟩
end Go.Proofs.YtgadkpkpdpphbaaGreatDoor
