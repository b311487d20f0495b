/- Draws of chapter 2: a figure's text, sometimes damaged; a figure to be rounded. -/
import Derived.Test.YtddnmhkhgpangaaDoorD7
import Derived.Test.YtddnmhkhgpangaaDoorD5
namespace Go.Proofs.YtddnmhkhgpangaaDoor
open Go.RowKit
set_option linter.unusedVariables false
set_option linter.unusedSimpArgs false

/-- One drawn text. -/
def OneS (m : Nat) (w : World) (e : Ending) (w' : World) : Prop :=
  ∃ s : ByteArray, e = .returned (.string s) ∧ s.size ≤ m ∧ Below w.heap.size w w'
theorem figB_size (d t : Int) (h : fg d t = true) : (figB d t).size ≤ 30 := by
  obtain ⟨⟨a1, a2⟩, t1, t2⟩ := (fg_iff d t).1 h
  have h4 := itoa_four d a1 a2
  have hl := itoa_len t (by omega) (by omega)
  have s1 := size_to (itoaB d) 0 1 (by omega)
  have s2 := size_to (itoaB d) 1 4 (by omega)
  unfold figB
  simp only [ByteArray.size_append, s1, s2]
  have e1 : (⟨#[46]⟩ : ByteArray).size = 1 := rfl
  have e2 : (⟨#[101]⟩ : ByteArray).size = 1 := rfl
  rw [e1, e2]
  omega

theorem drawReadFigure_any (A : Option Addr) (n c : Nat) (w : World) (hn : n ≤ 4611686018427387904) (hB : Bytes w w.heap.size A n) :
    Calls Tryd.prog 11 #[.slice A n c] w (OneS 31 w) := by
  go_enter Tryd.func11, Tryd.ntmps11
  go_wp2_with fail
  refine (from_any A n c _ hn hB).mono ?_
  rintro e w1 ⟨b, rfl, hb, hS1, hl1⟩
  go_wp2_with fail
  refine (valid_any A n c b _ hS1).mono ?_
  rintro e w2 ⟨d, t, rfl, ⟨⟨d1, d2⟩, t1, t2⟩, hS2, hd2⟩
  have hf : fg d t = true := (fg_iff d t).2 ⟨⟨d1, d2⟩, by omega, by omega⟩
  have hz := figB_size d t hf
  have hW2 := hl1.trans (hd2.below hb hl1.size)
  clear hS1 hd2 hl1
  go_wp2_with fail
  refine (text_spec d t _ hf).mono ?_
  generalize figB d t = x at *
  rintro e w3 ⟨rfl, hg3⟩
  have hS3 := hS2.below hg3.below
  have hW3 := hW2.trans (hg3.below.mono hW2.size)
  clear hS2 hg3 hW2
  go_wp2_with fail
  refine (next_any A n c b _ _ hS3).mono ?_
  rintro e w4 ⟨y, rfl, y0, y1, -, hS4, hd4⟩
  have hW4 := hW3.trans (hd4.below hb hW3.size)
  clear hS3 hd4 hW3 y1
  by_cases hy : y = 0
  · subst hy
    go_wp2_with fail
    refine (damage_any A n c b x (by omega) _ hS4).mono ?_
    rintro e w5 ⟨u, rfl, hu, hS5, hd5⟩
    have hW5 := hW4.trans (hd5.below hb hW4.size)
    go_wp2_with fail
    go_ret
    exact ⟨u, rfl, by omega, hW5⟩
  · have hy2 : (y == 0) = false := by simp [hy]
    go_wp2_with fail
    go_ret
    exact ⟨x, rfl, by omega, hW4⟩

/-- A drawn figure and a number of digits. -/
def FigK (w : World) (e : Ending) (w' : World) : Prop :=
  ∃ a s k : Int, e = .returned (.tuple #[.agg #[.int .i64 a, .int .i64 s], .int .i64 k]) ∧ FigN a s ∧ (0 ≤ k ∧ k ≤ 5) ∧ Below w.heap.size w w'

set_option maxHeartbeats 1000000 in
theorem drawRound_any (A : Option Addr) (n c : Nat) (w : World) (hn : n ≤ 4611686018427387904) (hB : Bytes w w.heap.size A n) :
    Calls Tryd.prog 14 #[.slice A n c] w (FigK w) := by
  go_enter Tryd.func14, Tryd.ntmps14
  go_wp2_with fail
  have P0 := Blk.new w 25 #[.int .i64 0, .int .i64 0]
  have hW0 : Below w.heap.size w (w.alloc (.cells #[.int .i64 0, .int .i64 0] 25)) := (Below.refl _ w).alloc (Nat.le_refl _) _
  refine (from_any A n c _ hn (hB.later hW0)).mono ?_
  rintro e w1 ⟨b, rfl, hb, hS1, hl1⟩
  rw [World.size_alloc] at hb
  have P1 : Blk w1 w.heap.size 25 #[.int .i64 0, .int .i64 0] := (hl1.block _ P0.lt).trans P0
  have hW1 := hW0.trans (hl1.mono (by simp))
  clear P0 hl1 hW0
  go_wp2_with fail
  refine (figDraw_any A n c b _ hS1).mono ?_
  rintro e w2 ⟨a, s, rfl, hF, hS2, hd2⟩
  have w12 := hd2.size
  obtain ⟨⟨a1, a2⟩, s1, s2⟩ := hF
  have P2 := (P1.dr hd2 (by omega)).alloc (.cells #[.int .i64 a, .int .i64 s] 25)
  have E2 := Blk.new w2 25 #[.int .i64 a, .int .i64 s]
  have l2 := hS2.lt
  have hT2 := hd2.alloc (.cells #[.int .i64 a, .int .i64 s] 25)
  have n1 : w.heap.size ≠ w2.heap.size := by omega
  have n3 : w2.heap.size ≠ w.heap.size := by omega
  clear P1 hd2
  go_wp2_with fail
  refine (next_any A n c b _ _ (hS2.alloc _)).mono ?_
  rintro e w3 ⟨x, rfl, x0, x1, -, hS3, hd3⟩
  have P3 := P2.dr hd3 (by omega)
  have E3 := E2.dr hd3 (by omega)
  have hT3 := hT2.trans hd3
  have e3 : w2.heap.size < w3.heap.size := E3.lt
  clear P2 E2 hd3 hT2 x1
  by_cases hx : x = 0
  · subst hx
    go_wp2_with fail
    refine (next_any A n c b _ _ hS3).mono ?_
    rintro e w4 ⟨z, rfl, z0, z1, -, hS4, hd4⟩
    have z1 := z1 (by omega)
    have P4 := P3.dr hd4 (by omega)
    have E4 := E3.dr hd4 (by omega)
    have hT4 := hT3.trans hd4
    obtain ⟨k0, k1, kf⟩ := E4.two
    go_wp2_with fail
    have P6 := P4.far (a := ⟨w2.heap.size, 0, none⟩) (by exact n3) (.int .i64 (9990 + z))
    have E6 : Blk _ _ _ #[.int .i64 (9990 + z), .int .i64 s] := E4.set 0 (.int .i64 (9990 + z))
    have S6 := hS4.far (a := ⟨w2.heap.size, 0, none⟩) (by exact l2) (.int .i64 (9990 + z))
    have hT6 := hT4.setCell (a := ⟨w2.heap.size, 0, none⟩) (.inr w12) (.int .i64 (9990 + z))
    clear hS3 P3 E3 hT3 hd4 hS4 P4 E4 hT4 k0 k1 kf
    generalize w4.setCell ⟨w2.heap.size, 0, none⟩ (.int .i64 (9990 + z)) = w6 at *
    obtain ⟨k0, k1, kf⟩ := E6.two
    obtain ⟨d, hd⟩ : ∃ d, (9990 : Int) + z = d := ⟨_, rfl⟩
    rw [hd] at k0 E6
    go_region_held3 (fun w' => w'.cell? ⟨w2.heap.size, 0, none⟩ = some (.int .i64 d) ∧ w'.cell? ⟨w2.heap.size, 1, none⟩ = some (.int .i64 s)) (first | exact ⟨k0, k1⟩ | exact ⟨h0, h1⟩ | (go_simp; done)) (first
      | (go_at_call 36; refine (next_any A n c b _ _ S6.drew).mono ?_; rintro e w5 ⟨y, rfl, y0, y1, -, hS5, hd5⟩; have y1 := y1 (by omega); obtain ⟨h0, h1, hf⟩ := (Blk.dr (w := w6.drew) E6 hd5 (by omega)).two; obtain ⟨p0, p1, pf⟩ := (Blk.dr (w := w6.drew) P6 hd5 (by omega)).two))
    all_goals
      have hW6 := hW1.trans ((hT6.drew.trans hd5).below (B := w.heap.size) (by omega) hW1.size)
      go_wp2
      ((try simp only [Exit.inBlock, Exit.then]); refine bodyPost_ret (v := .tuple #[.agg #[.int .i64 d, .int .i64 s], .int .i64 y]) (by simp [results, Tryd.results14, go_sem, p0, p1, World.cell?_setCell_same']) rfl ?_)
      exact ⟨d, s, y, rfl, ⟨⟨by omega, by omega⟩, s1, s2⟩, by omega, (hW6.setCell (p := ⟨w.heap.size, 0, none⟩) (Nat.le_refl _) _).setCell (p := ⟨w.heap.size, 1, none⟩) (Nat.le_refl _) _⟩
  · have hx2 : (x == 0) = false := by simp [hx]
    obtain ⟨k0, k1, kf⟩ := E3.two
    go_wp2_with fail
    go_region_held3 (fun w' => w'.cell? ⟨w2.heap.size, 0, none⟩ = some (.int .i64 a) ∧ w'.cell? ⟨w2.heap.size, 1, none⟩ = some (.int .i64 s)) (first | exact ⟨k0, k1⟩ | exact ⟨h0, h1⟩ | (go_simp; done)) (first
      | (go_at_call 36; refine (next_any A n c b _ _ hS3.drew).mono ?_; rintro e w5 ⟨y, rfl, y0, y1, -, hS5, hd5⟩; have y1 := y1 (by omega); obtain ⟨h0, h1, hf⟩ := (Blk.dr (w := w3.drew) E3 hd5 (by omega)).two; obtain ⟨p0, p1, pf⟩ := (Blk.dr (w := w3.drew) P3 hd5 (by omega)).two))
    all_goals
      have hW6 := hW1.trans ((hT3.drew.trans hd5).below (B := w.heap.size) (by omega) hW1.size)
      go_wp2
      ((try simp only [Exit.inBlock, Exit.then]); refine bodyPost_ret (v := .tuple #[.agg #[.int .i64 a, .int .i64 s], .int .i64 y]) (by simp [results, Tryd.results14, go_sem, p0, p1, World.cell?_setCell_same']) rfl ?_)
      exact ⟨a, s, y, rfl, ⟨⟨a1, a2⟩, s1, s2⟩, by omega, (hW6.setCell (p := ⟨w.heap.size, 0, none⟩) (Nat.le_refl _) _).setCell (p := ⟨w.heap.size, 1, none⟩) (Nat.le_refl _) _⟩
end Go.Proofs.YtddnmhkhgpangaaDoor
