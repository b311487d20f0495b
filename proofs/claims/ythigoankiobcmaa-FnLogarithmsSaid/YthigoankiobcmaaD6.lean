/- Draws of chapter 3: scalings. -/
import Derived.Test.YthigoankiobcmaaD5
namespace Go.Proofs.Ythigoankiobcmaa
open Go.RowKit
set_option linter.unusedVariables false
set_option linter.unusedSimpArgs false

/-- A drawn interval and two small numbers. -/
def ScaleN (w : World) (e : Ending) (w' : World) : Prop :=
  ∃ a s n d : Int, e = .returned (.tuple #[.agg #[.int .i64 a, .int .i64 s], .int .i64 n, .int .i64 d]) ∧ ItvN a s ∧ (-13 ≤ n ∧ n ≤ 13) ∧ (0 ≤ d ∧ d ≤ 13) ∧ Below w.heap.size w w'

set_option maxHeartbeats 1000000 in
theorem drawScale_any (A : Option Addr) (n c : Nat) (w : World) (hn : n ≤ 4611686018427387904) (hB : Bytes w w.heap.size A n) :
    Calls Try.prog 32 #[.slice A n c] w (ScaleN w) := by
  go_enter Try.func32, Try.ntmps32
  go_wp2_with fail
  have P0 := Blk.new w 28 #[.int .i64 0, .int .i64 0]
  have hW0 : Below w.heap.size w (w.alloc (.cells #[.int .i64 0, .int .i64 0] 28)) := (Below.refl _ w).alloc (Nat.le_refl _) _
  refine (from_any A n c _ hn (hB.later hW0)).mono ?_
  rintro e w1 ⟨b, rfl, hb, hS1, hl1⟩
  rw [World.size_alloc] at hb
  have P1 : Blk w1 w.heap.size 28 #[.int .i64 0, .int .i64 0] := (hl1.block _ P0.lt).trans P0
  have hW1 := hW0.trans (hl1.mono (by simp))
  clear P0 hl1 hW0
  go_wp2_with fail
  refine (itvDraw_any A n c b _ hS1).mono ?_
  rintro e w2 ⟨a, s, rfl, hI1, hS2, hd2⟩
  have P2 := (P1.dr hd2 (by omega)).alloc (.cells #[.int .i64 a, .int .i64 s] 28)
  have E2 := Blk.new w2 28 #[.int .i64 a, .int .i64 s]
  have l2 := hS2.lt
  have hT2 := hd2.alloc (.cells #[.int .i64 a, .int .i64 s] 28)
  have n1 : w.heap.size ≠ w2.heap.size := by omega
  have n3 : w2.heap.size ≠ w.heap.size := by omega
  clear P1 hd2
  obtain ⟨k0, k1, kf⟩ := E2.two
  go_wp2_with fail
  go_region_held3 (fun w' => w'.cell? ⟨w2.heap.size, 0, none⟩ = some (.int .i64 a) ∧ w'.cell? ⟨w2.heap.size, 1, none⟩ = some (.int .i64 s)) (first | exact ⟨k0, k1⟩ | exact ⟨g0, g1⟩ | exact ⟨h0, h1⟩ | (go_simp; done)) (first
    | (go_at_call 53; refine (next_any A n c b _ _ hS3).mono ?_; rintro e w4 ⟨d, rfl, y0, y1, -, hS4, hd4⟩; have y1 := y1 (by omega); obtain ⟨g0, g1, gf⟩ := (E3.dr hd4 (by omega)).two; obtain ⟨p0, p1, pf⟩ := (P3.dr hd4 (by omega)).two)
    | (go_at_call 53; refine (next_any A n c b _ _ (hS2.alloc _).drew).mono ?_; rintro e w3 ⟨x, rfl, x0, x1, -, hS3, hd3⟩; have x1 := x1 (by omega); have E3 := Blk.dr (w := (w2.alloc (.cells #[.int .i64 a, .int .i64 s] 28)).drew) E2 hd3 (by omega); have P3 := Blk.dr (w := (w2.alloc (.cells #[.int .i64 a, .int .i64 s] 28)).drew) P2 hd3 (by omega); have q1 : IntKind.i64.wrap (x - 13) = x - 13 := IntWalk.i64_in _ (by omega); obtain ⟨h0, h1, hf⟩ := E3.two))
  all_goals
    have hW6 := hW1.trans (((hT2.drew.trans hd3).trans hd4).below (B := w.heap.size) (by omega) hW1.size)
    go_wp2
    ((try simp only [Exit.inBlock, Exit.then]); refine bodyPost_ret (v := .tuple #[.agg #[.int .i64 a, .int .i64 s], .int .i64 (x - 13), .int .i64 d]) (by simp [results, Try.results32, go_sem, p0, p1, World.cell?_setCell_same']) rfl ?_)
    exact ⟨a, s, x - 13, d, rfl, hI1, by omega, by omega, (hW6.setCell (p := ⟨w.heap.size, 0, none⟩) (Nat.le_refl _) _).setCell (p := ⟨w.heap.size, 1, none⟩) (Nat.le_refl _) _⟩
end Go.Proofs.Ythigoankiobcmaa
