/- Draws of chapter 7: limits, chosen graduations, finest steps. -/
import Derived.Test.YtggflladheemoaaDoorD21
namespace Go.Proofs.YtggflladheemoaaDoor
open Go.RowKit Go.ChangeShapes Go.WideShapes Go.ChangeAt
set_option linter.unusedVariables false
set_option linter.unusedSimpArgs false

def LimN (x : Int) : Prop := -1 ≤ x ∧ x ≤ 100001
theorem drawLimit7_any (A : Option Addr) (n c b : Nat) (w : World) (hS : Src A n c b w) :
    Calls Tryd.prog 76 #[.pointer (some ⟨b, 0, none⟩)] w (Got LimN A n c b w) := by
  go_enter Tryd.func76, Tryd.ntmps76
  go_wp2_with fail
  refine (next_any A n c b _ _ hS).mono ?_
  rintro e w1 ⟨x, rfl, x0, x1, -, hS1, hd1⟩
  have x1 := x1 (by omega)
  go_wp2_with fail
  refine (pick_any LimN A n c b _ 8 8 _ (hS1.alloc _) (by have := hS1.lt; omega) (by omega) (by omega) (allP_alloc LimN w1 _ _ _ [50, 80, 100, x, 1000, 100000, 100001, -1] rfl rfl (by simp [LimN]; omega))).mono ?_
  rintro e w2 ⟨y, rfl, hy, hS2, hd2⟩
  go_wp2_with fail
  go_ret
  exact ⟨y, rfl, hy, hS2, (hd1.alloc _).trans hd2⟩
def Three (w : World) (e : Ending) (w' : World) : Prop := ∃ s l m, e = .returned (.tuple #[.int .i64 s, .int .i64 l, .int .i64 m]) ∧ (ScaN s ∧ LenN l ∧ LimN m) ∧ Below w.heap.size w w'
theorem drawCG_any (A : Option Addr) (n c : Nat) (w : World) (hn : n ≤ 4611686018427387904) (hB : Bytes w w.heap.size A n) :
    Calls Tryd.prog 12 #[.slice A n c] w (Three w) := by
  go_enter Tryd.func12, Tryd.ntmps12
  go_wp2_with fail
  refine (from_any A n c w hn hB).mono ?_
  rintro e w1 ⟨b, rfl, hb, hS1, hl1⟩
  go_wp2_with fail
  refine (drawScl_any A n c b _ hS1).mono ?_
  rintro e w2 ⟨x, rfl, hx, hS2, hd2⟩
  go_wp2_with fail
  refine (drawLength_any A n c b _ hS2).mono ?_
  rintro e w3 ⟨y, rfl, hy, hS3, hd3⟩
  go_wp2_with fail
  refine (drawLimit7_any A n c b _ hS3).mono ?_
  rintro e w4 ⟨z, rfl, hz, hS4, hd4⟩
  have hT := hd2.trans (hd3.trans hd4)
  clear hd2 hd3 hd4
  go_wp2_with fail
  ((try simp only [Exit.inBlock, Exit.then]); refine bodyPost_ret (v := .tuple #[.int .i64 x, .int .i64 y, .int .i64 z]) (by simp [results, Tryd.results12, go_sem]) rfl ?_)
  exact ⟨x, y, z, rfl, ⟨hx, hy, hz⟩, hl1.trans (hT.below hb hl1.size)⟩
def Five (w : World) (e : Ending) (w' : World) : Prop := ∃ s l f t m, e = .returned (.tuple #[.int .i64 s, .int .i64 l, .int .i64 f, .int .i64 t, .int .i64 m]) ∧ (ScaN s ∧ LenN l ∧ NumN f ∧ NumN t ∧ LimN m) ∧ Below w.heap.size w w'
set_option maxHeartbeats 2000000 in
theorem drawFS_any (A : Option Addr) (n c : Nat) (w : World) (hn : n ≤ 4611686018427387904) (hB : Bytes w w.heap.size A n) :
    Calls Tryd.prog 15 #[.slice A n c] w (Five w) := by
  go_enter Tryd.func15, Tryd.ntmps15
  go_wp2_with fail
  refine (from_any A n c w hn hB).mono ?_
  rintro e w1 ⟨b, rfl, hb, hS1, hl1⟩
  go_wp2_with fail
  refine (drawScl_any A n c b _ hS1).mono ?_
  rintro e w2 ⟨s, rfl, hs, hS2, hd2⟩
  go_wp2_with fail
  refine (drawLength_any A n c b _ hS2).mono ?_
  rintro e w3 ⟨l, rfl, hl, hS3, hd3⟩
  go_wp2_with fail
  refine (next_any A n c b _ _ hS3).mono ?_
  rintro e w4 ⟨x, rfl, x0, x1, -, hS4, hd4⟩
  have x1 := x1 (by omega)
  have T4 := hd2.trans (hd3.trans hd4)
  clear hd2 hd3 hd4
  go_wp2_with fail
  refine (pick_any NumN A n c b _ 4 4 _ (hS4.alloc _) (by have := hS4.lt; omega) (by omega) (by omega) (allP_alloc NumN w4 _ _ _ [1000 + 100 * x, 1000 + 100 * x, 1000 + 100 * x, 999] rfl rfl (by simp [NumN]; omega))).mono ?_
  rintro e w5 ⟨f, rfl, hf, hS5, hd5⟩
  have T5 := T4.trans ((Dr.alloc (Dr.refl b w4) _).trans hd5)
  clear T4 hd5
  go_wp2_with fail
  refine (pick_any NumN A n c b _ 5 5 _ (hS5.alloc _) (by have := hS5.lt; omega) (by omega) (by omega) (allP_alloc NumN w5 _ _ _ [1000 + 100 * x + 100, 1000 + 100 * x + 500, 1000 + 100 * x + 1000, 1000 + 100 * x, 10001] rfl rfl (by simp [NumN]; omega))).mono ?_
  rintro e w6 ⟨t, rfl, ht, hS6, hd6⟩
  have T6 := T5.trans ((Dr.alloc (Dr.refl b w5) _).trans hd6)
  clear T5 hd6
  go_wp2_with fail
  refine (drawLimit7_any A n c b _ hS6).mono ?_
  rintro e w7 ⟨m, rfl, hm, hS7, hd7⟩
  have T7 := T6.trans hd7
  clear T6 hd7
  go_wp2_with fail
  ((try simp only [Exit.inBlock, Exit.then]); refine bodyPost_ret (v := .tuple #[.int .i64 s, .int .i64 l, .int .i64 f, .int .i64 t, .int .i64 m]) (by simp [results, Tryd.results15, go_sem]) rfl ?_)
  exact ⟨s, l, f, t, m, rfl, ⟨hs, hl, hf, ht, hm⟩, hl1.trans (T7.below hb hl1.size)⟩
end Go.Proofs.YtggflladheemoaaDoor
