/- Draws of chapter 7: what its functions are asked. -/
import Derived.Test.YtggflladheemoaaD18
import Derived.Test.YtggflladheemoaaC07f
namespace Go.Proofs.Ytggflladheemoaa
open Go.RowKit Go.ChangeShapes Go.WideShapes Go.ChangeAt
set_option linter.unusedVariables false
set_option linter.unusedSimpArgs false

theorem wf_of {x : Int} (h : -1000000 ≤ x ∧ x ≤ 1000000) : (Lit.int .i64 x).wf = true := by
  simp only [Lit.wf, Bool.and_eq_true, decide_eq_true_eq]
  have h1 : (-9223372036854775808 : Int) ≤ x := by omega
  have h2 : x ≤ (9223372036854775807 : Int) := by omega
  exact ⟨h1, h2⟩
theorem ptb_wf {zs : List P3} (h : ∀ z ∈ zs, PtB z) : Wf3 zs := fun z hz => by
  obtain ⟨h1, h2, h3⟩ := h z hz
  exact ⟨wf_of (by omega), wf_of (by omega), wf_of (by omega)⟩
def NumN (x : Int) : Prop := -100000 ≤ x ∧ x ≤ 200000
/-- A drawn graduation; with a number; with two. -/
def OneP (w : World) (e : Ending) (w' : World) : Prop := ∃ v zs, e = .returned v ∧ zs.length ≤ 12 ∧ (∀ z ∈ zs, PtB z) ∧ Lst3 65 w' w.heap.size v zs ∧ Below w.heap.size w w'
def OneP1 (w : World) (e : Ending) (w' : World) : Prop := ∃ v zs x, e = .returned (.tuple #[v, .int .i64 x]) ∧ zs.length ≤ 12 ∧ (∀ z ∈ zs, PtB z) ∧ NumN x ∧ Lst3 65 w' w.heap.size v zs ∧ Below w.heap.size w w'
def OneP2 (w : World) (e : Ending) (w' : World) : Prop := ∃ v zs x y, e = .returned (.tuple #[v, .int .i64 x, .int .i64 y]) ∧ zs.length ≤ 12 ∧ (∀ z ∈ zs, PtB z) ∧ NumN x ∧ NumN y ∧ Lst3 65 w' w.heap.size v zs ∧ Below w.heap.size w w'

theorem drawCM_any (A : Option Addr) (n c : Nat) (w : World) (hn : n ≤ 4611686018427387904) (hB : Bytes w w.heap.size A n) :
    Calls Try.prog 8 #[.slice A n c] w (OneP w) := by
  go_enter Try.func8, Try.ntmps8
  go_wp2_with fail
  refine (from_any A n c w hn hB).mono ?_
  rintro e w1 ⟨b, rfl, hb, hS1, hl1⟩
  go_wp2_with fail
  refine (draw7_any A n c b _ hS1).mono ?_
  rintro e w2 ⟨v, zs, rfl, -, l1, hP, hO, hS2, hT2⟩
  go_wp2_with fail
  go_ret
  exact ⟨v, zs, rfl, l1, hP, Lst3.mono hO hl1.size, hl1.trans (hT2.below hb hl1.size)⟩
set_option maxHeartbeats 2000000 in
theorem drawMO_any (A : Option Addr) (n c : Nat) (w : World) (hn : n ≤ 4611686018427387904) (hB : Bytes w w.heap.size A n) :
    Calls Try.prog 11 #[.slice A n c] w (OneP2 w) := by
  go_enter Try.func11, Try.ntmps11
  go_wp2_with fail
  refine (from_any A n c w hn hB).mono ?_
  rintro e w1 ⟨b, rfl, hb, hS1, hl1⟩
  have lb := hS1.lt
  go_wp2_with fail
  refine (draw7_any A n c b _ hS1).mono ?_
  rintro e w2 ⟨v, zs, rfl, -, l1, hP, hO, hS2, hT2⟩
  have HO := Lib.hid hO
  have HP := Lib.hid hP
  clear hO hP
  go_wp2_with fail
  refine (next_any A n c b _ _ hS2).mono ?_
  rintro e w3 ⟨x, rfl, x0, x1, -, hS3, hd3⟩
  have x1 := x1 (by omega)
  go_wp2_with fail
  refine (pick_any NumN A n c b _ 4 4 _ (hS3.alloc _) (by have := hS3.lt; omega) (by omega) (by omega) (allP_alloc NumN w3 _ _ _ [1000 + x, 1000 + x, 999, 1000] rfl rfl (by simp [NumN]; omega))).mono ?_
  rintro e w4 ⟨y, rfl, hy, hS4, hd4⟩
  have hT4 := (hd3.alloc (.cells #[.int .i64 (1000 + x), .int .i64 (1000 + x), .int .i64 999, .int .i64 1000] 2)).trans hd4
  clear hd3 hd4
  go_wp2_with fail
  refine (pick_any NumN A n c b _ 5 5 _ (hS4.alloc _) (by have := hS4.lt; omega) (by omega) (by omega) (allP_alloc NumN w4 _ _ _ [1000 + x + 500, 1000 + x + 2000, 9999, 10000, 1000 + x - 1] rfl rfl (by simp [NumN]; omega))).mono ?_
  rintro e w5 ⟨z, rfl, hz, hS5, hd5⟩
  have hT5 := hT4.trans ((Dr.alloc (Dr.refl b w4) (.cells #[.int .i64 (1000 + x + 500), .int .i64 (1000 + x + 2000), .int .i64 9999, .int .i64 10000, .int .i64 (1000 + x - 1)] 2)).trans hd5)
  clear hT4 hd5
  have HO5 := Lib.hid (Lst3.mono (ownsRow_dr HO.out hT5 lb) hl1.size)
  go_wp2_with fail
  ((try simp only [Exit.inBlock, Exit.then]); refine bodyPost_ret (v := .tuple #[v, .int .i64 y, .int .i64 z]) (by simp [results, Try.results11, go_sem]) rfl ?_)
  exact ⟨v, zs, y, z, rfl, l1, HP.out, hy, hz, HO5.out, hl1.trans ((hT2.trans hT5).below hb hl1.size)⟩
set_option maxHeartbeats 2000000 in
theorem drawIM_any (A : Option Addr) (n c : Nat) (w : World) (hn : n ≤ 4611686018427387904) (hB : Bytes w w.heap.size A n) :
    Calls Try.prog 17 #[.slice A n c] w (OneP1 w) := by
  go_enter Try.func17, Try.ntmps17
  go_wp2_with fail
  refine (from_any A n c w hn hB).mono ?_
  rintro e w1 ⟨b, rfl, hb, hS1, hl1⟩
  have lb := hS1.lt
  go_wp2_with fail
  refine (draw7_any A n c b _ hS1).mono ?_
  rintro e w2 ⟨v, zs, rfl, -, l1, hP, hO, hS2, hT2⟩
  have HO := Lib.hid hO
  have HP := Lib.hid hP
  clear hO hP
  go_wp2_with fail
  refine (next_any A n c b _ _ hS2).mono ?_
  rintro e w3 ⟨x, rfl, x0, x1, -, hS3, hd3⟩
  have x1 := x1 (by omega)
  go_wp2_with fail
  refine (next_any A n c b _ _ hS3).mono ?_
  rintro e w4 ⟨y, rfl, y0, y1, -, hS4, hd4⟩
  have y1 := y1 (by omega)
  go_wp2_with fail
  refine (pick_any NumN A n c b _ 5 5 _ (hS4.alloc _) (by have := hS4.lt; omega) (by omega) (by omega) (allP_alloc NumN w4 _ _ _ [1000 + 10 * x, 1000 + 100 * y, 9999, 10000, 999] rfl rfl (by simp [NumN]; omega))).mono ?_
  rintro e w5 ⟨z, rfl, hz, hS5, hd5⟩
  have hT5 := ((hd3.trans hd4).alloc (.cells #[.int .i64 (1000 + 10 * x), .int .i64 (1000 + 100 * y), .int .i64 9999, .int .i64 10000, .int .i64 999] 2)).trans hd5
  clear hd3 hd4 hd5
  have HO5 := Lib.hid (Lst3.mono (ownsRow_dr HO.out hT5 lb) hl1.size)
  go_wp2_with fail
  ((try simp only [Exit.inBlock, Exit.then]); refine bodyPost_ret (v := .tuple #[v, .int .i64 z]) (by simp [results, Try.results17, go_sem]) rfl ?_)
  exact ⟨v, zs, z, rfl, l1, HP.out, hz, HO5.out, hl1.trans ((hT2.trans hT5).below hb hl1.size)⟩
set_option maxHeartbeats 2000000 in
theorem drawNM_any (A : Option Addr) (n c : Nat) (w : World) (hn : n ≤ 4611686018427387904) (hB : Bytes w w.heap.size A n) :
    Calls Try.prog 14 #[.slice A n c] w (OneP1 w) := by
  go_enter Try.func14, Try.ntmps14
  go_wp2_with fail
  refine (from_any A n c w hn hB).mono ?_
  rintro e w1 ⟨b, rfl, hb, hS1, hl1⟩
  have lb := hS1.lt
  go_wp2_with fail
  refine (draw7_any A n c b _ hS1).mono ?_
  rintro e w2 ⟨v, zs, rfl, -, l1, hP, hO, hS2, hT2⟩
  have HO := Lib.hid hO
  have HP := Lib.hid hP
  clear hO hP
  go_wp2_with fail
  refine (next_any A n c b _ _ hS2).mono ?_
  rintro e w3 ⟨x, rfl, x0, x1, -, hS3, hd3⟩
  have x1 := x1 (by omega)
  go_wp2_with fail
  refine (next_any A n c b _ _ hS3).mono ?_
  rintro e w4 ⟨y, rfl, y0, y1, -, hS4, hd4⟩
  have y1 := y1 (by omega)
  go_wp2_with fail
  refine (pick_any NumN A n c b _ 6 6 _ (hS4.alloc _) (by have := hS4.lt; omega) (by omega) (by omega) (allP_alloc NumN w4 _ _ _ [1000 + x, 1000 + 10 * y, 1000, 9999, 10000, 999] rfl rfl (by simp [NumN]; omega))).mono ?_
  rintro e w5 ⟨z, rfl, hz, hS5, hd5⟩
  have hT5 := ((hd3.trans hd4).alloc (.cells #[.int .i64 (1000 + x), .int .i64 (1000 + 10 * y), .int .i64 1000, .int .i64 9999, .int .i64 10000, .int .i64 999] 2)).trans hd5
  clear hd3 hd4 hd5
  have HO5 := Lib.hid (Lst3.mono (ownsRow_dr HO.out hT5 lb) hl1.size)
  go_wp2_with fail
  ((try simp only [Exit.inBlock, Exit.then]); refine bodyPost_ret (v := .tuple #[v, .int .i64 z]) (by simp [results, Try.results14, go_sem]) rfl ?_)
  exact ⟨v, zs, z, rfl, l1, HP.out, hz, HO5.out, hl1.trans ((hT2.trans hT5).below hb hl1.size)⟩
end Go.Proofs.Ytggflladheemoaa
