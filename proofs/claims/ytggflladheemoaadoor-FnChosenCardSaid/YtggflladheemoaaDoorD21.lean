/- Draws of chapters 7 and 8: graduations on a scale; ticks of a graduation; heights. -/
import Derived.Test.YtggflladheemoaaDoorDB
import Derived.Test.YtggflladheemoaaDoorD12
import Derived.Test.YtggflladheemoaaDoorDA
namespace Go.Proofs.YtggflladheemoaaDoor
open Go.RowKit Go.ChangeShapes Go.WideShapes Go.ChangeAt
set_option linter.unusedVariables false
set_option linter.unusedSimpArgs false
attribute [local go_sem high] run_imin run_imax

set_option maxHeartbeats 2000000 in
theorem drawLD_any (A : Option Addr) (n c : Nat) (w : World) (hn : n ≤ 4611686018427387904) (hB : Bytes w w.heap.size A n) :
    Calls Tryd.prog 18 #[.slice A n c] w (OneP2 w) := by
  go_enter Tryd.func18, Tryd.ntmps18
  go_wp2_with fail
  refine (from_any A n c w hn hB).mono ?_
  rintro e w1 ⟨b, rfl, hb, hS1, hl1⟩
  have lb := hS1.lt
  go_wp2_with fail
  refine (draw7_any A n c b _ hS1).mono ?_
  rintro e w2 ⟨v, zs, rfl, -, l1, hP, hO, hS2, hT2⟩
  have HO := Lib.hid hO
  have HP := Lib.hid hP
  clear hO hP
  go_wp2_with fail
  refine (drawScl_any A n c b _ hS2).mono ?_
  rintro e w3 ⟨x, rfl, hx, hS3, hd3⟩
  go_wp2_with fail
  refine (drawLength_any A n c b _ hS3).mono ?_
  rintro e w4 ⟨y, rfl, hy, hS4, hd4⟩
  have hT4 := hd3.trans hd4
  clear hd3 hd4
  have HO5 := Lib.hid (Lst3.mono (ownsRow_dr HO.out hT4 lb) hl1.size)
  have hx2 : NumN x := by unfold ScaN at hx; unfold NumN; omega
  have hy2 : NumN y := by unfold LenN at hy; unfold NumN; omega
  go_wp2_with fail
  ((try simp only [Exit.inBlock, Exit.then]); refine bodyPost_ret (v := .tuple #[v, .int .i64 x, .int .i64 y]) (by simp [results, Tryd.results18, go_sem]) rfl ?_)
  exact ⟨v, zs, x, y, rfl, l1, HP.out, hx2, hy2, HO5.out, hl1.trans ((hT2.trans hT4).below hb hl1.size)⟩
/-- A drawn graduation with four numbers. -/
def OneP4 (w : World) (e : Ending) (w' : World) : Prop := ∃ v zs s l f t, e = .returned (.tuple #[v, .int .i64 s, .int .i64 l, .int .i64 f, .int .i64 t]) ∧ zs.length ≤ 12 ∧ (∀ z ∈ zs, PtB z) ∧ Lst3 39 w' w.heap.size v zs ∧ Below w.heap.size w w'
set_option maxHeartbeats 2000000 in
theorem drawTO_any (A : Option Addr) (n c : Nat) (w : World) (hn : n ≤ 4611686018427387904) (hB : Bytes w w.heap.size A n) :
    Calls Tryd.prog 29 #[.slice A n c] w (OneP4 w) := by
  go_enter Tryd.func29, Tryd.ntmps29
  go_wp2_with fail
  refine (from_any A n c w hn hB).mono ?_
  rintro e w1 ⟨b, rfl, hb, hS1, hl1⟩
  have lb := hS1.lt
  go_wp2_with fail
  refine (drawLD_any A n c _ hn (hB.later hl1)).mono ?_
  rintro e w2 ⟨v, zs, s, l, rfl, l1, hP, -, -, hO, hb2⟩
  have hS2 := hS1.under hb2 lb
  have hl2 := hl1.trans (hb2.mono hl1.size)
  have HO := Lib.hid hO
  have HP := Lib.hid hP
  clear hO hP hS1
  go_wp2_with fail
  refine (next_any A n c b _ _ hS2).mono ?_
  rintro e w3 ⟨x, rfl, x0, x1, -, hS3, hd3⟩
  have x1 := x1 (by omega)
  obtain ⟨m1, hm1⟩ : ∃ m, imin 9999 (1000 + 100 * x + 1000) = m := ⟨_, rfl⟩
  obtain ⟨m2, hm2⟩ : ∃ m, imin 9999 (1000 + 100 * x + 3000) = m := ⟨_, rfl⟩
  have HM1 := Lib.hid hm1
  have HM2 := Lib.hid hm2
  go_wp2_with fail
  refine (pick_any (fun _ => True) A n c b _ 5 5 _ (hS3.alloc _) (by have := hS3.lt; omega) (by omega) (by omega) (allP_alloc (fun _ => True) w3 _ _ _ [m1, m2, 9999, 1000 + 100 * x - 1, 10000] rfl rfl (fun _ _ => trivial))).mono ?_
  rintro e w4 ⟨y, rfl, -, hS4, hd4⟩
  have hT4 := hd3.trans ((Dr.alloc (Dr.refl b w3) _).trans hd4)
  clear hd3 hd4
  have HO5 := Lib.hid (Lst3.mono (ownsRow_dr HO.out hT4 lb) hl1.size)
  go_wp2_with fail
  ((try simp only [Exit.inBlock, Exit.then]); refine bodyPost_ret (v := .tuple #[v, .int .i64 s, .int .i64 l, .int .i64 (1000 + 100 * x), .int .i64 y]) (by simp [results, Tryd.results29, go_sem]) rfl ?_)
  exact ⟨v, zs, s, l, 1000 + 100 * x, y, rfl, l1, HP.out, HO5.out, hl2.trans (hT4.below hb hl2.size)⟩
def OneN (w : World) (e : Ending) (w' : World) : Prop := ∃ x, e = .returned (.int .i64 x) ∧ NumN x ∧ Below w.heap.size w w'
set_option maxHeartbeats 2000000 in
theorem drawTH_any (A : Option Addr) (n c : Nat) (w : World) (hn : n ≤ 4611686018427387904) (hB : Bytes w w.heap.size A n) :
    Calls Tryd.prog 32 #[.slice A n c] w (OneN w) := by
  go_enter Tryd.func32, Tryd.ntmps32
  go_wp2_with fail
  refine (from_any A n c w hn hB).mono ?_
  rintro e w1 ⟨b, rfl, hb, hS1, hl1⟩
  go_wp2_with fail
  refine (next_any A n c b _ _ hS1).mono ?_
  rintro e w3 ⟨x, rfl, x0, x1, -, hS3, hd3⟩
  have x1 := x1 (by omega)
  go_wp2_with fail
  refine (next_any A n c b _ _ hS3).mono ?_
  rintro e w4 ⟨y, rfl, y0, y1, -, hS4, hd4⟩
  have y1 := y1 (by omega)
  go_wp2_with fail
  refine (next_any A n c b _ _ hS4).mono ?_
  rintro e w5 ⟨z, rfl, z0, z1, -, hS5, hd5⟩
  have z1 := z1 (by omega)
  go_wp2_with fail
  refine (pick_any NumN A n c b _ 7 7 _ (hS5.alloc _) (by have := hS5.lt; omega) (by omega) (by omega) (allP_alloc NumN w5 _ _ _ [1000 + x, 1000 + 50 * y, 1000 + 500 * z, 999, 9999, 10000, 1000] rfl rfl (by simp [NumN]; omega))).mono ?_
  rintro e w6 ⟨u, rfl, hu, hS6, hd6⟩
  have hT := hd3.trans (hd4.trans (hd5.trans ((Dr.alloc (Dr.refl b w5) _).trans hd6)))
  clear hd3 hd4 hd5 hd6
  go_wp2_with fail
  go_ret
  exact ⟨u, rfl, hu, hl1.trans (hT.below hb hl1.size)⟩
end Go.Proofs.YtggflladheemoaaDoor
