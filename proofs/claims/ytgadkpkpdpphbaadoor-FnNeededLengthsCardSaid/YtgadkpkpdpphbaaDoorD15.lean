/- Draws of chapter 6: points, eyes, readings, needed lengths. -/
import Derived.Test.YtgadkpkpdpphbaaDoorD13
import Derived.Test.YtgadkpkpdpphbaaDoorMm
import Derived.Test.YtgadkpkpdpphbaaDoorC06a
namespace Go.Proofs.YtgadkpkpdpphbaaDoor
open Go.RowKit
set_option linter.unusedVariables false
set_option linter.unusedSimpArgs false
attribute [local go_sem high] run_imin run_imax

def PtN (x : Int) : Prop := -1 ≤ x ∧ x ≤ 100002
def EyeN (x : Int) : Prop := -1 ≤ x ∧ x ≤ 201
theorem ptN_clamp (l x : Int) (h : LenN l) : PtN (imax 0 (imin l x)) := by
  obtain ⟨h1, h2⟩ := h
  unfold PtN imax imin
  split <;> split <;> omega

theorem drawEye_any (A : Option Addr) (n c b : Nat) (w : World) (hS : Src A n c b w) :
    Calls Tryd.prog 42 #[.pointer (some ⟨b, 0, none⟩)] w (Got EyeN A n c b w) := by
  have hlt := hS.lt
  go_enter Tryd.func42, Tryd.ntmps42
  go_wp2_with fail
  refine (next_any A n c b _ _ hS).mono ?_
  rintro e w1 ⟨x, rfl, x0, x1, -, hS1, hd1⟩
  have x1 := x1 (by omega)
  go_wp2_with fail
  refine (pick_any EyeN A n c b _ 8 8 _ (hS1.alloc _) (by have := hS1.lt; omega) (by omega) (by omega) (allP_alloc EyeN w1 _ _ _ [0, 5, 10, 20, x, 200, 201, -1] rfl rfl (by simp [EyeN]; omega))).mono ?_
  rintro e w2 ⟨y, rfl, hy, hS2, hd2⟩
  go_wp2_with fail
  go_ret
  exact ⟨y, rfl, hy, hS2, (hd1.alloc _).trans hd2⟩

/-- What Next answers at l + 1 for a drawn length. -/
theorem next_len {l x : Int} (hl : LenN l) (x0 : 0 ≤ x) (h1 : 1 < l + 1 → x < l + 1) (h2 : l + 1 ≤ 1 → x = 0) : x ≤ 100002 := by
  obtain ⟨l0, l1⟩ := hl
  by_cases h : 1 < l + 1
  · have := h1 h; omega
  · have := h2 (by omega); omega

set_option maxHeartbeats 2000000 in
theorem drawPoint_any (A : Option Addr) (n c b : Nat) (s l : Int) (hl : LenN l) (w : World) (hS : Src A n c b w) :
    Calls Tryd.prog 41 #[.pointer (some ⟨b, 0, none⟩), .int .i64 s, .int .i64 l] w (Got PtN A n c b w) := by
  have hlt := hS.lt
  obtain ⟨l0, l1⟩ := hl
  have HP := Lib.hid (fun x => ptN_clamp l x ⟨l0, l1⟩)
  have HN := Lib.hid (fun (x : Int) (x0 : 0 ≤ x) h1 h2 => next_len (l := l) (x := x) ⟨l0, l1⟩ x0 h1 h2)
  have E1 := Lib.hid (fun W => isScale_spec s W)
  have E2 := Lib.hid (fun W => isLength_spec l W)
  rcases sc_tf s with h1 | h1
  rotate_left
  · rw [h1] at E1
    clear h1 E2
    go_enter Tryd.func41, Tryd.ntmps41
    go_wp2_with (go_at_call 66; refine (E1.out _).mono ?_; rintro e w' ⟨rfl, rfl⟩)
    refine (next_any A n c b _ _ hS).mono ?_
    rintro e w1 ⟨x, rfl, x0, x1, x2, hS1, hd1⟩
    have xb := HN.out x x0 x1 x2
    go_wp2_with fail
    refine (next_any A n c b _ _ hS1).mono ?_
    rintro e w2 ⟨y, rfl, y0, y1, y2, hS2, hd2⟩
    have yb := HN.out y y0 y1 y2
    go_wp2_with fail
    refine (next_any A n c b _ _ hS2).mono ?_
    rintro e w3 ⟨z, rfl, z0, z1, z2, hS3, hd3⟩
    have zb := HN.out z z0 z1 z2
    clear x1 x2 y1 y2 z1 z2
    go_wp2_with fail
    refine (pick_any PtN A n c b _ 7 7 _ (hS3.alloc _) (by have := hS3.lt; omega) (by omega) (by omega) (allP_alloc PtN w3 _ _ _ [0, l, l + 1, -1, x, y, z] rfl rfl (by simp [PtN]; omega))).mono ?_
    rintro e w4 ⟨u, rfl, hu, hS4, hd4⟩
    go_wp2_with fail
    go_ret
    exact ⟨u, rfl, hu, hS4, (((hd1.trans hd2).trans hd3).alloc _).trans hd4⟩
  · rw [h1] at E1
    rcases ln_tf l with h2 | h2
    rotate_left
    · rw [h2] at E2
      clear h1 h2
      go_enter Tryd.func41, Tryd.ntmps41
      go_wp2_with (first | (go_at_call 66; refine (E1.out _).mono ?_; rintro e w' ⟨rfl, rfl⟩) | (go_at_call 86; refine (E2.out _).mono ?_; rintro e w' ⟨rfl, rfl⟩))
      refine (next_any A n c b _ _ hS).mono ?_
      rintro e w1 ⟨x, rfl, x0, x1, x2, hS1, hd1⟩
      have xb := HN.out x x0 x1 x2
      go_wp2_with fail
      refine (next_any A n c b _ _ hS1).mono ?_
      rintro e w2 ⟨y, rfl, y0, y1, y2, hS2, hd2⟩
      have yb := HN.out y y0 y1 y2
      go_wp2_with fail
      refine (next_any A n c b _ _ hS2).mono ?_
      rintro e w3 ⟨z, rfl, z0, z1, z2, hS3, hd3⟩
      have zb := HN.out z z0 z1 z2
      clear x1 x2 y1 y2 z1 z2
      go_wp2_with fail
      refine (pick_any PtN A n c b _ 7 7 _ (hS3.alloc _) (by have := hS3.lt; omega) (by omega) (by omega) (allP_alloc PtN w3 _ _ _ [0, l, l + 1, -1, x, y, z] rfl rfl (by simp [PtN]; omega))).mono ?_
      rintro e w4 ⟨u, rfl, hu, hS4, hd4⟩
      go_wp2_with fail
      go_ret
      exact ⟨u, rfl, hu, hS4, (((hd1.trans hd2).trans hd3).alloc _).trans hd4⟩
    · rw [h2] at E2
      have HQ := Lib.hid (fun (m : Nat) (hm : m < 2700) W => position_spec s (atD m) (atT m) W (at_fg m hm) h1 (lgb_ok (at_fg m hm)))
      have HL := Lib.hid (fun (m : Nat) (hm : m < 2700) W => pl_spec s (atD m) (atT m) l W (at_fg m hm) h2)
      have HD := Lib.hid (fun W => decades_spec s W)
      obtain ⟨d1, d2⟩ := dec_bd s
      generalize dec s = dc at *
      clear h1 h2
      go_enter Tryd.func41, Tryd.ntmps41
      go_wp2_with (first | (go_at_call 66; refine (E1.out _).mono ?_; rintro e w' ⟨rfl, rfl⟩) | (go_at_call 86; refine (E2.out _).mono ?_; rintro e w' ⟨rfl, rfl⟩))
      refine (next_any A n c b _ _ hS).mono ?_
      rintro e w1 ⟨v, rfl, v0, v1, -, hS1, hd1⟩
      have v1 := v1 (by omega)
      by_cases hv : 0 < v
      · clear v0
        go_wp2_with (go_at_call 58; refine (HD.out _).mono ?_; rintro e w' ⟨rfl, rfl⟩)
        refine (next_any A n c b _ _ hS1).mono ?_
        rintro e w2 ⟨m, rfl, m0, m1, -, hS2, hd2⟩
        have m1 := m1 (by omega)
        obtain ⟨m, rfl⟩ := Int.eq_ofNat_of_zero_le m0
        have hm : m < 2700 := by omega
        have HA := Lib.hid (fun W => at_spec6 m W hm)
        have hq := Lib.hid (HQ.out m hm)
        have hl := Lib.hid (HL.out m hm)
        generalize pl s (atD m) (atT m) l = y at *
        generalize psn s (atD m) (atT m) = q at *
        generalize atD m = dm at *
        generalize atT m = tm at *
        obtain ⟨y1, y2⟩ := y
        simp only at hl
        clear HQ HL m0 m1
        go_wp2_with fail
        refine (HA.out _).mono ?_
        rintro e w3 ⟨rfl, hg3⟩
        have S3 := hS2.below hg3.below
        have hd3 : Dr b w w3 := (hd1.trans hd2).trans (Dr.of_below hg3.below)
        clear hS2 hg3 HA
        go_wp2_with fail
        refine (hq.out _).mono ?_
        rintro e w4 ⟨rfl, hg4⟩
        have S4 := S3.below hg4.below
        have hd4 := hd3.trans (Dr.of_below hg4.below)
        clear S3 hd3 hg4 hq
        go_wp2_with fail
        refine (hl.out _).mono ?_
        rintro e w5 ⟨rfl, hg5⟩
        have S5 := (S4.below hg5.below).alloc (.cells #[.int .i64 y1, .int .i64 y2] 38)
        have l5 := (S4.below hg5.below).lt
        have hd5 := (hd4.trans (Dr.of_below hg5.below)).alloc (.cells #[.int .i64 y1, .int .i64 y2] 38)
        have E5 := Blk.new w5 38 #[.int .i64 y1, .int .i64 y2]
        clear S4 hd4 hg5 hl
        go_wp2_with fail
        generalize w5.alloc (.cells #[.int .i64 y1, .int .i64 y2] 38) = w6 at *
        obtain ⟨k0, k1, kf⟩ := E5.two
        go_region_held3 (fun w' => w'.cell? ⟨w5.heap.size, 0, none⟩ = some (.int .i64 y1) ∧ w'.cell? ⟨w5.heap.size, 1, none⟩ = some (.int .i64 y2)) (first | exact ⟨k0, k1⟩ | exact ⟨h0, h1⟩ | (go_simp; done)) (first
          | (go_at_call 57; refine (next_any A n c b _ _ S5.drew).mono ?_; rintro e w7 ⟨z, rfl, z0, z1, -, hS7, hd7⟩; obtain ⟨h0, h1, hf1⟩ := (Blk.dr (w := w6.drew) E5 hd7 (by omega)).two))
        all_goals
          go_wp2
          go_ret
          exact ⟨_, rfl, HP.out _, hS7, hd5.drew.trans hd7⟩
      · obtain rfl : v = 0 := by omega
        clear v0 v1 hv
        go_wp2_with fail
        refine (next_any A n c b _ _ hS1).mono ?_
        rintro e w2 ⟨x, rfl, x0, x1, x2, hS2, hd2⟩
        have xb := HN.out x x0 x1 x2
        go_wp2_with fail
        refine (next_any A n c b _ _ hS2).mono ?_
        rintro e w3 ⟨y, rfl, y0, y1, y2, hS3, hd3⟩
        have yb := HN.out y y0 y1 y2
        go_wp2_with fail
        refine (next_any A n c b _ _ hS3).mono ?_
        rintro e w4 ⟨z, rfl, z0, z1, z2, hS4, hd4⟩
        have zb := HN.out z z0 z1 z2
        clear x1 x2 y1 y2 z1 z2
        go_wp2_with fail
        refine (pick_any PtN A n c b _ 7 7 _ (hS4.alloc _) (by have := hS4.lt; omega) (by omega) (by omega) (allP_alloc PtN w4 _ _ _ [0, l, l + 1, -1, x, y, z] rfl rfl (by simp [PtN]; omega))).mono ?_
        rintro e w5 ⟨u, rfl, hu, hS5, hd5⟩
        go_wp2_with fail
        go_ret
        exact ⟨u, rfl, hu, hS5, ((((hd1.trans hd2).trans hd3).trans hd4).alloc _).trans hd5⟩

/-- A drawn scale, length, point, eye. -/
def RdN (w : World) (e : Ending) (w' : World) : Prop := ∃ s l p k : Int, e = .returned (.tuple #[.int .i64 s, .int .i64 l, .int .i64 p, .int .i64 k]) ∧ ScaN s ∧ LenN l ∧ PtN p ∧ EyeN k ∧ Below w.heap.size w w'
theorem drawFirst_any (A : Option Addr) (n c : Nat) (w : World) (hn : n ≤ 4611686018427387904) (hB : Bytes w w.heap.size A n) :
    Calls Tryd.prog 13 #[.slice A n c] w (RdN w) := by
  go_enter Tryd.func13, Tryd.ntmps13
  go_wp2_with fail
  refine (from_any A n c w hn hB).mono ?_
  rintro e w1 ⟨b, rfl, hb, hS1, hl1⟩
  go_wp2_with fail
  refine (drawScl_any A n c b _ hS1).mono ?_
  rintro e w2 ⟨s, rfl, hs, hS2, hd2⟩
  go_wp2_with fail
  refine (drawLength_any A n c b _ hS2).mono ?_
  rintro e w3 ⟨l, rfl, hl, hS3, hd3⟩
  go_wp2_with fail
  refine (drawPoint_any A n c b s l hl _ hS3).mono ?_
  rintro e w4 ⟨p, rfl, hp, hS4, hd4⟩
  have hT := hd2.trans (hd3.trans hd4)
  clear hd2 hd3 hd4 hS1 hS2 hS3
  go_wp2_with fail
  refine (drawEye_any A n c b _ hS4).mono ?_
  rintro e w5 ⟨k, rfl, hk, hS5, hd5⟩
  go_wp2_with fail
  ((try simp only [Exit.inBlock, Exit.then]); refine bodyPost_ret (v := .tuple #[.int .i64 s, .int .i64 l, .int .i64 p, .int .i64 k]) (by simp [results, Tryd.results13, go_sem]) rfl ?_)
  exact ⟨s, l, p, k, rfl, hs, hl, hp, hk, hl1.trans ((hT.trans hd5).below hb hl1.size)⟩
end Go.Proofs.YtgadkpkpdpphbaaDoor
