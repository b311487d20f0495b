/- Plain mathematics, merged. -/
import Derived.Test.YtggflladheemoaaDoorDl
import Derived.RegionTactic
import Derived.Deep.RegionHeld3
import Derived.Test.YtggflladheemoaaDoorDB
import Derived.Test.YtggflladheemoaaDoor9C
import Derived.Test.YtggflladheemoaaDoorC08f
/- Two lists with the same elements are alike. -/
namespace Go.Proofs.YtggflladheemoaaDoor
open Go.RowKit Go.ChangeShapes Go.WideShapes Go.ChangeAt
set_option linter.unusedVariables false
set_option linter.unusedSimpArgs false

/-- Two slices with the same elements are alike. -/
theorem likeInts_same (A B : Option Addr) (n c d : Nat) (zs : List Int) (w : World) (hn : zs.length = n) (hN : n ≤ 16777216) (hA : Reads w w.heap.size A (zs.map vi)) (hB : Reads w w.heap.size B (zs.map vi)) :
    Calls Tryd.prog 39 #[.slice A n c, .slice B n d] w fun e w' => e = .returned (.bool true) ∧ Gr w w' := by
  have HL := Lib.hid hn
  clear hn
  go_enter Tryd.func39, Tryd.ntmps39
  go_wp2
  go_loopw [5] (fun i wr => ∃ k m : Nat, k ≤ n ∧ i = .int .i64 k ∧ wr = w.drewN m) (fun i _ => n - (intOf i).toNat)
  case atStart => exact ⟨0, 0, by omega, rfl, rfl⟩
  case round =>
    obtain ⟨k, m, hk, rfl, rfl⟩ := hrel
    by_cases hlt : k < n
    · obtain ⟨z, hz⟩ := some_at (l := zs) (k := k) (by rw [HL.out]; exact hlt)
      obtain ⟨g, o, rfl, hg, hc⟩ := hA.at_ (map_at hz)
      obtain ⟨g2, o2, rfl, hg2, hc2⟩ := hB.at_ (map_at hz)
      clear hz
      go_wp2
      go_quiet (fail)
      go_wp2
      go_roundw
      case rel => exact ⟨k + 1, _, by omega, by go_num, rfl⟩
      case measure => simp [intOf]; omega
    · go_wp2
      go_ret
      exact ⟨rfl, (Gr.refl w).drewN m⟩
end Go.Proofs.YtggflladheemoaaDoor

/- Draws of chapter 9: ticks with labels, lists of them, choices. -/
namespace Go.Proofs.YtggflladheemoaaDoor
open Go.RowKit Go.Shelf Go.ChangeShapes Go.WideShapes Go.ChangeAt
set_option linter.unusedVariables false
set_option linter.unusedSimpArgs false

theorem Blk.three {w : World} {g : Nat} {t : TypeId} {x y z : Value} (h : Blk w g t #[x, y, z]) : w.cell? ⟨g, 0, none⟩ = some x ∧ w.cell? ⟨g, 1, none⟩ = some y ∧ w.cell? ⟨g, 2, none⟩ = some z ∧ (∀ i, w.frozen? ⟨g, i, none⟩ = false) := by
  have c0 := cell_of_row w g 0 _ _ _ h
  have c1 := cell_of_row w g 1 _ _ _ h
  have c2 := cell_of_row w g 2 _ _ _ h
  simp at c0 c1 c2
  exact ⟨c0, c1, c2, fun i => free_row h i⟩
/-- A tick as draws make them. -/
def TkN (a p h : Int) : Prop := (0 ≤ a ∧ a ≤ 10000) ∧ (-1 ≤ p ∧ p ≤ 100001) ∧ (-1 ≤ h ∧ h ≤ 5)
def GotK (A : Option Addr) (n c b : Nat) (w : World) (e : Ending) (w' : World) : Prop :=
  ∃ a p h : Int, e = .returned (.agg #[.int .i64 a, .int .i64 p, .int .i64 h]) ∧ TkN a p h ∧ Src A n c b w' ∧ Dr b w w'
def MkN (x : Int) : Prop := 0 ≤ x ∧ x ≤ 10000
def PlN (x : Int) : Prop := -1 ≤ x ∧ x ≤ 100001

set_option maxRecDepth 100000 in
set_option maxHeartbeats 8000000 in
theorem drawTk9_any (A : Option Addr) (n c b : Nat) (w : World) (hS : Src A n c b w) :
    Calls Tryd.prog 133 #[.pointer (some ⟨b, 0, none⟩)] w (GotK A n c b w) := by
  have hlt := hS.lt
  go_enter Tryd.func133, Tryd.ntmps133
  go_wp2_with fail
  have R0 := Blk.new w 60 #[.int .i64 0, .int .i64 0, .int .i64 0]
  refine (next_any A n c b _ _ (hS.alloc _)).mono ?_
  rintro e w1 ⟨x1, rfl, a1, b1, -, hS1, hd1⟩
  have b1 := b1 (by omega)
  go_wp2_with fail
  refine (next_any A n c b _ _ hS1).mono ?_
  rintro e w2 ⟨x2, rfl, a2, b2, -, hS2, hd2⟩
  have b2 := b2 (by omega)
  go_wp2_with fail
  refine (next_any A n c b _ _ hS2).mono ?_
  rintro e w3 ⟨x3, rfl, a3, b3, -, hS3, hd3⟩
  have b3 := b3 (by omega)
  go_wp2_with fail
  refine (next_any A n c b _ _ hS3).mono ?_
  rintro e w4 ⟨x4, rfl, a4, b4, -, hS4, hd4⟩
  have b4 := b4 (by omega)
  go_wp2_with fail
  refine (pick_any MkN A n c b _ 4 4 _ (hS4.alloc _) (by have := hS4.lt; omega) (by omega) (by omega) (allP_alloc MkN w4 _ _ _ [1000 * (1 + x1), 1000 + 100 * x2, 1000 + 50 * x3, 1000 + 10 * x4] rfl rfl (by simp [MkN]; omega))).mono ?_
  rintro e w5 ⟨m, rfl, ⟨m0, m1⟩, hS5, hd5⟩
  have T := ((((hd1.trans (hd2.trans (hd3.trans hd4))).alloc (.cells #[.int .i64 (1000 * (1 + x1)), .int .i64 (1000 + 100 * x2), .int .i64 (1000 + 50 * x3), .int .i64 (1000 + 10 * x4)] 2)).trans hd5))
  have R5 := R0.dr T (by omega)
  have hT5 := ((Dr.refl b w).alloc (.cells #[.int .i64 0, .int .i64 0, .int .i64 0] 60)).trans T
  clear T hd1 hd2 hd3 hd4 hd5 hS1 hS2 hS3 hS4 a1 b1 a2 b2 a3 b3 a4 b4 R0
  go_wp2_with fail
  refine (next_any A n c b _ _ hS5).mono ?_
  rintro e w6 ⟨p, rfl, p0, p1, -, hS6, hd6⟩
  have p1 := p1 (by omega)
  have R6 := R5.dr hd6 (by omega)
  have hT6 := hT5.trans hd6
  have hHB := hgt_bd m
  have HH := Lib.hid (fun W => hgt_spec m W m0 (by omega))
  clear hd6 hS5 R5 hT5
  generalize hgt m = h at *
  go_wp2_with fail
  refine (HH.out _).mono ?_
  rintro e w7 ⟨rfl, hg⟩
  have R7 := R6.gr hg
  have hS7 := (hS6.under hg.below hS6.lt).alloc (.cells #[.int .i64 m, .int .i64 p, .int .i64 h] 60)
  have hT7 := (hT6.trans ⟨hg.below.os, hg.below.tape, hg.below.output, hg.below.size, fun k hk _ => hg.below.block k hk⟩).alloc (.cells #[.int .i64 m, .int .i64 p, .int .i64 h] 60)
  have E7 := Blk.new w7 60 #[.int .i64 m, .int .i64 p, .int .i64 h]
  have r7 := R7.lt
  have b7 : b < w7.heap.size := by have := hT6.size; have := hg.below.size; omega
  have R7' := R7.alloc (.cells #[.int .i64 m, .int .i64 p, .int .i64 h] 60)
  clear R6 hS6 hT6 hg HH R7
  go_wp2_with fail
  refine (next_any A n c b _ _ hS7).mono ?_
  rintro e w8 ⟨q, rfl, q0, q1, -, hS8, hd8⟩
  have q1 := q1 (by omega)
  have R8 := R7'.dr hd8 (by omega)
  have E8 := E7.dr hd8 (by omega)
  have hT8 := hT7.trans hd8
  have ne1 : w.heap.size ≠ w7.heap.size := by omega
  have ne2 : w7.heap.size ≠ w.heap.size := by omega
  have l8 := hS8.lt
  have e8 := E8.lt
  clear R7' E7 hd8 hT7 hS7
  have hq : q = 0 ∨ q = 1 ∨ q = 2 ∨ (((q : Int) == 0) = false ∧ ((q : Int) == 1) = false ∧ ((q : Int) == 2) = false) := by
    by_cases h0 : q = 0
    · exact .inl h0
    · by_cases h1 : q = 1
      · exact .inr (.inl h1)
      · by_cases h2 : q = 2
        · exact .inr (.inr (.inl h2))
        · exact .inr (.inr (.inr ⟨by simp [h0], by simp [h1], by simp [h2]⟩))
  rcases hq with rfl | rfl | rfl | ⟨hb0, hb1, hb2⟩
  · clear q0 q1
    go_wp2_with fail
    refine (pick_any MkN A n c b _ 4 4 _ (hS8.alloc _) (by omega) (by omega) (by omega) (allP_alloc MkN w8 _ _ _ [999, 9999, 10000, 0] rfl rfl (by simp [MkN]))).mono ?_
    rintro e w9 ⟨y, rfl, ⟨y0, y1⟩, hS9, hd9⟩
    have T9 := (Dr.alloc (Dr.refl b w8) (.cells #[.int .i64 999, .int .i64 9999, .int .i64 10000, .int .i64 0] 2)).trans hd9
    have hT9 := hT8.trans T9
    obtain ⟨k0, k1, k2, kf⟩ := (E8.dr T9 (by omega)).three
    obtain ⟨r0, r1, r2, rf⟩ := (R8.dr T9 (by omega)).three
    have lr : w.heap.size < w9.heap.size := by have := T9.size; omega
    have lt9 : w7.heap.size < w9.heap.size := by have := T9.size; omega
    clear R8 E8 hT8 hd9 hS8 T9
    go_wp2_with fail
    ((try simp only [Exit.inBlock, Exit.then]); refine bodyPost_ret (v := .agg #[.int .i64 y, .int .i64 p, .int .i64 h]) (by simp [results, Tryd.results133, go_sem, r0, r1, r2, World.cell?_setCell_same']) rfl ?_)
    exact ⟨y, p, h, rfl, by unfold TkN; omega, (((hS9.far (by exact b7) _).far (by exact hlt) _).far (by exact hlt) _).far (by exact hlt) _, (((hT9.setCell (.inr (Nat.le_of_lt r7)) _).setCell (.inr (Nat.le_refl _)) _).setCell (.inr (Nat.le_refl _)) _).setCell (.inr (Nat.le_refl _)) _⟩
  · clear q0 q1
    go_wp2_with fail
    refine (pick_any PlN A n c b _ 3 3 _ (hS8.alloc _) (by omega) (by omega) (by omega) (allP_alloc PlN w8 _ _ _ [-1, 100000, 100001] rfl rfl (by simp [PlN]))).mono ?_
    rintro e w9 ⟨y, rfl, ⟨y0, y1⟩, hS9, hd9⟩
    have T9 := (Dr.alloc (Dr.refl b w8) (.cells #[.int .i64 (-1), .int .i64 100000, .int .i64 100001] 2)).trans hd9
    have hT9 := hT8.trans T9
    obtain ⟨k0, k1, k2, kf⟩ := (E8.dr T9 (by omega)).three
    obtain ⟨r0, r1, r2, rf⟩ := (R8.dr T9 (by omega)).three
    have lr : w.heap.size < w9.heap.size := by have := T9.size; omega
    have lt9 : w7.heap.size < w9.heap.size := by have := T9.size; omega
    clear R8 E8 hT8 hd9 hS8 T9
    go_wp2_with fail
    ((try simp only [Exit.inBlock, Exit.then]); refine bodyPost_ret (v := .agg #[.int .i64 m, .int .i64 y, .int .i64 h]) (by simp [results, Tryd.results133, go_sem, r0, r1, r2, World.cell?_setCell_same']) rfl ?_)
    exact ⟨m, y, h, rfl, by unfold TkN; omega, (((hS9.far (by exact b7) _).far (by exact hlt) _).far (by exact hlt) _).far (by exact hlt) _, (((hT9.setCell (.inr (Nat.le_of_lt r7)) _).setCell (.inr (Nat.le_refl _)) _).setCell (.inr (Nat.le_refl _)) _).setCell (.inr (Nat.le_refl _)) _⟩
  · clear q0 q1
    go_wp2_with fail
    refine (next_any A n c b _ _ hS8).mono ?_
    rintro e w9 ⟨y, rfl, y0, y1, -, hS9, hd9⟩
    have y1 := y1 (by omega)
    have hT9 := hT8.trans hd9
    obtain ⟨k0, k1, k2, kf⟩ := (E8.dr hd9 (by omega)).three
    obtain ⟨r0, r1, r2, rf⟩ := (R8.dr hd9 (by omega)).three
    have lr : w.heap.size < w9.heap.size := by have := hd9.size; omega
    have lt9 : w7.heap.size < w9.heap.size := by have := hd9.size; omega
    clear R8 E8 hT8 hd9 hS8
    go_wp2_with fail
    ((try simp only [Exit.inBlock, Exit.then]); refine bodyPost_ret (v := .agg #[.int .i64 m, .int .i64 p, .int .i64 (y - 1)]) (by simp [results, Tryd.results133, go_sem, r0, r1, r2, World.cell?_setCell_same']) rfl ?_)
    exact ⟨m, p, y - 1, rfl, by unfold TkN; omega, (((hS9.far (by exact b7) _).far (by exact hlt) _).far (by exact hlt) _).far (by exact hlt) _, (((hT9.setCell (.inr (Nat.le_of_lt r7)) _).setCell (.inr (Nat.le_refl _)) _).setCell (.inr (Nat.le_refl _)) _).setCell (.inr (Nat.le_refl _)) _⟩
  · clear q0 q1
    obtain ⟨k0, k1, k2, kf⟩ := E8.three
    obtain ⟨r0, r1, r2, rf⟩ := R8.three
    have lr : w.heap.size < w8.heap.size := by omega
    clear R8 E8
    go_wp2_with fail
    ((try simp only [Exit.inBlock, Exit.then]); refine bodyPost_ret (v := .agg #[.int .i64 m, .int .i64 p, .int .i64 h]) (by simp [results, Tryd.results133, go_sem, r0, r1, r2, World.cell?_setCell_same']) rfl ?_)
    exact ⟨m, p, h, rfl, by unfold TkN; omega, ((hS8.far (by exact hlt) _).far (by exact hlt) _).far (by exact hlt) _, ((hT8.setCell (.inr (Nat.le_refl _)) _).setCell (.inr (Nat.le_refl _)) _).setCell (.inr (Nat.le_refl _)) _⟩

/-- Drawn ticks with labels. -/
def GotL (A : Option Addr) (n c b : Nat) (w : World) (e : Ending) (w' : World) : Prop :=
  ∃ v zs, e = .returned v ∧ zs.length ≤ 41 ∧ LstT w' w.heap.size v zs ∧ Src A n c b w' ∧ Dr b w w'
theorem Lst3.appn {T : TypeId} {w wr w1 : World} {B n : Nat} {v v' : Value} {xs : List P3} {a b c : Int} {o : Obj} (hn : xs.length = n) (hb : Below B w wr) (hB : B ≤ wr.heap.size) (hx : (wr.alloc o).ownsRow B T 3 v n (cells3 xs)) (h' : w1.ownsRow B T 3 v' (n + 1) (cells3 xs ++ [vi a, vi b, vi c])) (hg : (wr.alloc o).grownBy w1 v.ownBlock) :
    Lst3 T w1 B v' (xs ++ [(a, b, c)]) ∧ Below B w w1 := by
  subst hn
  exact Lst3.app hb hB hx h' hg
theorem ownsRow_keep {w w' : World} {B m n : Nat} {T : TypeId} {v : Value} {cs : List Value} (h : w.ownsRow B T m v n cs) (hk : ∀ g, v.ownBlock = some g → w'.heap[g]? = w.heap[g]?) : w'.ownsRow B T m v n cs := by
  refine ⟨h.1, ?_⟩
  rcases h.2 with h0 | ⟨g, cap, cur, rfl, hB, hg, r⟩
  · exact .inl h0
  · exact .inr ⟨g, cap, cur, rfl, hB, (hk g rfl).trans hg, r⟩
def lenV : Value → Nat
  | .slice _ n _ => n
  | _ => 0
set_option maxRecDepth 100000 in
set_option maxHeartbeats 8000000 in
theorem draw9_any (A : Option Addr) (n c b : Nat) (w : World) (hS : Src A n c b w) :
    Calls Tryd.prog 112 #[.pointer (some ⟨b, 0, none⟩)] w (GotL A n c b w) := by
  obtain ⟨i0, hi, hz0, hz1, hz2⟩ := info_parts info_tick
  have hlt := hS.lt
  have O1 : LstT (w.alloc (.cells #[] 60)) w.heap.size (.slice (some ⟨w.heap.size, 0, none⟩) 0 0) [] := LstG.new _ _ _ (Nat.le_refl _)
  go_enter Tryd.func112, Tryd.ntmps112
  go_wp2_with fail
  refine (next_any A n c b _ _ (hS.alloc _)).mono ?_
  rintro e w2 ⟨m, rfl, m0, m1, -, hS2, hd2⟩
  have m1 := m1 (by omega)
  obtain ⟨m, rfl⟩ := Int.eq_ofNat_of_zero_le m0
  have O2 := Lib.hid (ownsRow_dr O1 hd2 hlt)
  have hT2 := ((Dr.refl b w).alloc (.cells #[] 60)).trans hd2
  clear O1 hd2 hS
  go_wp2_with fail
  go_loopw [3, 4] (fun v i wr => ∃ (k : Nat) (zs : List P3), i = .int .i64 k ∧ k + zs.length ≤ 12 ∧ Hid (LstT wr w.heap.size v zs) ∧ Src A n c b wr ∧ Dr b w wr) (fun _ i _ => (intOf i).toNat)
  case atStart => exact ⟨m, [], rfl, by simp; omega, O2, hS2, hT2⟩
  case round =>
    obtain ⟨k, zs, rfl, hk, HO, hS, hT⟩ := hrel
    clear O2 hS2 hT2
    have hsz := hT.size
    by_cases hlk : 0 < k
    · go_wp2_with fail
      refine (drawTk9_any A n c b _ hS).mono ?_
      rintro e w9 ⟨x, y, z, rfl, -, hS9, hd9⟩
      have hT9 := hT.trans hd9
      have HO9 := Lib.hid (ownsRow_dr HO.out hd9 hlt)
      have hs9 := hT9.size
      clear hd9 hS hT HO
      go_wp2_with (at_builtin; refine wpList_append_own _ rfl _ _ 47 rfl w.heap.size 60 i0 (.agg #[.int .i64 0, .int .i64 0, .int .i64 0]) 3 24 Tryd.underlying47 hi hz0 hz1 hz2 rfl (by decide) _ _ _ rfl (HO9.out.alloc _) ⟨w9.heap.size, 0, none⟩ 1 1 [.int .i64 x, .int .i64 y, .int .i64 z] rfl rfl (three_cells_new _ _ _ _ _) (by simp [Value.oneCell']) (by unfold maxLen; omega) (by omega) (by simp; omega) ?_; intro v' w4 hown' hgrow _; obtain ⟨hA1, hA2⟩ := Lst3.app (Below.refl _ _) hs9 (HO9.out.alloc _) hown' hgrow; have HA1 : Hid (LstT w4 w.heap.size v' (zs ++ [(x, y, z)])) := Lib.hid hA1; have hS4 := hS9.under hA2 hlt; have hT4 := hT9.after hA2; clear hA1 hA2 hown' hgrow)
      go_wp2_with fail
      go_roundw
      case rel => exact ⟨k - 1, zs ++ [(x, y, z)], by go_num, by rw [List.length_append]; simp; omega, HA1, hS4, hT4⟩
      case measure => simp [intOf]; omega
    · obtain rfl : k = 0 := by omega
      go_wp2_with fail
      refine (next_any A n c b _ _ hS).mono ?_
      rintro e w7 ⟨q, rfl, q0, q1, -, hS7, hd7⟩
      have q1 := q1 (by omega)
      have hT7 := hT.trans hd7
      have HO7 := Lib.hid (ownsRow_dr HO.out hd7 hlt)
      clear hd7 hS hT HO hsz
      by_cases hq : q = 0
      · subst hq
        clear q0 q1
        obtain ⟨Az, cz, rfl, -⟩ := LstG.slice HO7.out
        have hzl : zs.length ≤ 41 := by omega
        go_wp2_with fail
        go_loopw [3] (fun v wr => ∃ (A1 : Option Addr) (c1 : Nat) (zs : List P3), v = .slice A1 zs.length c1 ∧ zs.length ≤ 41 ∧ Hid (LstT wr w.heap.size v zs) ∧ Src A n c b wr ∧ Dr b w wr) (fun v _ => 41 - lenV v)
        case atStart => exact ⟨Az, cz, zs, rfl, hzl, HO7, hS7, hT7⟩
        case round =>
          obtain ⟨A1, c1, ys, rfl, hyl, HO, hS, hT⟩ := hrel
          clear HO7 hS7 hT7
          go_wp2_with fail
          refine (next_any A n c b _ _ hS).mono ?_
          rintro e w8 ⟨x, rfl, x0, x1, -, hS8, hd8⟩
          have x1 := x1 (by omega)
          have hT8 := hT.trans hd8
          have HO8 := Lib.hid (ownsRow_dr HO.out hd8 hlt)
          have hs8 := hT8.size
          clear hd8 hS hT HO
          obtain ⟨l, hl⟩ : ∃ l, ys.length = l := ⟨_, rfl⟩
          rw [hl] at hyl HO8 ⊢
          have HL := Lib.hid hl
          clear hl
          by_cases hc : (l : Int) < 40 + x
          · have hl40 : l < 41 := by omega
            have hl2 : (l : Int) < 41 := by omega
            have hll : 0 ≤ (l : Int) := by omega
            have hw100 : IntKind.i64.wrap (100 * (l : Int)) = 100 * (l : Int) := IntWalk.i64_in _ (by omega)
            have HO8' := HO8
            clear HO8
            go_wp2_with (at_builtin; refine wpList_append_own _ rfl _ _ 47 rfl w.heap.size 60 i0 (.agg #[.int .i64 0, .int .i64 0, .int .i64 0]) 3 24 Tryd.underlying47 hi hz0 hz1 hz2 rfl (by decide) _ _ _ rfl (HO8'.out.alloc _) ⟨w8.heap.size, 0, none⟩ 1 1 [.int .i64 1000, .int .i64 (100 * (l : Int)), .int .i64 4] rfl rfl (three_cells_new _ _ _ _ _) (by simp [Value.oneCell']) (by unfold maxLen; omega) (by omega) (by simp; omega) ?_; intro v' w4 hown' hgrow _; obtain ⟨hA1, hA2⟩ := Lst3.appn (xs := ys) HL.out (Below.refl _ _) hs8 (HO8'.out.alloc _) hown' hgrow; obtain ⟨g4, c4, rfl, -⟩ := LstG.slice (show LstT w4 w.heap.size v' (ys ++ [(1000, 100 * (l : Int), 4)]) from hA1); have HA1 := Lib.hid hA1; have hS4 := hS8.under hA2 hlt; have hT4 := hT8.after hA2; clear hA1 hA2 hown' hgrow)
            go_wp2_with fail
            go_roundw
            case rel =>
              have e1 : (ys ++ [((1000, 100 * (l : Int), 4) : P3)]).length = ys.length + 1 := by simp
              exact ⟨g4, c4, ys ++ [(1000, 100 * (l : Int), 4)], by rw [e1], by rw [e1, HL.out]; omega, by rw [← e1]; exact HA1, hS4, hT4⟩
            case measure => simp [lenV, HL.out]; omega
          · go_wp2_with fail
            go_ret
            have hl := HL.out
            subst hl
            exact ⟨_, ys, rfl, hyl, HO8.out, hS8, hT8⟩
      · have hq0 : (q == 0) = false := by simpa using hq
        go_wp2_with fail
        go_ret
        exact ⟨_, zs, rfl, by omega, HO7.out, hS7, hT7⟩

theorem Lst.slice2 {w : World} {B : Nat} {v : Value} {xs : List Int} (h : Lst w B v xs) : ∃ A c, v = .slice A xs.length c ∧ xs.length ≤ c ∧ Reads w w.heap.size A (xs.map vi) := by
  obtain ⟨A, c, e, hr⟩ := Lst.slice h
  rcases Lst.row h with ⟨e2, e3⟩ | ⟨g, cap, rest, e2, -, -, h4, -⟩
  · exact ⟨A, c, e, by rw [e3]; exact Nat.zero_le _, hr⟩
  · rw [e] at e2
    injection e2 with _ _ e5
    exact ⟨A, c, e, by omega, hr⟩
def OneL9 (w : World) (e : Ending) (w' : World) : Prop := ∃ v zs, e = .returned v ∧ zs.length ≤ 41 ∧ LstT w' w.heap.size v zs ∧ Below w.heap.size w w'
theorem drawBC_any (A : Option Addr) (n c : Nat) (w : World) (hn : n ≤ 4611686018427387904) (hB : Bytes w w.heap.size A n) :
    Calls Tryd.prog 43 #[.slice A n c] w (OneL9 w) := by
  go_enter Tryd.func43, Tryd.ntmps43
  go_wp2_with fail
  refine (from_any A n c w hn hB).mono ?_
  rintro e w1 ⟨b, rfl, hb, hS1, hl1⟩
  go_wp2_with fail
  refine (draw9_any A n c b _ hS1).mono ?_
  rintro e w2 ⟨v, zs, rfl, l1, hO, hS2, hT2⟩
  go_wp2_with fail
  go_ret
  exact ⟨v, zs, rfl, l1, LstG.mono hO hl1.size, hl1.trans (hT2.below hb hl1.size)⟩
/-- Drawn ticks with a list of numbers. -/
def OneLI (w : World) (e : Ending) (w' : World) : Prop := ∃ v u zs cs, e = .returned (.tuple #[v, u]) ∧ zs.length ≤ 41 ∧ cs.length ≤ 42 ∧ LstT w' w.heap.size v zs ∧ Lst w' w.heap.size u cs ∧ Below w.heap.size w w'
theorem gcL_len (zs : List P3) : (gcL zs).length ≤ 40 := by
  unfold gcL
  split
  · rename_i h
    obtain ⟨h40, -⟩ := lbE_zero h
    rw [List.length_map]
    unfold lsS
    have := List.length_filter_le (kpS zs zs.length (coN zs) (byH zs zs.length)) (List.range zs.length)
    rw [List.length_range] at this
    omega
  · simp
set_option maxRecDepth 100000 in
set_option maxHeartbeats 4000000 in
theorem drawIC_any (A : Option Addr) (n c : Nat) (w : World) (hn : n ≤ 4611686018427387904) (hB : Bytes w w.heap.size A n) :
    Calls Tryd.prog 125 #[.slice A n c] w (OneLI w) := by
  obtain ⟨i0, hi, hz0, hz1, hz2⟩ := info_parts info_i7
  go_enter Tryd.func125, Tryd.ntmps125
  go_wp2_with fail
  refine (from_any A n c w hn hB).mono ?_
  rintro e w1 ⟨b, rfl, hb, hS1, hl1⟩
  have lb := hS1.lt
  go_wp2_with fail
  refine (draw9_any A n c b _ hS1).mono ?_
  rintro e w2 ⟨v, zs, rfl, l1, hO, hS2, hT2⟩
  have hO2 := Lib.hid hO
  have hOB := fun g e => (World.ownsRow.lt hO g e).2
  have lb2 := hS2.lt
  obtain ⟨Az, cz, rfl, hR⟩ := LstG.slice hO
  obtain ⟨q, hq⟩ : ∃ q, zs.length = q := ⟨_, rfl⟩
  rw [hq] at l1 hO2 hOB ⊢
  have HQ := Lib.hid hq
  have hs2 := hT2.size
  have hR2 : Reads w2 w2.heap.size Az (cells3 zs) := hR
  clear hO hq hR
  go_wp2_with fail
  refine (gc_spec Az q cz zs w2 HQ.out (by omega) hR2).mono ?_
  have hgl := gcL_len zs
  generalize gcL zs = G at *
  rintro e w3 ⟨⟨u, rfl, hu⟩, hb3⟩
  have hb3s := hb3.size
  have hS3 := hS2.under hb3 hS2.lt
  have hT3 := hT2.after (hb3.mono hs2)
  have hO3 := Lib.hid (LstG.below hO2.out hb3)
  have hU3 := Lib.hid hu
  clear hR2 hb3 hu hO2 hS2 hT2
  by_cases he : lbE zs = 0
  · rw [he]
    go_wp2_with fail
    refine (next_any A n c b _ _ hS3).mono ?_
    rintro e w4 ⟨x, rfl, x0, x1, -, hS4, hd4⟩
    have hd4s := hd4.size
    have hT4 := hT3.trans hd4
    have hO4 := Lib.hid (ownsRow_dr hO3.out hd4 lb)
    have hU4 := Lib.hid (ownsRow_dr hU3.out hd4 lb2)
    clear hd4 hS3 hT3 hO3 hU3 x1
    by_cases hx : x = 0
    · subst hx
      go_wp2_with fail
      refine (next_any A n c b _ _ hS4).mono ?_
      rintro e w5 ⟨y, rfl, -, -, -, hS5, hd5⟩
      have hd45 : w3.heap.size ≤ w5.heap.size := Nat.le_trans hd4s hd5.size
      have hT5 := hT4.trans hd5
      have hO5 := Lib.hid (ownsRow_dr hO4.out hd5 lb)
      have hU5 := Lib.hid (ownsRow_dr hU4.out hd5 lb2)
      have hs5 : w2.heap.size ≤ w5.heap.size := by have := hb3s; have := hd45; omega
      clear hd5 hS4 hT4 hO4 hU4
      go_wp2_with (at_builtin; refine wpList_append_own _ rfl _ _ 52 rfl w2.heap.size 2 i0 (.int .i64 0) 1 8 Tryd.underlying52 hi hz0 hz1 hz2 rfl (by decide) _ _ _ rfl (hU5.out.alloc _) ⟨w5.heap.size, 0, none⟩ 1 1 [.int .i64 y] rfl rfl (one_cell_new _ _ _) (by simp [Value.oneCell']) (by unfold maxLen; omega) (by omega) (by simp; omega) ?_; intro v' w6 hown' hgrow hnil; obtain ⟨hA1, hA2⟩ := Lst.app (x := y) (Below.refl _ _) hs5 (hU5.out.alloc _) (by simpa using hown') hgrow; have HA1 := Lib.hid (Lst.mono hA1 (Nat.le_trans hl1.size hs2)); have hT6 := hT5.after (hA2.mono hs2); have HO6 := Lib.hid (World.ownsRow.mono (ownsRow_keep hO5.out (fun g e => hA2.block g (hOB g e))) hl1.size); clear hA1 hA2 hown' hgrow)
      ((try simp only [Exit.inBlock, Exit.then]); refine bodyPost_ret (v := .tuple #[.slice Az q cz, v']) (by simp [results, Tryd.results125, go_sem]) rfl ?_)
      have hq := HQ.out
      subst hq
      exact ⟨_, _, zs, G ++ [y], rfl, l1, by rw [List.length_append]; simp; omega, HO6.out, HA1.out, hl1.trans (hT6.below hb hl1.size)⟩
    · have hx0 : (x == 0) = false := by simpa using hx
      go_wp2_with fail
      ((try simp only [Exit.inBlock, Exit.then]); refine bodyPost_ret (v := .tuple #[.slice Az q cz, u]) (by simp [results, Tryd.results125, go_sem]) rfl ?_)
      have hq := HQ.out
      subst hq
      exact ⟨_, u, zs, G, rfl, l1, by omega, LstG.mono hO4.out hl1.size, Lst.mono hU4.out (Nat.le_trans hl1.size hs2), hl1.trans (hT4.below hb hl1.size)⟩
  · have he0 : (lbE zs == 0) = false := by simpa using he
    generalize lbE zs = ce at *
    go_wp2_with fail
    ((try simp only [Exit.inBlock, Exit.then]); refine bodyPost_ret (v := .tuple #[.slice Az q cz, u]) (by simp [results, Tryd.results125, go_sem]) rfl ?_)
    have hq := HQ.out
    subst hq
    exact ⟨_, u, zs, G, rfl, l1, by omega, LstG.mono hO3.out hl1.size, Lst.mono hU3.out (Nat.le_trans hl1.size hs2), hl1.trans (hT3.below hb hl1.size)⟩
theorem drawWO_any (A : Option Addr) (n c : Nat) (w : World) (hn : n ≤ 4611686018427387904) (hB : Bytes w w.heap.size A n) :
    Calls Tryd.prog 50 #[.slice A n c] w (OneLI w) := by
  go_enter Tryd.func50, Tryd.ntmps50
  go_wp2_with fail
  refine (drawIC_any A n c w hn hB).mono ?_
  rintro e w2 ⟨v, u, zs, cs, rfl, l1, l2, hO, hU, hX⟩
  go_wp2_with fail
  ((try simp only [Exit.inBlock, Exit.then]); refine bodyPost_ret (v := .tuple #[v, u]) (by simp [results, Tryd.results50, go_sem]) rfl ?_)
  exact ⟨v, u, zs, cs, rfl, l1, l2, hO, hU, hX⟩
end Go.Proofs.YtggflladheemoaaDoor
