/- Plain mathematics, merged. -/
import Derived.Test.YtggflladheemoaaDoorDB
import Derived.Test.YtggflladheemoaaDoor9C
import Derived.Test.YtggflladheemoaaDoorC08f
import Derived.Test.YtggflladheemoaaDoor9D
/- Draws of chapter 9: ticks with labels, lists of them, choices. -/
namespace Go.Proofs.YtggflladheemoaaDoor
open Go.RowKit Go.Shelf Go.ChangeShapes Go.WideShapes Go.ChangeAt
set_option linter.unusedVariables false
set_option linter.unusedSimpArgs false

theorem Blk.three {w : World} {g : Nat} {t : TypeId} {x y z : Value} (h : Blk w g t #[x, y, z]) : w.cell? ⟨g, 0, none⟩ = some x ∧ w.cell? ⟨g, 1, none⟩ = some y ∧ w.cell? ⟨g, 2, none⟩ = some z ∧ (∀ i, w.frozen? ⟨g, i, none⟩ = false) := by
  have c0 := cell_of_row w g 0 _ _ _ h
  have c1 := cell_of_row w g 1 _ _ _ h
  have c2 := cell_of_row w g 2 _ _ _ h
  simp at c0 c1 c2
  exact ⟨c0, c1, c2, fun i => free_row h i⟩
/-- A tick as draws make them. -/
def TkN (a p h : Int) : Prop := (0 ≤ a ∧ a ≤ 10000) ∧ (-1 ≤ p ∧ p ≤ 100001) ∧ (-1 ≤ h ∧ h ≤ 5)
def GotK (A : Option Addr) (n c b : Nat) (w : World) (e : Ending) (w' : World) : Prop :=
  ∃ a p h : Int, e = .returned (.agg #[.int .i64 a, .int .i64 p, .int .i64 h]) ∧ TkN a p h ∧ Src A n c b w' ∧ Dr b w w'
def MkN (x : Int) : Prop := 0 ≤ x ∧ x ≤ 10000
def PlN (x : Int) : Prop := -1 ≤ x ∧ x ≤ 100001

set_option maxRecDepth 100000 in
set_option maxHeartbeats 8000000 in
theorem drawTk9_any (A : Option Addr) (n c b : Nat) (w : World) (hS : Src A n c b w) :
    Calls Tryd.prog 133 #[.pointer (some ⟨b, 0, none⟩)] w (GotK A n c b w) := by
  have hlt := hS.lt
  go_enter Tryd.func133, Tryd.ntmps133
  go_wp2_with fail
  have R0 := Blk.new w 60 #[.int .i64 0, .int .i64 0, .int .i64 0]
  refine (next_any A n c b _ _ (hS.alloc _)).mono ?_
  rintro e w1 ⟨x1, rfl, a1, b1, -, hS1, hd1⟩
  have b1 := b1 (by omega)
  go_wp2_with fail
  refine (next_any A n c b _ _ hS1).mono ?_
  rintro e w2 ⟨x2, rfl, a2, b2, -, hS2, hd2⟩
  have b2 := b2 (by omega)
  go_wp2_with fail
  refine (next_any A n c b _ _ hS2).mono ?_
  rintro e w3 ⟨x3, rfl, a3, b3, -, hS3, hd3⟩
  have b3 := b3 (by omega)
  go_wp2_with fail
  refine (next_any A n c b _ _ hS3).mono ?_
  rintro e w4 ⟨x4, rfl, a4, b4, -, hS4, hd4⟩
  have b4 := b4 (by omega)
  go_wp2_with fail
  refine (pick_any MkN A n c b _ 4 4 _ (hS4.alloc _) (by have := hS4.lt; omega) (by omega) (by omega) (allP_alloc MkN w4 _ _ _ [1000 * (1 + x1), 1000 + 100 * x2, 1000 + 50 * x3, 1000 + 10 * x4] rfl rfl (by simp [MkN]; omega))).mono ?_
  rintro e w5 ⟨m, rfl, ⟨m0, m1⟩, hS5, hd5⟩
  have T := ((((hd1.trans (hd2.trans (hd3.trans hd4))).alloc (.cells #[.int .i64 (1000 * (1 + x1)), .int .i64 (1000 + 100 * x2), .int .i64 (1000 + 50 * x3), .int .i64 (1000 + 10 * x4)] 2)).trans hd5))
  have R5 := R0.dr T (by omega)
  have hT5 := ((Dr.refl b w).alloc (.cells #[.int .i64 0, .int .i64 0, .int .i64 0] 60)).trans T
  clear T hd1 hd2 hd3 hd4 hd5 hS1 hS2 hS3 hS4 a1 b1 a2 b2 a3 b3 a4 b4 R0
  go_wp2_with fail
  refine (next_any A n c b _ _ hS5).mono ?_
  rintro e w6 ⟨p, rfl, p0, p1, -, hS6, hd6⟩
  have p1 := p1 (by omega)
  have R6 := R5.dr hd6 (by omega)
  have hT6 := hT5.trans hd6
  have hHB := hgt_bd m
  have HH := Lib.hid (fun W => hgt_spec m W m0 (by omega))
  clear hd6 hS5 R5 hT5
  generalize hgt m = h at *
  go_wp2_with fail
  refine (HH.out _).mono ?_
  rintro e w7 ⟨rfl, hg⟩
  have R7 := R6.gr hg
  have hS7 := (hS6.under hg.below hS6.lt).alloc (.cells #[.int .i64 m, .int .i64 p, .int .i64 h] 60)
  have hT7 := (hT6.trans ⟨hg.below.os, hg.below.tape, hg.below.output, hg.below.size, fun k hk _ => hg.below.block k hk⟩).alloc (.cells #[.int .i64 m, .int .i64 p, .int .i64 h] 60)
  have E7 := Blk.new w7 60 #[.int .i64 m, .int .i64 p, .int .i64 h]
  have r7 := R7.lt
  have b7 : b < w7.heap.size := by have := hT6.size; have := hg.below.size; omega
  have R7' := R7.alloc (.cells #[.int .i64 m, .int .i64 p, .int .i64 h] 60)
  clear R6 hS6 hT6 hg HH R7
  go_wp2_with fail
  refine (next_any A n c b _ _ hS7).mono ?_
  rintro e w8 ⟨q, rfl, q0, q1, -, hS8, hd8⟩
  have q1 := q1 (by omega)
  have R8 := R7'.dr hd8 (by omega)
  have E8 := E7.dr hd8 (by omega)
  have hT8 := hT7.trans hd8
  have ne1 : w.heap.size ≠ w7.heap.size := by omega
  have ne2 : w7.heap.size ≠ w.heap.size := by omega
  have l8 := hS8.lt
  have e8 := E8.lt
  clear R7' E7 hd8 hT7 hS7
  have hq : q = 0 ∨ q = 1 ∨ q = 2 ∨ (((q : Int) == 0) = false ∧ ((q : Int) == 1) = false ∧ ((q : Int) == 2) = false) := by
    by_cases h0 : q = 0
    · exact .inl h0
    · by_cases h1 : q = 1
      · exact .inr (.inl h1)
      · by_cases h2 : q = 2
        · exact .inr (.inr (.inl h2))
        · exact .inr (.inr (.inr ⟨by simp [h0], by simp [h1], by simp [h2]⟩))
  rcases hq with rfl | rfl | rfl | ⟨hb0, hb1, hb2⟩
  · clear q0 q1
    go_wp2_with fail
    refine (pick_any MkN A n c b _ 4 4 _ (hS8.alloc _) (by omega) (by omega) (by omega) (allP_alloc MkN w8 _ _ _ [999, 9999, 10000, 0] rfl rfl (by simp [MkN]))).mono ?_
    rintro e w9 ⟨y, rfl, ⟨y0, y1⟩, hS9, hd9⟩
    have T9 := (Dr.alloc (Dr.refl b w8) (.cells #[.int .i64 999, .int .i64 9999, .int .i64 10000, .int .i64 0] 2)).trans hd9
    have hT9 := hT8.trans T9
    obtain ⟨k0, k1, k2, kf⟩ := (E8.dr T9 (by omega)).three
    obtain ⟨r0, r1, r2, rf⟩ := (R8.dr T9 (by omega)).three
    have lr : w.heap.size < w9.heap.size := by have := T9.size; omega
    have lt9 : w7.heap.size < w9.heap.size := by have := T9.size; omega
    clear R8 E8 hT8 hd9 hS8 T9
    go_wp2_with fail
    ((try simp only [Exit.inBlock, Exit.then]); refine bodyPost_ret (v := .agg #[.int .i64 y, .int .i64 p, .int .i64 h]) (by simp [results, Tryd.results133, go_sem, r0, r1, r2, World.cell?_setCell_same']) rfl ?_)
    exact ⟨y, p, h, rfl, by unfold TkN; omega, (((hS9.far (by exact b7) _).far (by exact hlt) _).far (by exact hlt) _).far (by exact hlt) _, (((hT9.setCell (.inr (Nat.le_of_lt r7)) _).setCell (.inr (Nat.le_refl _)) _).setCell (.inr (Nat.le_refl _)) _).setCell (.inr (Nat.le_refl _)) _⟩
  · clear q0 q1
    go_wp2_with fail
    refine (pick_any PlN A n c b _ 3 3 _ (hS8.alloc _) (by omega) (by omega) (by omega) (allP_alloc PlN w8 _ _ _ [-1, 100000, 100001] rfl rfl (by simp [PlN]))).mono ?_
    rintro e w9 ⟨y, rfl, ⟨y0, y1⟩, hS9, hd9⟩
    have T9 := (Dr.alloc (Dr.refl b w8) (.cells #[.int .i64 (-1), .int .i64 100000, .int .i64 100001] 2)).trans hd9
    have hT9 := hT8.trans T9
    obtain ⟨k0, k1, k2, kf⟩ := (E8.dr T9 (by omega)).three
    obtain ⟨r0, r1, r2, rf⟩ := (R8.dr T9 (by omega)).three
    have lr : w.heap.size < w9.heap.size := by have := T9.size; omega
    have lt9 : w7.heap.size < w9.heap.size := by have := T9.size; omega
    clear R8 E8 hT8 hd9 hS8 T9
    go_wp2_with fail
    ((try simp only [Exit.inBlock, Exit.then]); refine bodyPost_ret (v := .agg #[.int .i64 m, .int .i64 y, .int .i64 h]) (by simp [results, Tryd.results133, go_sem, r0, r1, r2, World.cell?_setCell_same']) rfl ?_)
    exact ⟨m, y, h, rfl, by unfold TkN; omega, (((hS9.far (by exact b7) _).far (by exact hlt) _).far (by exact hlt) _).far (by exact hlt) _, (((hT9.setCell (.inr (Nat.le_of_lt r7)) _).setCell (.inr (Nat.le_refl _)) _).setCell (.inr (Nat.le_refl _)) _).setCell (.inr (Nat.le_refl _)) _⟩
  · clear q0 q1
    go_wp2_with fail
    refine (next_any A n c b _ _ hS8).mono ?_
    rintro e w9 ⟨y, rfl, y0, y1, -, hS9, hd9⟩
    have y1 := y1 (by omega)
    have hT9 := hT8.trans hd9
    obtain ⟨k0, k1, k2, kf⟩ := (E8.dr hd9 (by omega)).three
    obtain ⟨r0, r1, r2, rf⟩ := (R8.dr hd9 (by omega)).three
    have lr : w.heap.size < w9.heap.size := by have := hd9.size; omega
    have lt9 : w7.heap.size < w9.heap.size := by have := hd9.size; omega
    clear R8 E8 hT8 hd9 hS8
    go_wp2_with fail
    ((try simp only [Exit.inBlock, Exit.then]); refine bodyPost_ret (v := .agg #[.int .i64 m, .int .i64 p, .int .i64 (y - 1)]) (by simp [results, Tryd.results133, go_sem, r0, r1, r2, World.cell?_setCell_same']) rfl ?_)
    exact ⟨m, p, y - 1, rfl, by unfold TkN; omega, (((hS9.far (by exact b7) _).far (by exact hlt) _).far (by exact hlt) _).far (by exact hlt) _, (((hT9.setCell (.inr (Nat.le_of_lt r7)) _).setCell (.inr (Nat.le_refl _)) _).setCell (.inr (Nat.le_refl _)) _).setCell (.inr (Nat.le_refl _)) _⟩
  · clear q0 q1
    obtain ⟨k0, k1, k2, kf⟩ := E8.three
    obtain ⟨r0, r1, r2, rf⟩ := R8.three
    have lr : w.heap.size < w8.heap.size := by omega
    clear R8 E8
    go_wp2_with fail
    ((try simp only [Exit.inBlock, Exit.then]); refine bodyPost_ret (v := .agg #[.int .i64 m, .int .i64 p, .int .i64 h]) (by simp [results, Tryd.results133, go_sem, r0, r1, r2, World.cell?_setCell_same']) rfl ?_)
    exact ⟨m, p, h, rfl, by unfold TkN; omega, ((hS8.far (by exact hlt) _).far (by exact hlt) _).far (by exact hlt) _, ((hT8.setCell (.inr (Nat.le_refl _)) _).setCell (.inr (Nat.le_refl _)) _).setCell (.inr (Nat.le_refl _)) _⟩

/-- Drawn ticks with labels. -/
def GotL (A : Option Addr) (n c b : Nat) (w : World) (e : Ending) (w' : World) : Prop :=
  ∃ v zs, e = .returned v ∧ zs.length ≤ 41 ∧ LstT w' w.heap.size v zs ∧ Src A n c b w' ∧ Dr b w w'
theorem Lst3.appn {T : TypeId} {w wr w1 : World} {B n : Nat} {v v' : Value} {xs : List P3} {a b c : Int} {o : Obj} (hn : xs.length = n) (hb : Below B w wr) (hB : B ≤ wr.heap.size) (hx : (wr.alloc o).ownsRow B T 3 v n (cells3 xs)) (h' : w1.ownsRow B T 3 v' (n + 1) (cells3 xs ++ [vi a, vi b, vi c])) (hg : (wr.alloc o).grownBy w1 v.ownBlock) :
    Lst3 T w1 B v' (xs ++ [(a, b, c)]) ∧ Below B w w1 := by
  subst hn
  exact Lst3.app hb hB hx h' hg
theorem ownsRow_keep {w w' : World} {B m n : Nat} {T : TypeId} {v : Value} {cs : List Value} (h : w.ownsRow B T m v n cs) (hk : ∀ g, v.ownBlock = some g → w'.heap[g]? = w.heap[g]?) : w'.ownsRow B T m v n cs := by
  refine ⟨h.1, ?_⟩
  rcases h.2 with h0 | ⟨g, cap, cur, rfl, hB, hg, r⟩
  · exact .inl h0
  · exact .inr ⟨g, cap, cur, rfl, hB, (hk g rfl).trans hg, r⟩
def lenV : Value → Nat
  | .slice _ n _ => n
  | _ => 0
set_option maxRecDepth 100000 in
set_option maxHeartbeats 8000000 in
theorem draw9_any (A : Option Addr) (n c b : Nat) (w : World) (hS : Src A n c b w) :
    Calls Tryd.prog 112 #[.pointer (some ⟨b, 0, none⟩)] w (GotL A n c b w) := by
  obtain ⟨i0, hi, hz0, hz1, hz2⟩ := info_parts info_tick
  have hlt := hS.lt
  have O1 : LstT (w.alloc (.cells #[] 60)) w.heap.size (.slice (some ⟨w.heap.size, 0, none⟩) 0 0) [] := LstG.new _ _ _ (Nat.le_refl _)
  go_enter Tryd.func112, Tryd.ntmps112
  go_wp2_with fail
  refine (next_any A n c b _ _ (hS.alloc _)).mono ?_
  rintro e w2 ⟨m, rfl, m0, m1, -, hS2, hd2⟩
  have m1 := m1 (by omega)
  obtain ⟨m, rfl⟩ := Int.eq_ofNat_of_zero_le m0
  have O2 := Lib.hid (ownsRow_dr O1 hd2 hlt)
  have hT2 := ((Dr.refl b w).alloc (.cells #[] 60)).trans hd2
  clear O1 hd2 hS
  go_wp2_with fail
  go_loopw [3, 4] (fun v i wr => ∃ (k : Nat) (zs : List P3), i = .int .i64 k ∧ k + zs.length ≤ 12 ∧ Hid (LstT wr w.heap.size v zs) ∧ Src A n c b wr ∧ Dr b w wr) (fun _ i _ => (intOf i).toNat)
  case atStart => exact ⟨m, [], rfl, by simp; omega, O2, hS2, hT2⟩
  case round =>
    obtain ⟨k, zs, rfl, hk, HO, hS, hT⟩ := hrel
    clear O2 hS2 hT2
    have hsz := hT.size
    by_cases hlk : 0 < k
    · go_wp2_with fail
      refine (drawTk9_any A n c b _ hS).mono ?_
      rintro e w9 ⟨x, y, z, rfl, -, hS9, hd9⟩
      have hT9 := hT.trans hd9
      have HO9 := Lib.hid (ownsRow_dr HO.out hd9 hlt)
      have hs9 := hT9.size
      clear hd9 hS hT HO
      go_wp2_with (at_builtin; refine wpList_append_own _ rfl _ _ 47 rfl w.heap.size 60 i0 (.agg #[.int .i64 0, .int .i64 0, .int .i64 0]) 3 24 Tryd.underlying47 hi hz0 hz1 hz2 rfl (by decide) _ _ _ rfl (HO9.out.alloc _) ⟨w9.heap.size, 0, none⟩ 1 1 [.int .i64 x, .int .i64 y, .int .i64 z] rfl rfl (three_cells_new _ _ _ _ _) (by simp [Value.oneCell']) (by unfold maxLen; omega) (by omega) (by simp; omega) ?_; intro v' w4 hown' hgrow _; obtain ⟨hA1, hA2⟩ := Lst3.app (Below.refl _ _) hs9 (HO9.out.alloc _) hown' hgrow; have HA1 : Hid (LstT w4 w.heap.size v' (zs ++ [(x, y, z)])) := Lib.hid hA1; have hS4 := hS9.under hA2 hlt; have hT4 := hT9.after hA2; clear hA1 hA2 hown' hgrow)
      go_wp2_with fail
      go_roundw
      case rel => exact ⟨k - 1, zs ++ [(x, y, z)], by go_num, by rw [List.length_append]; simp; omega, HA1, hS4, hT4⟩
      case measure => simp [intOf]; omega
    · obtain rfl : k = 0 := by omega
      go_wp2_with fail
      refine (next_any A n c b _ _ hS).mono ?_
      rintro e w7 ⟨q, rfl, q0, q1, -, hS7, hd7⟩
      have q1 := q1 (by omega)
      have hT7 := hT.trans hd7
      have HO7 := Lib.hid (ownsRow_dr HO.out hd7 hlt)
      clear hd7 hS hT HO hsz
      by_cases hq : q = 0
      · subst hq
        clear q0 q1
        obtain ⟨Az, cz, rfl, -⟩ := LstG.slice HO7.out
        have hzl : zs.length ≤ 41 := by omega
        go_wp2_with fail
        go_loopw [3] (fun v wr => ∃ (A1 : Option Addr) (c1 : Nat) (zs : List P3), v = .slice A1 zs.length c1 ∧ zs.length ≤ 41 ∧ Hid (LstT wr w.heap.size v zs) ∧ Src A n c b wr ∧ Dr b w wr) (fun v _ => 41 - lenV v)
        case atStart => exact ⟨Az, cz, zs, rfl, hzl, HO7, hS7, hT7⟩
        case round =>
          obtain ⟨A1, c1, ys, rfl, hyl, HO, hS, hT⟩ := hrel
          clear HO7 hS7 hT7
          go_wp2_with fail
          refine (next_any A n c b _ _ hS).mono ?_
          rintro e w8 ⟨x, rfl, x0, x1, -, hS8, hd8⟩
          have x1 := x1 (by omega)
          have hT8 := hT.trans hd8
          have HO8 := Lib.hid (ownsRow_dr HO.out hd8 hlt)
          have hs8 := hT8.size
          clear hd8 hS hT HO
          obtain ⟨l, hl⟩ : ∃ l, ys.length = l := ⟨_, rfl⟩
          rw [hl] at hyl HO8 ⊢
          have HL := Lib.hid hl
          clear hl
          by_cases hc : (l : Int) < 40 + x
          · have hl40 : l < 41 := by omega
            have hl2 : (l : Int) < 41 := by omega
            have hll : 0 ≤ (l : Int) := by omega
            have hw100 : IntKind.i64.wrap (100 * (l : Int)) = 100 * (l : Int) := IntWalk.i64_in _ (by omega)
            have HO8' := HO8
            clear HO8
            go_wp2_with (at_builtin; refine wpList_append_own _ rfl _ _ 47 rfl w.heap.size 60 i0 (.agg #[.int .i64 0, .int .i64 0, .int .i64 0]) 3 24 Tryd.underlying47 hi hz0 hz1 hz2 rfl (by decide) _ _ _ rfl (HO8'.out.alloc _) ⟨w8.heap.size, 0, none⟩ 1 1 [.int .i64 1000, .int .i64 (100 * (l : Int)), .int .i64 4] rfl rfl (three_cells_new _ _ _ _ _) (by simp [Value.oneCell']) (by unfold maxLen; omega) (by omega) (by simp; omega) ?_; intro v' w4 hown' hgrow _; obtain ⟨hA1, hA2⟩ := Lst3.appn (xs := ys) HL.out (Below.refl _ _) hs8 (HO8'.out.alloc _) hown' hgrow; obtain ⟨g4, c4, rfl, -⟩ := LstG.slice (show LstT w4 w.heap.size v' (ys ++ [(1000, 100 * (l : Int), 4)]) from hA1); have HA1 := Lib.hid hA1; have hS4 := hS8.under hA2 hlt; have hT4 := hT8.after hA2; clear hA1 hA2 hown' hgrow)
            go_wp2_with fail
            go_roundw
            case rel =>
              have e1 : (ys ++ [((1000, 100 * (l : Int), 4) : P3)]).length = ys.length + 1 := by simp
              exact ⟨g4, c4, ys ++ [(1000, 100 * (l : Int), 4)], by rw [e1], by rw [e1, HL.out]; omega, by rw [← e1]; exact HA1, hS4, hT4⟩
            case measure => simp [lenV, HL.out]; omega
          · go_wp2_with fail
            go_ret
            have hl := HL.out
            subst hl
            exact ⟨_, ys, rfl, hyl, HO8.out, hS8, hT8⟩
      · have hq0 : (q == 0) = false := by simpa using hq
        go_wp2_with fail
        go_ret
        exact ⟨_, zs, rfl, by omega, HO7.out, hS7, hT7⟩

theorem Lst.slice2 {w : World} {B : Nat} {v : Value} {xs : List Int} (h : Lst w B v xs) : ∃ A c, v = .slice A xs.length c ∧ xs.length ≤ c ∧ Reads w w.heap.size A (xs.map vi) := by
  obtain ⟨A, c, e, hr⟩ := Lst.slice h
  rcases Lst.row h with ⟨e2, e3⟩ | ⟨g, cap, rest, e2, -, -, h4, -⟩
  · exact ⟨A, c, e, by rw [e3]; exact Nat.zero_le _, hr⟩
  · rw [e] at e2
    injection e2 with _ _ e5
    exact ⟨A, c, e, by omega, hr⟩
def OneL9 (w : World) (e : Ending) (w' : World) : Prop := ∃ v zs, e = .returned v ∧ zs.length ≤ 41 ∧ LstT w' w.heap.size v zs ∧ Below w.heap.size w w'
theorem drawBC_any (A : Option Addr) (n c : Nat) (w : World) (hn : n ≤ 4611686018427387904) (hB : Bytes w w.heap.size A n) :
    Calls Tryd.prog 43 #[.slice A n c] w (OneL9 w) := by
  go_enter Tryd.func43, Tryd.ntmps43
  go_wp2_with fail
  refine (from_any A n c w hn hB).mono ?_
  rintro e w1 ⟨b, rfl, hb, hS1, hl1⟩
  go_wp2_with fail
  refine (draw9_any A n c b _ hS1).mono ?_
  rintro e w2 ⟨v, zs, rfl, l1, hO, hS2, hT2⟩
  go_wp2_with fail
  go_ret
  exact ⟨v, zs, rfl, l1, LstG.mono hO hl1.size, hl1.trans (hT2.below hb hl1.size)⟩
/-- Drawn ticks with a list of numbers. -/
def OneLI (w : World) (e : Ending) (w' : World) : Prop := ∃ v u zs cs, e = .returned (.tuple #[v, u]) ∧ zs.length ≤ 41 ∧ cs.length ≤ 42 ∧ LstT w' w.heap.size v zs ∧ Lst w' w.heap.size u cs ∧ Below w.heap.size w w'
theorem gcL_len (zs : List P3) : (gcL zs).length ≤ 40 := by
  unfold gcL
  split
  · rename_i h
    obtain ⟨h40, -⟩ := lbE_zero h
    rw [List.length_map]
    unfold lsS
    have := List.length_filter_le (kpS zs zs.length (coN zs) (byH zs zs.length)) (List.range zs.length)
    rw [List.length_range] at this
    omega
  · simp
set_option maxRecDepth 100000 in
set_option maxHeartbeats 4000000 in
theorem drawIC_any (A : Option Addr) (n c : Nat) (w : World) (hn : n ≤ 4611686018427387904) (hB : Bytes w w.heap.size A n) :
    Calls Tryd.prog 125 #[.slice A n c] w (OneLI w) := by
  obtain ⟨i0, hi, hz0, hz1, hz2⟩ := info_parts info_i7
  go_enter Tryd.func125, Tryd.ntmps125
  go_wp2_with fail
  refine (from_any A n c w hn hB).mono ?_
  rintro e w1 ⟨b, rfl, hb, hS1, hl1⟩
  have lb := hS1.lt
  go_wp2_with fail
  refine (draw9_any A n c b _ hS1).mono ?_
  rintro e w2 ⟨v, zs, rfl, l1, hO, hS2, hT2⟩
  have hO2 := Lib.hid hO
  have hOB := fun g e => (World.ownsRow.lt hO g e).2
  have lb2 := hS2.lt
  obtain ⟨Az, cz, rfl, hR⟩ := LstG.slice hO
  obtain ⟨q, hq⟩ : ∃ q, zs.length = q := ⟨_, rfl⟩
  rw [hq] at l1 hO2 hOB ⊢
  have HQ := Lib.hid hq
  have hs2 := hT2.size
  have hR2 : Reads w2 w2.heap.size Az (cells3 zs) := hR
  clear hO hq hR
  go_wp2_with fail
  refine (gc_spec Az q cz zs w2 HQ.out (by omega) hR2).mono ?_
  have hgl := gcL_len zs
  generalize gcL zs = G at *
  rintro e w3 ⟨⟨u, rfl, hu⟩, hb3⟩
  have hb3s := hb3.size
  have hS3 := hS2.under hb3 hS2.lt
  have hT3 := hT2.after (hb3.mono hs2)
  have hO3 := Lib.hid (LstG.below hO2.out hb3)
  have hU3 := Lib.hid hu
  clear hR2 hb3 hu hO2 hS2 hT2
  by_cases he : lbE zs = 0
  · rw [he]
    go_wp2_with fail
    refine (next_any A n c b _ _ hS3).mono ?_
    rintro e w4 ⟨x, rfl, x0, x1, -, hS4, hd4⟩
    have hd4s := hd4.size
    have hT4 := hT3.trans hd4
    have hO4 := Lib.hid (ownsRow_dr hO3.out hd4 lb)
    have hU4 := Lib.hid (ownsRow_dr hU3.out hd4 lb2)
    clear hd4 hS3 hT3 hO3 hU3 x1
    by_cases hx : x = 0
    · subst hx
      go_wp2_with fail
      refine (next_any A n c b _ _ hS4).mono ?_
      rintro e w5 ⟨y, rfl, -, -, -, hS5, hd5⟩
      have hd45 : w3.heap.size ≤ w5.heap.size := Nat.le_trans hd4s hd5.size
      have hT5 := hT4.trans hd5
      have hO5 := Lib.hid (ownsRow_dr hO4.out hd5 lb)
      have hU5 := Lib.hid (ownsRow_dr hU4.out hd5 lb2)
      have hs5 : w2.heap.size ≤ w5.heap.size := by have := hb3s; have := hd45; omega
      clear hd5 hS4 hT4 hO4 hU4
      go_wp2_with (at_builtin; refine wpList_append_own _ rfl _ _ 52 rfl w2.heap.size 2 i0 (.int .i64 0) 1 8 Tryd.underlying52 hi hz0 hz1 hz2 rfl (by decide) _ _ _ rfl (hU5.out.alloc _) ⟨w5.heap.size, 0, none⟩ 1 1 [.int .i64 y] rfl rfl (one_cell_new _ _ _) (by simp [Value.oneCell']) (by unfold maxLen; omega) (by omega) (by simp; omega) ?_; intro v' w6 hown' hgrow hnil; obtain ⟨hA1, hA2⟩ := Lst.app (x := y) (Below.refl _ _) hs5 (hU5.out.alloc _) (by simpa using hown') hgrow; have HA1 := Lib.hid (Lst.mono hA1 (Nat.le_trans hl1.size hs2)); have hT6 := hT5.after (hA2.mono hs2); have HO6 := Lib.hid (World.ownsRow.mono (ownsRow_keep hO5.out (fun g e => hA2.block g (hOB g e))) hl1.size); clear hA1 hA2 hown' hgrow)
      ((try simp only [Exit.inBlock, Exit.then]); refine bodyPost_ret (v := .tuple #[.slice Az q cz, v']) (by simp [results, Tryd.results125, go_sem]) rfl ?_)
      have hq := HQ.out
      subst hq
      exact ⟨_, _, zs, G ++ [y], rfl, l1, by rw [List.length_append]; simp; omega, HO6.out, HA1.out, hl1.trans (hT6.below hb hl1.size)⟩
    · have hx0 : (x == 0) = false := by simpa using hx
      go_wp2_with fail
      ((try simp only [Exit.inBlock, Exit.then]); refine bodyPost_ret (v := .tuple #[.slice Az q cz, u]) (by simp [results, Tryd.results125, go_sem]) rfl ?_)
      have hq := HQ.out
      subst hq
      exact ⟨_, u, zs, G, rfl, l1, by omega, LstG.mono hO4.out hl1.size, Lst.mono hU4.out (Nat.le_trans hl1.size hs2), hl1.trans (hT4.below hb hl1.size)⟩
  · have he0 : (lbE zs == 0) = false := by simpa using he
    generalize lbE zs = ce at *
    go_wp2_with fail
    ((try simp only [Exit.inBlock, Exit.then]); refine bodyPost_ret (v := .tuple #[.slice Az q cz, u]) (by simp [results, Tryd.results125, go_sem]) rfl ?_)
    have hq := HQ.out
    subst hq
    exact ⟨_, u, zs, G, rfl, l1, by omega, LstG.mono hO3.out hl1.size, Lst.mono hU3.out (Nat.le_trans hl1.size hs2), hl1.trans (hT3.below hb hl1.size)⟩
theorem drawWO_any (A : Option Addr) (n c : Nat) (w : World) (hn : n ≤ 4611686018427387904) (hB : Bytes w w.heap.size A n) :
    Calls Tryd.prog 50 #[.slice A n c] w (OneLI w) := by
  go_enter Tryd.func50, Tryd.ntmps50
  go_wp2_with fail
  refine (drawIC_any A n c w hn hB).mono ?_
  rintro e w2 ⟨v, u, zs, cs, rfl, l1, l2, hO, hU, hX⟩
  go_wp2_with fail
  ((try simp only [Exit.inBlock, Exit.then]); refine bodyPost_ret (v := .tuple #[v, u]) (by simp [results, Tryd.results50, go_sem]) rfl ?_)
  exact ⟨v, u, zs, cs, rfl, l1, l2, hO, hU, hX⟩
end Go.Proofs.YtggflladheemoaaDoor

/- Draws of chapter 9: one tick with a label; two of them. -/
namespace Go.Proofs.YtggflladheemoaaDoor
open Go.RowKit Go.Shelf Go.ChangeShapes Go.WideShapes Go.ChangeAt
set_option linter.unusedVariables false
set_option linter.unusedSimpArgs false

def OneK (w : World) (e : Ending) (w' : World) : Prop := ∃ a p h : Int, e = .returned (.agg #[.int .i64 a, .int .i64 p, .int .i64 h]) ∧ Below w.heap.size w w'
theorem drawLT_any (A : Option Addr) (n c : Nat) (w : World) (hn : n ≤ 4611686018427387904) (hB : Bytes w w.heap.size A n) :
    Calls Tryd.prog 61 #[.slice A n c] w (OneK w) := by
  go_enter Tryd.func61, Tryd.ntmps61
  go_wp2_with fail
  have R0 := Blk.new w 60 #[.int .i64 0, .int .i64 0, .int .i64 0]
  have hW0 : Below w.heap.size w (w.alloc (.cells #[.int .i64 0, .int .i64 0, .int .i64 0] 60)) := (Below.refl _ w).alloc (Nat.le_refl _) _
  refine (from_any A n c _ hn (hB.later hW0)).mono ?_
  rintro e w1 ⟨b, rfl, hb, hS1, hl1⟩
  rw [World.size_alloc] at hb
  have R1 : Blk w1 w.heap.size 60 #[.int .i64 0, .int .i64 0, .int .i64 0] := (hl1.block _ R0.lt).trans R0
  have hW1 := hW0.trans (hl1.mono (by simp))
  clear R0 hl1 hW0
  go_wp2_with fail
  refine (drawTk9_any A n c b _ hS1).mono ?_
  rintro e w2 ⟨a, p, h, rfl, -, hS2, hd2⟩
  have R2 := R1.dr hd2 (by omega)
  have lr := R2.lt
  obtain ⟨r0, r1, r2, rf⟩ := R2.three
  have hW2 := hW1.trans (hd2.below (by omega) hW1.size)
  clear R1 R2 hd2 hS1 hS2
  go_wp2_with fail
  ((try simp only [Exit.inBlock, Exit.then]); refine bodyPost_ret (v := .agg #[.int .i64 a, .int .i64 p, .int .i64 h]) (by simp [results, Tryd.results61, go_sem, r0, r1, r2, World.cell?_setCell_same']) rfl ?_)
  exact ⟨a, p, h, rfl, ((hW2.setCell (p := ⟨w.heap.size, 0, none⟩) (Nat.le_refl _) _).setCell (p := ⟨w.heap.size, 1, none⟩) (Nat.le_refl _) _).setCell (p := ⟨w.heap.size, 2, none⟩) (Nat.le_refl _) _⟩
def TwoK (w : World) (e : Ending) (w' : World) : Prop := ∃ y z : P3, e = .returned (.tuple #[.agg #[.int .i64 y.1, .int .i64 y.2.1, .int .i64 y.2.2], .agg #[.int .i64 z.1, .int .i64 z.2.1, .int .i64 z.2.2]]) ∧ Below w.heap.size w w'
set_option maxRecDepth 100000 in
set_option maxHeartbeats 8000000 in
theorem drawDC_any (A : Option Addr) (n c : Nat) (w : World) (hn : n ≤ 4611686018427387904) (hB : Bytes w w.heap.size A n) :
    Calls Tryd.prog 58 #[.slice A n c] w (TwoK w) := by
  go_enter Tryd.func58, Tryd.ntmps58
  go_wp2_with fail
  have P0 := (Blk.new w 60 #[.int .i64 0, .int .i64 0, .int .i64 0]).alloc (.cells #[.int .i64 0, .int .i64 0, .int .i64 0] 60)
  have Q0 := Blk.new (w.alloc (.cells #[.int .i64 0, .int .i64 0, .int .i64 0] 60)) 60 #[.int .i64 0, .int .i64 0, .int .i64 0]
  rw [World.size_alloc] at Q0
  have hW0 : Below w.heap.size w ((w.alloc (.cells #[.int .i64 0, .int .i64 0, .int .i64 0] 60)).alloc (.cells #[.int .i64 0, .int .i64 0, .int .i64 0] 60)) := ((Below.refl _ w).alloc (Nat.le_refl _) _).alloc (by simp) _
  refine (from_any A n c _ hn (hB.later hW0)).mono ?_
  rintro e w1 ⟨b, rfl, hb, hS1, hl1⟩
  rw [World.size_alloc, World.size_alloc] at hb
  have P1 : Blk w1 w.heap.size 60 #[.int .i64 0, .int .i64 0, .int .i64 0] := (hl1.block _ P0.lt).trans P0
  have Q1 : Blk w1 (w.heap.size + 1) 60 #[.int .i64 0, .int .i64 0, .int .i64 0] := (hl1.block _ Q0.lt).trans Q0
  have hW1 := hW0.trans (hl1.mono (by simp; omega))
  clear P0 Q0 hl1 hW0
  go_wp2_with fail
  refine (drawTk9_any A n c b _ hS1).mono ?_
  rintro e w2 ⟨a, p, h, rfl, ⟨-, hp, -⟩, hS2, hd2⟩
  have P2 := (P1.dr hd2 (by omega)).alloc (.cells #[.int .i64 a, .int .i64 p, .int .i64 h] 60)
  have Q2 := (Q1.dr hd2 (by omega)).alloc (.cells #[.int .i64 a, .int .i64 p, .int .i64 h] 60)
  have E2 := Blk.new w2 60 #[.int .i64 a, .int .i64 p, .int .i64 h]
  have l2 := hS2.lt
  have hT2 := hd2.alloc (.cells #[.int .i64 a, .int .i64 p, .int .i64 h] 60)
  clear P1 Q1 hd2
  go_wp2_with fail
  refine (drawTk9_any A n c b _ (hS2.alloc _)).mono ?_
  rintro e w3 ⟨d, q, k, rfl, -, hS3, hd3⟩
  have P3 := (P2.dr hd3 (by omega)).alloc (.cells #[.int .i64 d, .int .i64 q, .int .i64 k] 60)
  have Q3 := (Q2.dr hd3 (by omega)).alloc (.cells #[.int .i64 d, .int .i64 q, .int .i64 k] 60)
  have E3 := (E2.dr hd3 (by omega)).alloc (.cells #[.int .i64 d, .int .i64 q, .int .i64 k] 60)
  have G3 := Blk.new w3 60 #[.int .i64 d, .int .i64 q, .int .i64 k]
  have l3 := hS3.lt
  have hT3 := (hT2.trans hd3).alloc (.cells #[.int .i64 d, .int .i64 q, .int .i64 k] 60)
  have e3 : w2.heap.size < w3.heap.size := (E2.dr hd3 (by omega)).lt
  clear P2 Q2 E2 hd3 hT2
  go_wp2_with fail
  refine (next_any A n c b _ _ (hS3.alloc _)).mono ?_
  rintro e w4 ⟨x, rfl, x0, x1, -, hS4, hd4⟩
  have x1 := x1 (by omega)
  have P4 := P3.dr hd4 (by omega)
  have Q4 := Q3.dr hd4 (by omega)
  have E4 := E3.dr hd4 (by omega)
  have G4 := G3.dr hd4 (by omega)
  have hT4 := hT3.trans hd4
  have g4 := G4.lt
  clear P3 Q3 E3 G3 hd4 hT3
  have n1 : w.heap.size ≠ w2.heap.size := by omega
  have n2 : w.heap.size + 1 ≠ w2.heap.size := by omega
  have n3 : w.heap.size ≠ w3.heap.size := by omega
  have n4 : w.heap.size + 1 ≠ w3.heap.size := by omega
  have n5 : w2.heap.size ≠ w3.heap.size := by omega
  by_cases hx : x = 0
  · subst hx
    obtain ⟨k0, k1, k2, kf⟩ := E4.three
    go_wp2_with fail
    go_region_held3 (fun w' => w'.cell? ⟨w2.heap.size, 1, none⟩ = some (.int .i64 p)) (first | exact k1 | exact h1 | (go_simp; done)) (first
      | (go_at_call 81; (refine (next_any A n c b _ _ hS4.drew).mono ?_); rintro e w5 ⟨y, rfl, y0, y1, -, hS5, hd5⟩; obtain ⟨h0, h1, h2, hf⟩ := (Blk.dr (w := w4.drew) E4 hd5 (by omega)).three; have y1 := y1 (by omega); obtain ⟨g0, g1, g2, gf⟩ := (Blk.dr (w := w4.drew) G4 hd5 (by omega)).three; have q1 : IntKind.i64.wrap (y - 6) = y - 6 := IntWalk.i64_in _ (by omega); have q2 : IntKind.i64.wrap (60 * (y - 6)) = 60 * (y - 6) := IntWalk.i64_in _ (by omega); have q3 : IntKind.i64.wrap (p + 60 * (y - 6)) = p + 60 * (y - 6) := IntWalk.i64_in _ (by omega))
      | fail)
    all_goals
      obtain ⟨z, hz⟩ : ∃ z, p + 60 * (y - 6) = z := ⟨_, rfl⟩
      rw [hz]
      have P6 := (Blk.dr (w := w4.drew) P4 hd5 (by omega)).far (a := ⟨w3.heap.size, 1, none⟩) (by exact n3.symm) (.int .i64 z)
      have Q6 := (Blk.dr (w := w4.drew) Q4 hd5 (by omega)).far (a := ⟨w3.heap.size, 1, none⟩) (by exact n4.symm) (.int .i64 z)
      have E6 := (Blk.dr (w := w4.drew) E4 hd5 (by omega)).far (a := ⟨w3.heap.size, 1, none⟩) (by exact n5.symm) (.int .i64 z)
      have G6 : Blk _ _ _ #[.int .i64 d, .int .i64 z, .int .i64 k] := (Blk.dr (w := w4.drew) G4 hd5 (by omega)).set 1 (.int .i64 z)
      have lt3 : w.heap.size ≤ w3.heap.size := by omega
      have hW6 := (hW1.trans ((hT4.drew.trans hd5).below (B := w.heap.size) (by omega) hW1.size)).setCell (p := ⟨w3.heap.size, 1, none⟩) lt3 (.int .i64 z)
      go_wp2
      generalize w5.setCell ⟨w3.heap.size, 1, none⟩ (.int .i64 z) = w6 at *
      clear hz h0 h1 h2 hf k0 k1 k2 kf g0 g1 g2 gf P4 Q4 E4 G4 hT4 hd5 hS5 hS4
      obtain ⟨p0, p1, p2, pf⟩ := P6.three
      obtain ⟨q0, q1, q2, qf⟩ := Q6.three
      obtain ⟨k0, k1, k2, kf⟩ := E6.three
      obtain ⟨g0, g1, g2, gf⟩ := G6.three
      clear P6 Q6 E6 G6
      go_region
      go_wp2
      ((try simp only [Exit.inBlock, Exit.then]); refine bodyPost_ret (v := .tuple #[.agg #[.int .i64 a, .int .i64 p, .int .i64 h], .agg #[.int .i64 d, .int .i64 z, .int .i64 k]]) (by simp [results, Tryd.results58, go_sem, p0, p1, p2, q0, q1, q2, World.cell?_setCell_same']) rfl ?_)
      exact ⟨(a, p, h), (d, z, k), rfl, (((((hW6.setCell (p := ⟨w.heap.size, 0, none⟩) (Nat.le_refl _) _).setCell (p := ⟨w.heap.size, 1, none⟩) (Nat.le_refl _) _).setCell (p := ⟨w.heap.size, 2, none⟩) (Nat.le_refl _) _).setCell (p := ⟨w.heap.size + 1, 0, none⟩) (by simp) _).setCell (p := ⟨w.heap.size + 1, 1, none⟩) (by simp) _).setCell (p := ⟨w.heap.size + 1, 2, none⟩) (by simp) _ |>.drew⟩
  · have hx : ((x : Int) == 0) = false := by simp [hx]
    go_wp2_with fail
    have hW6 := hW1.trans (hT4.below (B := w.heap.size) (by omega) hW1.size)
    have P6 := P4
    have Q6 := Q4
    have E6 := E4
    have G6 := G4
    clear P4 Q4 E4 G4 hT4
    generalize w4 = w6 at *
    obtain ⟨p0, p1, p2, pf⟩ := P6.three
    obtain ⟨q0, q1, q2, qf⟩ := Q6.three
    obtain ⟨k0, k1, k2, kf⟩ := E6.three
    obtain ⟨g0, g1, g2, gf⟩ := G6.three
    clear P6 Q6 E6 G6
    go_region
    go_wp2
    ((try simp only [Exit.inBlock, Exit.then]); refine bodyPost_ret (v := .tuple #[.agg #[.int .i64 a, .int .i64 p, .int .i64 h], .agg #[.int .i64 d, .int .i64 q, .int .i64 k]]) (by simp [results, Tryd.results58, go_sem, p0, p1, p2, q0, q1, q2, World.cell?_setCell_same']) rfl ?_)
    exact ⟨(a, p, h), (d, q, k), rfl, (((((hW6.setCell (p := ⟨w.heap.size, 0, none⟩) (Nat.le_refl _) _).setCell (p := ⟨w.heap.size, 1, none⟩) (Nat.le_refl _) _).setCell (p := ⟨w.heap.size, 2, none⟩) (Nat.le_refl _) _).setCell (p := ⟨w.heap.size + 1, 0, none⟩) (by simp) _).setCell (p := ⟨w.heap.size + 1, 1, none⟩) (by simp) _).setCell (p := ⟨w.heap.size + 1, 2, none⟩) (by simp) _ |>.drew⟩
end Go.Proofs.YtggflladheemoaaDoor

/- Draws of chapter 9: ticks with a list that may be a proof. -/
namespace Go.Proofs.YtggflladheemoaaDoor
open Go.RowKit Go.Shelf Go.ChangeShapes Go.WideShapes Go.ChangeAt
set_option linter.unusedVariables false
set_option linter.unusedSimpArgs false

theorem pf_bd (zs : List P3) : (pfL zs).length ≤ 41 ∧ ∀ x ∈ pfL zs, 0 ≤ x ∧ x ≤ 10000 := by
  by_cases h : lbE zs = 0
  · obtain ⟨h40, ha⟩ := lbE_zero h
    have e : pfL zs = pvL (rtN zs) (lfN zs) (woN zs) zs.length zs.length := by unfold pfL; rw [if_pos h]
    have hl : (pfL zs).length = zs.length + 1 := by rw [e, pvL_len]
    refine ⟨by omega, fun x hx => ?_⟩
    obtain ⟨i, hi, hxi⟩ := List.mem_iff_getElem.1 hx
    have h1 := pvL_at (rtN zs) (lfN zs) (woN zs) zs.length zs.length i (by omega)
    rw [← e, List.getElem?_eq_getElem hi, hxi] at h1
    injection h1 with h1
    have h2 := pvA_bd (rtN zs) (lfN zs) (woN zs) (n := zs.length) (woN_bd ha) (fun i hi => fr_le ha i hi) i (by omega)
    rw [← h1] at h2
    omega
  · unfold pfL
    rw [if_neg h]
    exact ⟨by simp, fun x hx => by cases hx⟩
theorem pf_len {zs : List P3} (h : lbE zs = 0) : (pfL zs).length = zs.length + 1 := by unfold pfL; rw [if_pos h, pvL_len]
theorem row_set_int {xs : List Int} {rest : List Value} {k : Nat} (y : Int) (h : k < xs.length) : (xs.map vi ++ rest).set k (vi y) = (xs.set k y).map vi ++ rest := by
  rw [List.set_append_left _ _ (by rw [List.length_map]; exact h), List.map_set]

set_option maxRecDepth 100000 in
set_option maxHeartbeats 8000000 in
theorem drawIP_any (A : Option Addr) (n c : Nat) (w : World) (hn : n ≤ 4611686018427387904) (hB : Bytes w w.heap.size A n) :
    Calls Tryd.prog 55 #[.slice A n c] w (OneLI w) := by
  go_enter Tryd.func55, Tryd.ntmps55
  go_wp2_with fail
  refine (from_any A n c w hn hB).mono ?_
  rintro e w1 ⟨b, rfl, hb, hS1, hl1⟩
  have lb := hS1.lt
  go_wp2_with fail
  refine (draw9_any A n c b _ hS1).mono ?_
  rintro e w2 ⟨v, zs, rfl, l1, hO, hS2, hT2⟩
  have hO2 := Lib.hid hO
  have hOB := fun g e => (World.ownsRow.lt hO g e).2
  have lb2 := hS2.lt
  obtain ⟨Az, cz, rfl, hR⟩ := LstG.slice hO
  obtain ⟨q, hq⟩ : ∃ q, zs.length = q := ⟨_, rfl⟩
  rw [hq] at l1 hO2 hOB ⊢
  have HQ := Lib.hid hq
  have hs2 := hT2.size
  have hR2 : Reads w2 w2.heap.size Az (cells3 zs) := hR
  clear hO hq hR
  go_wp2_with fail
  refine (pf_spec Az q cz zs w2 HQ.out (by omega) hR2).mono ?_
  have hPB := pf_bd zs
  have hPL := fun h => pf_len (zs := zs) h
  rw [HQ.out] at hPL
  generalize pfL zs = L at *
  rintro e w3 ⟨⟨u, rfl, hu⟩, hb3⟩
  have hS3 := hS2.under hb3 lb2
  have hT3 := hT2.after (hb3.mono hs2)
  have hO3 := Lib.hid (LstG.below hO2.out hb3)
  have hb3s := hb3.size
  clear hR2 hb3 hO2 hS2 hT2
  by_cases he : lbE zs = 0
  rotate_left
  · have he0 : (lbE zs == 0) = false := by simpa using he
    generalize lbE zs = ce at *
    have HL := Lib.hid (Lst.of_row (xs := [0]) (rest := []) (B := w.heap.size) (cap := 1) (by have := hl1.size; omega) (Row.new w3 2 [.int .i64 0]) (by unfold maxLen; omega) rfl)
    have HO4 := Lib.hid (World.ownsRow.mono (hO3.out.alloc (.cells #[.int .i64 0] 2)) hl1.size)
    have hW := hl1.trans ((hT3.alloc (.cells #[.int .i64 0] 2)).below hb hl1.size)
    clear hO3 hS3 hT3
    go_wp2_with fail
    ((try simp only [Exit.inBlock, Exit.then]); refine bodyPost_ret (v := .tuple #[.slice Az q cz, .slice (some ⟨w3.heap.size, 0, none⟩) 1 1]) (by simp [results, Tryd.results55, go_sem]) rfl ?_)
    have hq := HQ.out
    subst hq
    exact ⟨_, _, zs, [0], rfl, l1, by simp, HO4.out, HL.out, hW⟩
  rw [he]
  have hLm := hPL he
  obtain ⟨hP1, hP2⟩ := hPB
  rcases Lst.row hu with ⟨-, h0⟩ | ⟨g, cap, rest, rfl, hg, hr, h1, h2, h3⟩
  · rw [h0] at hLm; simp at hLm
  obtain ⟨m, hm⟩ : ∃ m, L.length = m := ⟨_, rfl⟩
  rw [hm] at hLm hP1 h1 h3 ⊢
  have HM := Lib.hid hm
  have HP2 := Lib.hid hP2
  have HLM := Lib.hid hLm
  have hgb : g ≠ b := by omega
  have hm1 : 1 ≤ m := by omega
  have HRow := Lib.hid (fun W (h : Dr b w3 W) => (show Row w3 g 2 (L.map vi ++ rest) from hr).dr h hgb)
  have HFIN := Lib.hid (fun W (ys : List Int) (hys : ys.length = m) (h : Row W g 2 (ys.map vi ++ rest)) => (show Lst W w.heap.size (.slice (some ⟨g, 0, none⟩) m cap) ys from by
    subst hys
    exact Lst.of_row (by have := hl1.size; omega) h h2 h3))
  have hgw : w.heap.size ≤ g := by have := hl1.size; omega
  have hg1 : w1.heap.size ≤ g := by omega
  have HOS := Lib.hid (fun (W : World) (h : W.ownsRow w1.heap.size 60 3 (.slice Az q cz) zs.length (zs.flatMap cl3)) (j : Nat) (v : Value) => ownsRow_keep (w' := W.setCell ⟨g, j, none⟩ v) h (fun g' e => heap_setCell_other W ⟨g, j, none⟩ g' v (by show g' ≠ g; have := hOB g' e; omega)))
  clear hu hr hm hLm he hPL hP2
  go_wp2_with fail
  refine (next_any A n c b _ _ hS3).mono ?_
  rintro e w4 ⟨k, rfl, k0, k1, k2, hS4, hd4⟩
  obtain ⟨k, rfl⟩ := Int.eq_ofNat_of_zero_le k0
  have hk : k < m := by
    by_cases h : (1 : Int) < m
    · have := k1 h; omega
    · have := k2 (by omega); omega
  clear k0 k1 k2
  go_wp2_with fail
  refine (next_any A n c b _ _ hS4).mono ?_
  rintro e w5 ⟨x, rfl, x0, x1, -, hS5, hd5⟩
  have x1 := x1 (by omega)
  have hT5 := hd4.trans hd5
  have hO5 := Lib.hid (ownsRow_dr hO3.out hT5 lb)
  have hTT := hT3.trans hT5
  clear hd4 hd5 hS3 hS4 hO3
  obtain ⟨z, hz⟩ := some_at (l := L) (k := k) (by rw [HM.out]; exact hk)
  have hzb := HP2.out z (List.mem_of_getElem? hz)
  have hc : (L.map vi ++ rest)[k]? = some (vi z) := by rw [List.getElem?_append_left (by rw [List.length_map, HM.out]; exact hk), List.getElem?_map, hz]; rfl
  have HC := Lib.hid hc
  have hkq : (k : Int) < (m : Int) := by omega
  have hk0 : (0 : Int) ≤ (k : Int) := by omega
  clear hz hc
  have hx : x = 0 ∨ x = 1 ∨ x = 2 ∨ (((x : Int) == 0) = false ∧ ((x : Int) == 1) = false ∧ ((x : Int) == 2) = false) := by
    by_cases h0 : x = 0
    · exact .inl h0
    · by_cases h1 : x = 1
      · exact .inr (.inl h1)
      · by_cases h2 : x = 2
        · exact .inr (.inr (.inl h2))
        · exact .inr (.inr (.inr ⟨by simp [h0], by simp [h1], by simp [h2]⟩))
  have hm41 := hP1
  rcases hx with rfl | rfl | rfl | ⟨hb0, hb1, hb2⟩
  · clear x0 x1
    have cw := ((HRow.out w5 hT5).cell k).trans HC.out
    have ca := ((HRow.out w5.drew hT5.drew).cell k).trans HC.out
    have hlg : g < w5.heap.size := (HRow.out w5 hT5).lt
    go_wp2_with fail
    go_region_with (first | (go_at_call 81; (refine (next_any A n c b _ _ hS5.drew).mono ?_); rintro e w6 ⟨y, rfl, y0, y1, -, hS6, hd6⟩; have y1 := y1 (by omega); have hT6 := hT5.drew.trans hd6; have c6 := ((HRow.out w6 hT6).cell k).trans HC.out; have f6 := (HRow.out w6 hT6).free k; have hlg6 := (HRow.out w6 hT6).lt; have hw1 : IntKind.i64.wrap (z + y) = z + y := IntWalk.i64_in _ (by omega); have hw2 : IntKind.i64.wrap (z + y - 2) = z + y - 2 := IntWalk.i64_in _ (by omega)) | fail)
    all_goals
      have HL6 := Lib.hid (HFIN.out (w6.setCell ⟨g, k, none⟩ (vi (z + y - 2))) (L.set k (z + y - 2)) (by rw [List.length_set, HM.out]) (by rw [← row_set_int _ (by rw [HM.out]; exact hk)]; exact (HRow.out w6 hT6).set k _))
      have HO6 := Lib.hid (World.ownsRow.mono (HOS.out w6 (ownsRow_dr hO5.out (Dr.drew (Dr.refl b w5) |>.trans hd6) lb) k (vi (z + y - 2))) hl1.size)
      have hW := hl1.trans (((hT3.trans hT6).setCell (a := ⟨g, k, none⟩) (.inr hg1) (vi (z + y - 2))).below hb hl1.size)
      clear cw ca c6 hS6 hd6
      go_wp2
      ((try simp only [Exit.inBlock, Exit.then]); refine bodyPost_ret (v := .tuple #[.slice Az q cz, .slice (some ⟨g, 0, none⟩) m cap]) (by simp [results, Tryd.results55, go_sem]) rfl ?_)
      have hq := HQ.out
      subst hq
      exact ⟨_, _, zs, L.set k (z + y - 2), rfl, l1, by rw [List.length_set, HM.out]; omega, HO6.out, HL6.out, hW⟩
  · clear x0 x1
    have HRW := Lib.hid (HRow.out w5 hT5)
    have HTT := Lib.hid hTT
    clear hTT HRow HC
    go_wp2_with fail
    go_loopw [9] (fun i wr => ∃ (j : Nat) (ys : List Int), i = .int .i64 j ∧ j ≤ m ∧ ys.length = m ∧ Hid (Row wr g 2 (ys.map vi ++ rest)) ∧ Hid (wr.ownsRow w1.heap.size 60 3 (.slice Az q cz) zs.length (zs.flatMap cl3)) ∧ Hid (Dr b w1 wr)) (fun i _ => m - (intOf i).toNat)
    case atStart => exact ⟨k, L, rfl, by omega, HM.out, HRW, hO5, HTT⟩
    case round =>
      obtain ⟨j, ys, rfl, hj, hys, HR, HO, HT⟩ := hrel
      clear HRW hO5 HTT
      have HY := Lib.hid hys
      clear hys
      by_cases hjj : j < m ∧ 0 < j
      · obtain ⟨hj1, hj2⟩ := hjj
        obtain ⟨y, hy⟩ := some_at (l := ys) (k := j) (by rw [HY.out]; exact hj1)
        have c0 : wr.cell? ⟨g, j, none⟩ = some (vi y) := (HR.out.cell j).trans (by rw [List.getElem?_append_left (by rw [List.length_map, HY.out]; exact hj1), List.getElem?_map, hy]; rfl)
        have f0 := HR.out.free j
        have lg := HR.out.lt
        obtain ⟨y5, h5⟩ : ∃ t, IntKind.i64.wrap (y + 5) = t := ⟨_, rfl⟩
        have hj3 : (j : Int) < (m : Int) := by omega
        have hj4 : (0 : Int) ≤ (j : Int) := by omega
        have hj5 : (0 : Int) < (j : Int) := by omega
        have HR2 : Hid (Row (wr.setCell ⟨g, j, none⟩ (vi y5)) g 2 ((ys.set j y5).map vi ++ rest)) := Lib.hid (by rw [← row_set_int _ (by rw [HY.out]; exact hj1)]; exact HR.out.set j _)
        have HO2 := Lib.hid (HOS.out wr HO.out j (vi y5))
        have HT2 := Lib.hid (HT.out.setCell (a := ⟨g, j, none⟩) (.inr hg1) (vi y5))
        have hl2 : (ys.set j y5).length = m := by rw [List.length_set, HY.out]
        clear hy
        go_wp2_with fail
        go_roundw
        case rel => exact ⟨j + 1, ys.set j y5, by go_num, by omega, hl2, HR2, HO2, HT2⟩
        case measure => simp [intOf]; omega
      · have HL6 := Lib.hid (HFIN.out wr ys HY.out HR.out)
        have HO6 := Lib.hid (World.ownsRow.mono HO.out hl1.size)
        have hW := hl1.trans (HT.out.below hb hl1.size)
        by_cases hj1 : j < m
        · obtain rfl : j = 0 := by omega
          have hj3 : (0 : Int) < (m : Int) := by omega
          go_wp2_with fail
          ((try simp only [Exit.inBlock, Exit.then]); refine bodyPost_ret (v := .tuple #[.slice Az q cz, .slice (some ⟨g, 0, none⟩) m cap]) (by simp [results, Tryd.results55, go_sem]) rfl ?_)
          have hq := HQ.out
          subst hq
          exact ⟨_, _, zs, ys, rfl, l1, by rw [HY.out]; omega, HO6.out, HL6.out, hW⟩
        · have hj3 : ¬ ((j : Int) < (m : Int)) := by omega
          go_wp2_with fail
          ((try simp only [Exit.inBlock, Exit.then]); refine bodyPost_ret (v := .tuple #[.slice Az q cz, .slice (some ⟨g, 0, none⟩) m cap]) (by simp [results, Tryd.results55, go_sem]) rfl ?_)
          have hq := HQ.out
          subst hq
          exact ⟨_, _, zs, ys, rfl, l1, by rw [HY.out]; omega, HO6.out, HL6.out, hW⟩
  · clear x0 x1
    go_wp2_with fail
    refine (next_any A n c b _ _ hS5).mono ?_
    rintro e w6 ⟨y, rfl, y0, y1, -, hS6, hd6⟩
    have hT6 := hT5.trans hd6
    have HO6 := Lib.hid (World.ownsRow.mono (ownsRow_dr hO5.out hd6 lb) hl1.size)
    have hW := hl1.trans ((hTT.trans hd6).below hb hl1.size)
    have HR6 := Lib.hid (HRow.out w6 hT6)
    clear hd6 hO5 hS5 hS6
    by_cases hy : y = 0
    · subst hy
      have hkc : k ≤ cap := by omega
      have HL6 : Hid (Lst w6 w.heap.size (.slice (some ⟨g, 0, none⟩) k cap) (L.take k)) := Lib.hid (by
        have hr3 := HR6.out
        have e : L.map vi ++ rest = (L.take k).map vi ++ ((L.drop k).map vi ++ rest) := by rw [← List.append_assoc, ← List.map_append, List.take_append_drop]
        rw [e] at hr3
        have hl : (L.take k).length = k := by rw [List.length_take, HM.out, Nat.min_eq_left (by omega)]
        have := Lst.of_row (B := w.heap.size) (cap := cap) (xs := L.take k) hgw hr3 h2 (by rw [hl, List.length_append, List.length_map, List.length_drop, HM.out]; omega)
        unfold Lst at this ⊢
        rwa [hl] at this ⊢)
      go_wp2_with fail
      go_quiet (fail)
      go_wp2
      ((try simp only [Exit.inBlock, Exit.then]); refine bodyPost_ret (v := .tuple #[.slice Az q cz, .slice (some ⟨g, 0, none⟩) k cap]) (by simp [results, Tryd.results55, go_sem]) rfl ?_)
      have hq := HQ.out
      subst hq
      exact ⟨_, _, zs, L.take k, rfl, l1, by rw [List.length_take, HM.out]; omega, HO6.out, HL6.out, ⟨hW.os, hW.tape, hW.output, hW.size, hW.block⟩⟩
    · have hy0 : (y == 0) = false := by simpa using hy
      have HL6 := Lib.hid (HFIN.out w6 L HM.out HR6.out)
      go_wp2_with fail
      ((try simp only [Exit.inBlock, Exit.then]); refine bodyPost_ret (v := .tuple #[.slice Az q cz, .slice (some ⟨g, 0, none⟩) m cap]) (by simp [results, Tryd.results55, go_sem]) rfl ?_)
      have hq := HQ.out
      subst hq
      exact ⟨_, _, zs, L, rfl, l1, by rw [HM.out]; omega, HO6.out, HL6.out, hW⟩
  · clear x0 x1
    have HL6 := Lib.hid (HFIN.out w5 L HM.out (HRow.out w5 hT5))
    have HO6 := Lib.hid (World.ownsRow.mono hO5.out hl1.size)
    have hW := hl1.trans (hTT.below hb hl1.size)
    go_wp2_with fail
    ((try simp only [Exit.inBlock, Exit.then]); refine bodyPost_ret (v := .tuple #[.slice Az q cz, .slice (some ⟨g, 0, none⟩) m cap]) (by simp [results, Tryd.results55, go_sem]) rfl ?_)
    have hq := HQ.out
    subst hq
    exact ⟨_, _, zs, L, rfl, l1, by rw [HM.out]; omega, HO6.out, HL6.out, hW⟩
end Go.Proofs.YtggflladheemoaaDoor
