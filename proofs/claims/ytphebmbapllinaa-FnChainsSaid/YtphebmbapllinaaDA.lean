/- Plain mathematics, merged. -/
import Derived.Test.YtphebmbapllinaaD1
import Derived.RegionTactic
import Derived.StillTailTactics
import Derived.Deep.RegionHeld3
import Derived.BigRegion
import Derived.Test.YtphebmbapllinaaMm
import Derived.Test.YtphebmbapllinaaGr
import Derived.IntWalk
import Derived.Below
import Derived.OwnWalk
/- Draws: the source made of a code, a pick out of some numbers, a drawn value. -/
namespace Go.Proofs.Ytphebmbapllinaa
open Go.RowKit
set_option linter.unusedVariables false
set_option linter.unusedSimpArgs false

/-- A source was made. -/
def Made (A : Option Addr) (n c : Nat) (w : World) (e : Ending) (w' : World) : Prop :=
  ∃ b : Nat, e = .returned (.pointer (some ⟨b, 0, none⟩)) ∧ w.heap.size ≤ b ∧ Src A n c b w' ∧ Below w.heap.size w w'

/-- What holds at the head of its loop. -/
def MkD (A : Option Addr) (n c : Nat) (w wr : World) : Prop :=
  ∃ s : Int, 0 ≤ s ∧ s < 2147483647 ∧ wr.heap[w.heap.size]? = some (.cells #[.slice A n c, .int .i64 0, .int .i64 s] 86 (0, 0)) ∧ Below w.heap.size w wr

theorem made_mk {A : Option Addr} {n c : Nat} {w wr : World} {s : Int} (hb : wr.heap[w.heap.size]? = some (.cells #[.slice A n c, .int .i64 0, .int .i64 s] 86 (0, 0))) (hs0 : 0 ≤ s) (hs : s < 2147483647) (hbel : Below w.heap.size w wr) (hn : n ≤ 4611686018427387904) (hB : Bytes w w.heap.size A n) :
    Made A n c w (.returned (.pointer (some ⟨w.heap.size, 0, none⟩))) wr := by
  obtain ⟨s, rfl⟩ := Int.eq_ofNat_of_zero_le hs0
  exact ⟨w.heap.size, rfl, Nat.le_refl _, ⟨0, s, by omega, hn, by omega, hb, hB.keep hbel.block⟩, hbel⟩

theorem from_any (A : Option Addr) (n c : Nat) (w : World) (hn : n ≤ 4611686018427387904) (hB : Bytes w w.heap.size A n) :
    Calls Try.prog 43 #[.slice A n c] w (Made A n c w) := by
  go_enter Try.func43, Try.ntmps43
  go_wp2
  go_loopw [4] (fun i wr => ∃ k : Nat, k ≤ n ∧ k ≤ 64 ∧ i = .int .i64 k ∧ MkD A n c w wr) (fun i _ => 64 - (intOf i).toNat)
  case atStart => exact ⟨0, by omega, by omega, rfl, 17021, by omega, by omega, heap_alloc_new w _, (Below.refl _ _).alloc (Nat.le_refl _) _⟩
  case round =>
    obtain ⟨k, hk, hk2, rfl, s, hs0, hs, hb, hbel⟩ := hrel
    have hlt := blk_lt hb
    have c2 := cell_of_row wr w.heap.size 2 _ _ _ hb
    simp at c2
    have f2 := free_row hb 2
    by_cases hlt : k < n
    · by_cases hlt2 : k < 64
      · obtain ⟨g, o, x, rfl, hg, hx, hcx⟩ := hB k hlt
        have hcx' : wr.cell? ⟨g, o + k, none⟩ = some (.int .u8 x) := by rw [← hcx]; exact hbel.cell (p := ⟨g, o + k, none⟩) hg
        go_wp2
        go_region
        all_goals
          go_wp2
          go_roundw
          case rel =>
            refine ⟨k + 1, by omega, by omega, by go_num, (s * 73 + x) % 2147483647, by omega, by omega, ?_, ?_⟩
            · first
                | exact heap_setCell_same wr w.heap.size 2 _ _ _ hb
            · first
                | exact hbel.setCell (by simp) _
                | exact (hbel.setCell (by simp) _).drew
          case measure => simp [intOf]; omega
      · go_wp2
        go_ret
        exact made_mk hb hs0 hs hbel hn hB
    · go_wp2
      go_ret
      exact made_mk hb hs0 hs hbel hn hB

theorem Src.alloc {A : Option Addr} {n c b : Nat} {w : World} (h : Src A n c b w) (o : Obj) : Src A n c b (w.alloc o) := by
  obtain ⟨p, s, hp, hn, hs, hb, hB⟩ := h
  have hlt := blk_lt hb
  exact ⟨p, s, hp, hn, hs, by rw [Below.heap_alloc w o b hlt]; exact hb, hB.keep fun k hk => Below.heap_alloc w o k (by omega)⟩
theorem Src.drewN {A : Option Addr} {n c b : Nat} {w : World} (h : Src A n c b w) (k : Nat) : Src A n c b (w.drewN k) := h
theorem Src.drew {A : Option Addr} {n c b : Nat} {w : World} (h : Src A n c b w) : Src A n c b w.drew := h
theorem Src.lt {A : Option Addr} {n c b : Nat} {w : World} (h : Src A n c b w) : b < w.heap.size := by
  obtain ⟨p, s, hp, hn, hs, hb, hB⟩ := h
  exact blk_lt hb

/-- A drawn number of a kind P. -/
def Got (P : Int → Prop) (A : Option Addr) (n c b : Nat) (w : World) (e : Ending) (w' : World) : Prop :=
  ∃ x : Int, e = .returned (.int .i64 x) ∧ P x ∧ Src A n c b w' ∧ Dr b w w'
/-- Numbers of a kind P in a block. -/
def AllP (P : Int → Prop) (w : World) (g k : Nat) : Prop := ∀ j : Nat, j < k → ∃ x : Int, P x ∧ w.cell? ⟨g, j, none⟩ = some (.int .i64 x)

theorem pick_any (P : Int → Prop) (A : Option Addr) (n c b g k cap : Nat) (w : World) (hS : Src A n c b w) (hg : g ≠ b) (hk : 0 < k) (hk2 : k ≤ 1000) (hP : AllP P w g k) :
    Calls Try.prog 98 #[.pointer (some ⟨b, 0, none⟩), .slice (some ⟨g, 0, none⟩) k cap] w (Got P A n c b w) := by
  go_enter Try.func98, Try.ntmps98
  go_wp2_with fail
  refine (next_any A n c b _ _ hS).mono ?_
  rintro e w1 ⟨x, rfl, h0, h1, h2, hS1, hd⟩
  obtain ⟨j, rfl⟩ := Int.eq_ofNat_of_zero_le h0
  have hj : j < k := by
    by_cases hk1 : k = 1
    · have := h2 (by omega); omega
    · have := h1 (by omega); omega
  obtain ⟨y, hy, hc⟩ := hP j hj
  have hc' : w1.cell? ⟨g, j, none⟩ = some (.int .i64 y) := hd.cell (a := ⟨g, j, none⟩) hc hg
  clear h1 h2
  go_wp2_with fail
  go_ret
  exact ⟨y, rfl, hy, hS1, hd⟩

theorem allP_alloc (P : Int → Prop) (w : World) (cs : Array Value) (t : TypeId) (k : Nat) (xs : List Int) (hk : xs.length = k) (h : cs = (xs.map (Value.int .i64)).toArray) (hP : ∀ x ∈ xs, P x) : AllP P (w.alloc (.cells cs t)) w.heap.size k := by
  intro j hj
  have hj' : j < xs.length := by omega
  refine ⟨xs[j], hP _ (List.getElem_mem hj'), ?_⟩
  rw [cell_of_row _ _ j _ _ _ (heap_alloc_new w (.cells cs t))]
  subst h
  simp [hj']
theorem Got.from {P : Int → Prop} {A : Option Addr} {n c b : Nat} {w w1 : World} (hd : Dr b w w1) {e : Ending} {w' : World} (h : Got P A n c b w1 e w') : Got P A n c b w e w' := by
  obtain ⟨x, he, hp, hs, hd'⟩ := h
  exact ⟨x, he, hp, hs, hd.trans hd'⟩

/-- A drawn value: a value, or just beyond. -/
def Near (x : Int) : Prop := -1000000000001 ≤ x ∧ x ≤ 1000000000001

/-- Two drawn values. -/
def Two (P : Int → Prop) (w : World) (e : Ending) (w' : World) : Prop :=
  ∃ x y : Int, e = .returned (.tuple #[.int .i64 x, .int .i64 y]) ∧ P x ∧ P y ∧ Below w.heap.size w w'

end Go.Proofs.Ytphebmbapllinaa

/- Draws of chapter 1: exponents, numbers to count, pairs with a common divisor. -/
namespace Go.Proofs.Ytphebmbapllinaa
open Go.RowKit
set_option linter.unusedVariables false
set_option linter.unusedSimpArgs false

/-- One drawn number of a kind. -/
def One (P : Int → Prop) (w : World) (e : Ending) (w' : World) : Prop := ∃ x : Int, e = .returned (.int .i64 x) ∧ P x ∧ Below w.heap.size w w'

theorem mul_bd (k y : Int) (k1 : 1 ≤ k) (k2 : k ≤ 40) (y1 : -100 ≤ y) (y2 : y ≤ 100) : -4000 ≤ k * y ∧ k * y ≤ 4000 := by
  have h1 : 0 ≤ k * (y + 100) := Int.mul_nonneg (by omega) (by omega)
  have h2 : 0 ≤ k * (100 - y) := Int.mul_nonneg (by omega) (by omega)
  rw [Int.mul_add] at h1
  rw [Int.mul_sub] at h2
  omega

end Go.Proofs.Ytphebmbapllinaa

/- Draws of chapter 2: figures, pairs of figures, terms of fractions. -/
namespace Go.Proofs.Ytphebmbapllinaa
open Go.RowKit
set_option linter.unusedVariables false
set_option linter.unusedSimpArgs false

attribute [local go_sem high] run_imin run_imax

theorem Blk.dr {w w' : World} {b g : Nat} {t : TypeId} {cs : Array Value} (h : Blk w g t cs) (hd : Dr b w w') (hg : g ≠ b) : Blk w' g t cs := (hd.block g h.lt hg).trans h
theorem Src.far {A : Option Addr} {n c b : Nat} {w : World} (h : Src A n c b w) {a : Addr} (ha : b < a.block) (x : Value) : Src A n c b (w.setCell a x) := by
  obtain ⟨p, s, hp, hn, hs, hb, hB⟩ := h
  exact ⟨p, s, hp, hn, hs, (heap_setCell_other w a b x (by omega)).trans hb, hB.keep fun k hk => heap_setCell_other w a k x (by omega)⟩
theorem Dr.src {A : Option Addr} {n c b : Nat} {w w' : World} (h : Src A n c b w) (o : Obj) : Src A n c b (w.alloc o) := h.alloc o


/-- A drawn figure of a kind. -/
def GotF (P : Int → Int → Prop) (A : Option Addr) (n c b : Nat) (w : World) (e : Ending) (w' : World) : Prop :=
  ∃ d t : Int, e = .returned (.agg #[.int .i64 d, .int .i64 t]) ∧ P d t ∧ Src A n c b w' ∧ Dr b w w'
def FigV (d t : Int) : Prop := (1000 ≤ d ∧ d ≤ 9999) ∧ -3 ≤ t ∧ t ≤ 3
def FigN (d t : Int) : Prop := (999 ≤ d ∧ d ≤ 10000) ∧ -31 ≤ t ∧ t ≤ 31

theorem valid_any (A : Option Addr) (n c b : Nat) (w : World) (hS : Src A n c b w) :
    Calls Try.prog 73 #[.pointer (some ⟨b, 0, none⟩)] w (GotF FigV A n c b w) := by
  have hlt := hS.lt
  go_enter Try.func73, Try.ntmps73
  go_wp2_with fail
  have T0 := Blk.new w 38 #[.int .i64 0, .int .i64 0]
  refine (next_any A n c b _ _ (hS.alloc _)).mono ?_
  rintro e w1 ⟨x1, rfl, a1, b1, -, hS1, hd1⟩
  have b1 := b1 (by omega)
  go_wp2_with fail
  refine (next_any A n c b _ _ hS1).mono ?_
  rintro e w2 ⟨x2, rfl, a2, b2, -, hS2, hd2⟩
  have b2 := b2 (by omega)
  go_wp2_with fail
  refine (next_any A n c b _ _ hS2).mono ?_
  rintro e w3 ⟨x3, rfl, a3, b3, -, hS3, hd3⟩
  have b3 := b3 (by omega)
  go_wp2_with fail
  refine (next_any A n c b _ _ hS3).mono ?_
  rintro e w4 ⟨x4, rfl, a4, b4, -, hS4, hd4⟩
  have b4 := b4 (by omega)
  go_wp2_with fail
  refine (pick_any (fun x => 1000 ≤ x ∧ x ≤ 9999) A n c b _ 4 4 _ (hS4.alloc _) (by have := hS4.lt; omega) (by omega) (by omega) (allP_alloc (fun x => 1000 ≤ x ∧ x ≤ 9999) w4 _ _ _ [1000 + x1, 1000 + x2, 100 * (10 + x3), 1000 * (1 + x4)] rfl rfl (by simp; omega))).mono ?_
  rintro e w5 ⟨x5, rfl, ⟨a5, b5⟩, hS5, hd5⟩
  go_wp2_with fail
  refine (next_any A n c b _ _ hS5).mono ?_
  rintro e w6 ⟨x6, rfl, a6, b6, -, hS6, hd6⟩
  have b6 := b6 (by omega)
  have T := ((((hd1.trans (hd2.trans (hd3.trans hd4))).alloc (.cells #[.int .i64 (1000 + x1), .int .i64 (1000 + x2), .int .i64 (100 * (10 + x3)), .int .i64 (1000 * (1 + x4))] 2)).trans hd5).trans hd6)
  have hT := ((Dr.refl b w).alloc (.cells #[.int .i64 0, .int .i64 0] 38)).trans T
  obtain ⟨c0, c1, f0⟩ := (T0.dr T (by omega)).two
  clear T0 T hd1 hd2 hd3 hd4 hd5 hd6 hS1 hS2 hS3 hS4 hS5 a1 b1 a2 b2 a3 b3 a4 b4
  go_wp2_with fail
  ((try simp only [Exit.inBlock, Exit.then]); refine bodyPost_ret (v := .agg #[.int .i64 x5, .int .i64 (x6 - 3)]) (by simp [results, Try.results73, go_sem, c0, c1, World.cell?_setCell_same']) rfl ?_)
  exact ⟨x5, x6 - 3, rfl, ⟨⟨a5, b5⟩, by omega, by omega⟩, (hS6.far (by exact hlt) _).far (by exact hlt) _, (hT.setCell (.inr (Nat.le_refl _)) _).setCell (.inr (Nat.le_refl _)) _⟩

theorem figDraw_any (A : Option Addr) (n c b : Nat) (w : World) (hS : Src A n c b w) :
    Calls Try.prog 72 #[.pointer (some ⟨b, 0, none⟩)] w (GotF FigN A n c b w) := by
  have hlt := hS.lt
  go_enter Try.func72, Try.ntmps72
  go_wp2_with fail
  have R0 := Blk.new w 38 #[.int .i64 0, .int .i64 0]
  refine (valid_any A n c b _ (hS.alloc _)).mono ?_
  rintro e w1 ⟨d, t, rfl, ⟨⟨d1, d2⟩, t1, t2⟩, hS1, hd1⟩
  have R1 := R0.dr hd1 (by omega)
  have F1 := Blk.new w1 38 #[.int .i64 d, .int .i64 t]
  have l1 := hS1.lt
  have r1 := R1.lt
  have hT1 : Dr b w (w1.alloc (.cells #[.int .i64 d, .int .i64 t] 38)) := (((Dr.refl b w).alloc _).trans hd1).alloc _
  have R1' := R1.alloc (.cells #[.int .i64 d, .int .i64 t] 38)
  go_wp2_with fail
  refine (next_any A n c b _ _ (hS1.alloc _)).mono ?_
  rintro e w2 ⟨x, rfl, x0, x1, -, hS2, hd2⟩
  have x1 := x1 (by omega)
  have R2 := R1'.dr hd2 (by omega)
  have F2 := F1.dr hd2 (by omega)
  have hT2 := hT1.trans hd2
  have l2 := hS2.lt
  have s2 : w1.heap.size < w2.heap.size := F2.lt
  clear R0 R1 R1' F1 hd1 hd2 hT1 hS1
  have hx : x = 0 ∨ (x = 1 ∧ ((1 : Int) == 0) = false) ∨ (((x : Int) == 0) = false ∧ ((x : Int) == 1) = false) := by
    by_cases h0 : x = 0
    · exact .inl h0
    · by_cases h1 : x = 1
      · exact .inr (.inl ⟨h1, rfl⟩)
      · exact .inr (.inr ⟨by simp [h0], by simp [h1]⟩)
  rcases hx with rfl | ⟨rfl, hb1⟩ | ⟨hb0, hb1⟩
  · clear x0 x1
    go_wp2_with fail
    refine (pick_any (fun x => 999 ≤ x ∧ x ≤ 10000) A n c b _ 4 4 _ (hS2.alloc _) (by omega) (by omega) (by omega) (allP_alloc (fun x => 999 ≤ x ∧ x ≤ 10000) w2 _ _ _ [999, 1000, 9999, 10000] rfl rfl (by simp))).mono ?_
    rintro e w3 ⟨y, rfl, ⟨y1, y2⟩, hS3, hd3⟩
    have hT3 := (hT2.alloc (.cells #[.int .i64 999, .int .i64 1000, .int .i64 9999, .int .i64 10000] 2)).trans hd3
    obtain ⟨k0, k1, kf⟩ := ((F2.alloc _).dr hd3 (by omega)).two
    obtain ⟨c0, c1, f0⟩ := ((R2.alloc _).dr hd3 (by omega)).two
    have ne1 : w.heap.size ≠ w1.heap.size := by omega
    have ne2 : w1.heap.size ≠ w.heap.size := by omega
    clear R2 F2 hT2 hd3 hS2
    go_wp2_with fail
    ((try simp only [Exit.inBlock, Exit.then]); refine bodyPost_ret (v := .agg #[.int .i64 y, .int .i64 t]) (by simp [results, Try.results72, go_sem, c0, c1, World.cell?_setCell_same']) rfl ?_)
    exact ⟨y, t, rfl, ⟨⟨y1, y2⟩, by omega, by omega⟩, ((hS3.far (by exact l1) _).far (by exact hlt) _).far (by exact hlt) _, ((hT3.setCell (.inr (Nat.le_of_lt r1)) _).setCell (.inr (Nat.le_refl _)) _).setCell (.inr (Nat.le_refl _)) _⟩
  · clear x0 x1
    go_wp2_with fail
    refine (pick_any (fun x => -31 ≤ x ∧ x ≤ 31) A n c b _ 4 4 _ (hS2.alloc _) (by omega) (by omega) (by omega) (allP_alloc (fun x => -31 ≤ x ∧ x ≤ 31) w2 _ _ _ [-30, 30, 31, -31] rfl rfl (by simp))).mono ?_
    rintro e w3 ⟨y, rfl, ⟨y1, y2⟩, hS3, hd3⟩
    have hT3 := (hT2.alloc (.cells #[.int .i64 (-30), .int .i64 30, .int .i64 31, .int .i64 (-31)] 2)).trans hd3
    obtain ⟨k0, k1, kf⟩ := ((F2.alloc _).dr hd3 (by omega)).two
    obtain ⟨c0, c1, f0⟩ := ((R2.alloc _).dr hd3 (by omega)).two
    have ne1 : w.heap.size ≠ w1.heap.size := by omega
    have ne2 : w1.heap.size ≠ w.heap.size := by omega
    clear R2 F2 hT2 hd3 hS2
    go_wp2_with fail
    ((try simp only [Exit.inBlock, Exit.then]); refine bodyPost_ret (v := .agg #[.int .i64 d, .int .i64 y]) (by simp [results, Try.results72, go_sem, c0, c1, World.cell?_setCell_same']) rfl ?_)
    exact ⟨d, y, rfl, ⟨⟨by omega, by omega⟩, y1, y2⟩, ((hS3.far (by exact l1) _).far (by exact hlt) _).far (by exact hlt) _, ((hT3.setCell (.inr (Nat.le_of_lt r1)) _).setCell (.inr (Nat.le_refl _)) _).setCell (.inr (Nat.le_refl _)) _⟩
  · obtain ⟨k0, k1, kf⟩ := F2.two
    obtain ⟨c0, c1, f0⟩ := R2.two
    clear R2 F2
    go_wp2_with fail
    ((try simp only [Exit.inBlock, Exit.then]); refine bodyPost_ret (v := .agg #[.int .i64 d, .int .i64 t]) (by simp [results, Try.results72, go_sem, c0, c1, World.cell?_setCell_same']) rfl ?_)
    exact ⟨d, t, rfl, ⟨⟨by omega, by omega⟩, by omega, by omega⟩, (hS2.far (by exact hlt) _).far (by exact hlt) _, (hT2.setCell (.inr (Nat.le_refl _)) _).setCell (.inr (Nat.le_refl _)) _⟩

/-- Two drawn figures. -/
def TwoF (P : Int → Int → Prop) (w : World) (e : Ending) (w' : World) : Prop :=
  ∃ a s b t : Int, e = .returned (.tuple #[.agg #[.int .i64 a, .int .i64 s], .agg #[.int .i64 b, .int .i64 t]]) ∧ P a s ∧ P b t ∧ Below w.heap.size w w'

theorem clampF (x : Int) : 1000 ≤ imax 1000 (imin 9999 x) ∧ imax 1000 (imin 9999 x) ≤ 9999 := by
  have := imin_bd 9999 x
  have := imax_bd 1000 (imin 9999 x)
  omega

/-- One drawn figure. -/
def OneF (P : Int → Int → Prop) (w : World) (e : Ending) (w' : World) : Prop :=
  ∃ a s : Int, e = .returned (.agg #[.int .i64 a, .int .i64 s]) ∧ P a s ∧ Below w.heap.size w w'

/-- A term of a fraction, or just beyond. -/
def Term (x : Int) : Prop := 0 ≤ x ∧ x ≤ 1000000001
end Go.Proofs.Ytphebmbapllinaa

/- Draws: what lies below or above the source. -/
namespace Go.Proofs.Ytphebmbapllinaa
open Go.RowKit Go.ChangeShapes Go.WideShapes Go.ChangeAt
set_option linter.unusedVariables false
set_option linter.unusedSimpArgs false

theorem Src.under {A : Option Addr} {n c b B : Nat} {w w' : World} (h : Src A n c b w) (hb : Below B w w') (hlt : b < B) : Src A n c b w' := by
  obtain ⟨p, s, hp, hn, hs, hc, hB⟩ := h
  exact ⟨p, s, hp, hn, hs, (hb.block b hlt).trans hc, hB.keep fun k hk => hb.block k (by omega)⟩
theorem Dr.after {b : Nat} {u v v' : World} (h : Dr b u v) (hb : Below u.heap.size v v') : Dr b u v' :=
  ⟨hb.os.trans h.os, hb.tape.trans h.tape, hb.output.trans h.output, Nat.le_trans h.size hb.size, fun k hk hn => (hb.block k hk).trans (h.block k hk hn)⟩
theorem ownsRow_dr {w w' : World} {B b m n : Nat} {t : TypeId} {v : Value} {cs : List Value} (h : w.ownsRow B t m v n cs) (hd : Dr b w w') (hlt : b < B) : w'.ownsRow B t m v n cs := by
  have hl := h.lt
  exact h.kept ⟨hd.os, hd.tape, hd.output, hd.size, fun k hk hn => hd.block k hk (fun e => hn (by rw [e]))⟩ (row := some b) (.inr fun e => by have := (hl b e).1; omega)

end Go.Proofs.Ytphebmbapllinaa
