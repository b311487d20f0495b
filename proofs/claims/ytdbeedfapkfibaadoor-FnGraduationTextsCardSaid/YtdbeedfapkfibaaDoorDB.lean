/- Plain mathematics, merged. -/
import Derived.Test.YtdbeedfapkfibaaDoorLX
import Derived.Test.YtdbeedfapkfibaaDoorC07a
import Derived.Test.YtdbeedfapkfibaaDoorDA
import Derived.Test.YtdbeedfapkfibaaDoorDl
import Derived.Test.YtdbeedfapkfibaaDoor7B
import Derived.Test.YtdbeedfapkfibaaDoorC07d
import Derived.Deep.RegionHeld3
import Derived.Test.YtdbeedfapkfibaaDoor7A
import Derived.Test.YtdbeedfapkfibaaDoor8A
import Derived.Test.YtdbeedfapkfibaaDoorC08a
/- Lists of parts with room to spare, that a law marks and holds. -/
namespace Go.Proofs.YtdbeedfapkfibaaDoor
open Go.RowKit
set_option linter.unusedVariables false
set_option linter.unusedSimpArgs false

theorem markPartsNil_any (A : Option Addr) (c : Nat) (w : World) :
    Calls Tryd.prog 28 #[.slice A 0 c, .int .i64 1] w fun e w' => e = .returned (.int .i64 1) ∧ w = w' := by
  go_enter Tryd.func28, Tryd.ntmps28
  go_wp2
  go_loop [1, 5] (fun x i => x = .int .i64 1 ∧ i = .int .i64 0) (fun _ _ => 0)
  case atStart => exact ⟨rfl, rfl⟩
  case round =>
    obtain ⟨rfl, rfl⟩ := hrel
    go_wp2
    go_ret
    exact ⟨rfl, rfl⟩
theorem heldPartsNil_any (A : Option Addr) (c : Nat) (w : World) :
    Calls Tryd.prog 29 #[.slice A 0 c, .int .i64 1] w fun e w' => e = .returned (.int .i64 1) ∧ w = w' := by
  go_enter Tryd.func29, Tryd.ntmps29
  go_wp2
  go_loop [1, 5] (fun x i => x = .int .i64 1 ∧ i = .int .i64 0) (fun _ _ => 0)
  case atStart => exact ⟨rfl, rfl⟩
  case round =>
    obtain ⟨rfl, rfl⟩ := hrel
    go_wp2
    go_ret
    exact ⟨rfl, rfl⟩
set_option maxHeartbeats 1000000 in
theorem markPartsRow_any (g n c : Nat) (xs : List P3) (rest : List Value) (w : World) (hn : xs.length = n) (hN : n ≤ 16777216) (hR : Row w g 61 (cells3 xs ++ rest)) :
    Calls Tryd.prog 28 #[.slice (some ⟨g, 0, none⟩) n c, .int .i64 1] w fun e w' => e = .returned (.int .i64 (1 + 3 * (n : Int))) ∧ Row w' g 61 (cells3 (mk3 n) ++ rest) ∧ Dr g w w' := by
  have HN := Lib.hid hn
  clear hn
  go_enter Tryd.func28, Tryd.ntmps28
  go_wp2
  go_loopw [1, 5] (fun x i wr => ∃ k : Nat, k ≤ n ∧ x = .int .i64 (1 + 3 * (k : Int)) ∧ i = .int .i64 k ∧ Row wr g 61 (cells3 (mix3 xs k) ++ rest) ∧ Dr g w wr) (fun _ i _ => n - (intOf i).toNat)
  case atStart => exact ⟨0, by omega, by simp, rfl, by rw [mix3_zero]; exact hR, Dr.refl _ _⟩
  case round =>
    obtain ⟨k, hk, rfl, rfl, hrow, hd⟩ := hrel
    by_cases hlt : k < n
    · have hk2 : k < xs.length := by rw [HN.out]; exact hlt
      have hlen : (cells3 (mix3 xs k)).length = n * 3 := by rw [cells3_len, mix3_len _ _ (by omega), HN.out]
      obtain ⟨z, hz⟩ := some_at hk2
      rw [← mix3_at xs k hk2] at hz
      obtain ⟨q0, q1, q2⟩ := cells3_at _ _ _ hz
      have c0 := hrow.cell (k * 3)
      have c1 := hrow.cell (k * 3 + 1)
      have c2 := hrow.cell (k * 3 + 2)
      rw [List.getElem?_append_left (by omega), q0] at c0
      rw [List.getElem?_append_left (by omega), q1] at c1
      rw [List.getElem?_append_left (by omega), q2] at c2
      have f0 := hrow.free (k * 3)
      have f1 := hrow.free (k * 3 + 1)
      have f2 := hrow.free (k * 3 + 2)
      have HS := Lib.hid (mix3_cells xs rest k hk2)
      have hb : (k : Int) < 16777216 := by omega
      clear hz hk2 hlen q0 q1 q2
      go_wp2
      go_roundw
      case rel => exact ⟨k + 1, by omega, by congr 1, by go_num, by rw [← HS.out]; exact ((hrow.set _ _).set _ _).set _ _, ((hd.setCell (.inl rfl) _).setCell (.inl rfl) _).setCell (.inl rfl) _⟩
      case measure => simp [intOf]; omega
    · obtain rfl : k = n := by omega
      have HM := Lib.hid (mix3_all xs)
      rw [HN.out] at HM
      go_wp2
      go_ret
      exact ⟨rfl, by rw [← HM.out]; exact hrow, hd⟩
set_option maxHeartbeats 1000000 in
theorem heldPartsRow_any (g n c : Nat) (rest : List Value) (w : World) (hN : n ≤ 16777216) (hR : Row w g 61 (cells3 (mk3 n) ++ rest)) :
    Calls Tryd.prog 29 #[.slice (some ⟨g, 0, none⟩) n c, .int .i64 1] w fun e w' => e = .returned (.int .i64 (1 + 3 * (n : Int))) ∧ w = w' := by
  go_enter Tryd.func29, Tryd.ntmps29
  go_wp2
  go_loop [1, 5] (fun x i => ∃ k : Nat, k ≤ n ∧ x = .int .i64 (1 + 3 * (k : Int)) ∧ i = .int .i64 k) (fun _ i => n - (intOf i).toNat)
  case atStart => exact ⟨0, by omega, by simp, rfl⟩
  case round =>
    obtain ⟨k, hk, rfl, rfl⟩ := hrel
    by_cases hlt : k < n
    · have hlen : (cells3 (mk3 n)).length = n * 3 := by rw [cells3_len, mk3_len]
      obtain ⟨q0, q1, q2⟩ := cells3_at _ _ _ (mk3_at n k hlt)
      have c0 := hR.cell (k * 3)
      have c1 := hR.cell (k * 3 + 1)
      have c2 := hR.cell (k * 3 + 2)
      rw [List.getElem?_append_left (by omega), q0] at c0
      rw [List.getElem?_append_left (by omega), q1] at c1
      rw [List.getElem?_append_left (by omega), q2] at c2
      have hb : (k : Int) < 16777216 := by omega
      clear hlen q0 q1 q2
      go_wp2
      go_round
      case rel => exact ⟨k + 1, by omega, by congr 1, by go_num⟩
      case measure => simp [intOf]; omega
    · obtain rfl : k = n := by omega
      go_wp2
      go_ret
      exact ⟨rfl, rfl⟩
/-- A list is marked. -/
theorem markPartsLst_any (v : Value) (xs : List P3) (B : Nat) (w : World) (h : Lst3 61 w B v xs) (hB : B ≤ w.heap.size) (hN : xs.length ≤ 16777216) :
    Calls Tryd.prog 28 #[v, .int .i64 1] w fun e w' => e = .returned (.int .i64 (1 + 3 * (xs.length : Int))) ∧ Lst3 61 w' B v (mk3 xs.length) ∧ Below B w w' := by
  rcases Lst3.row h with ⟨rfl, rfl⟩ | ⟨g, cap, rest, rfl, hg, hr, h1, h2, h3⟩
  · refine (markPartsNil_any none 0 w).mono ?_
    rintro e w' ⟨rfl, rfl⟩
    exact ⟨by simp, by simpa [mk3] using h, Below.refl _ _⟩
  · refine (markPartsRow_any g xs.length cap xs rest w rfl hN hr).mono ?_
    rintro e w' ⟨rfl, hr2, hd⟩
    refine ⟨rfl, ?_, hd.below hg hB⟩
    have := Lst3.of_row (w := w') (xs := mk3 xs.length) hg hr2 h2 (by rw [mk3_len]; exact h3)
    rwa [mk3_len] at this
theorem heldPartsLst_any (v : Value) (n : Nat) (B : Nat) (w : World) (h : Lst3 61 w B v (mk3 n)) (hN : n ≤ 16777216) :
    Calls Tryd.prog 29 #[v, .int .i64 1] w fun e w' => e = .returned (.int .i64 (1 + 3 * (n : Int))) ∧ w = w' := by
  rcases Lst3.row h with ⟨rfl, h0⟩ | ⟨g, cap, rest, rfl, hg, hr, h1, h2, h3⟩
  · obtain rfl : n = 0 := by rw [← mk3_len n, h0]; rfl
    refine (heldPartsNil_any none 0 w).mono ?_
    rintro e w' ⟨rfl, rfl⟩
    exact ⟨by simp, rfl⟩
  · rw [mk3_len]
    exact heldPartsRow_any g n cap rest w hN hr
theorem eqPartsLst_any (v u : Value) (xs : List P3) (B C : Nat) (w : World) (h : Lst3 61 w B v xs) (k : Lst3 61 w C u xs) (hN : xs.length ≤ 16777216) :
    Calls Tryd.prog 27 #[v, u] w fun e w' => e = .returned (.bool true) ∧ Gr w w' := by
  obtain ⟨A1, c1, rfl, r1⟩ := Lst3.slice h
  obtain ⟨A2, c2, rfl, r2⟩ := Lst3.slice k
  exact eqParts_same A1 A2 xs.length c1 c2 xs w rfl hN r1 r2
end Go.Proofs.YtdbeedfapkfibaaDoor

/- Draws of chapter 7: graduations. -/
namespace Go.Proofs.YtdbeedfapkfibaaDoor
open Go.RowKit Go.ChangeShapes Go.WideShapes Go.ChangeAt
set_option linter.unusedVariables false
set_option linter.unusedSimpArgs false

/-- A part as draws make them. -/
def PtB (z : P3) : Prop := (0 ≤ z.1 ∧ z.1 ≤ 30000) ∧ (0 ≤ z.2.1 ∧ z.2.1 ≤ 30000) ∧ (-30000 ≤ z.2.2 ∧ z.2.2 ≤ 30000)
/-- A part of a valid one. -/
def PtV (z : P3) : Prop := (1000 ≤ z.1 ∧ z.1 ≤ 10000) ∧ (1000 ≤ z.2.1 ∧ z.2.1 ≤ 10000) ∧ (-30000 ≤ z.2.2 ∧ z.2.2 ≤ 30000)
theorem PtV.of {x y r : Int} (hx : 1000 ≤ x ∧ x ≤ 10000) (hy : 1000 ≤ y ∧ y ≤ 10000) (hr : -30000 ≤ r ∧ r ≤ 30000) : PtV (x, y, r) := ⟨hx, hy, hr⟩
theorem PtV.b {z : P3} (h : PtV z) : PtB z := ⟨⟨by have := h.1; omega, by have := h.1; omega⟩, ⟨by have := h.2.1; omega, by have := h.2.1; omega⟩, h.2.2⟩
def StpN (x : Int) : Prop := -30000 ≤ x ∧ x ≤ 30000
/-- A drawn graduation. -/
def GotP (lo : Nat) (P : P3 → Prop) (A : Option Addr) (n c b : Nat) (w : World) (e : Ending) (w' : World) : Prop :=
  ∃ v zs, e = .returned v ∧ lo ≤ zs.length ∧ zs.length ≤ 12 ∧ (∀ z ∈ zs, P z) ∧ Lst3 61 w' w.heap.size v zs ∧ Src A n c b w' ∧ Dr b w w'

set_option maxRecDepth 100000 in
set_option maxHeartbeats 8000000 in
theorem valid7_any (A : Option Addr) (n c b : Nat) (w : World) (hS : Src A n c b w) :
    Calls Tryd.prog 43 #[.pointer (some ⟨b, 0, none⟩)] w (GotP 1 PtV A n c b w) := by
  obtain ⟨i0, hi, hz0, hz1, hz2⟩ := info_parts info_i7
  obtain ⟨j0, hj, hy0, hy1, hy2⟩ := info_parts info_part
  have hlt := hS.lt
  have O1 : Lst (w.alloc (.cells #[.int .i64 1000] 2)) w.heap.size (.slice (some ⟨w.heap.size, 0, none⟩) 1 1) [1000] := Lst.of_row (xs := [1000]) (rest := []) (Nat.le_refl _) (Row.new w 2 [.int .i64 1000]) (by unfold maxLen; omega) rfl
  have hT1 : Dr b w (w.alloc (.cells #[.int .i64 1000] 2)) := (Dr.refl b w).alloc _
  go_enter Tryd.func43, Tryd.ntmps43
  go_wp2_with fail
  refine (next_any A n c b _ _ (hS.alloc _)).mono ?_
  rintro e w2 ⟨x, rfl, x0, x1, -, hS2, hd2⟩
  have x1 := x1 (by omega)
  have O2 := Lib.hid (ownsRow_dr O1 hd2 hlt)
  have hT2 := hT1.trans hd2
  clear O1 hT1 hd2
  go_wp2_with fail
  go_loopw [3, 4] (fun v m wr => ∃ (E : List Int) (g cp : Nat) (y : Int), v = .slice (some ⟨g, 0, none⟩) E.length cp ∧ m = .int .i64 y ∧ 1200 ≤ y ∧ y ≤ 15200 ∧ 1 ≤ E.length ∧ E.length ≤ 12 ∧ Hid (∀ e ∈ E, 1000 ≤ e ∧ e ≤ 10000) ∧ Hid (Lst wr w.heap.size (.slice (some ⟨g, 0, none⟩) E.length cp) E) ∧ Src A n c b wr ∧ Dr b w wr) (fun _ m _ => (15200 - intOf m).toNat)
  case atStart => exact ⟨[1000], w.heap.size, 1, 1200 + 200 * x, rfl, by go_num, by omega, by omega, by simp, by simp, Lib.hid (by simp), O2, hS2, hT2⟩
  case round =>
    obtain ⟨E, g, cp, y, rfl, rfl, y0, y1, l0, l1, HE, HO, hS3, hT3⟩ := hrel
    clear O2
    have hsz := hT3.size
    by_cases hy : y < 10000
    · by_cases hl : E.length < 12
      · have hrow := HO.out
        go_wp2_with (at_builtin; refine wpList_append_own _ rfl _ _ 71 rfl w.heap.size 2 i0 (.int .i64 0) 1 8 Tryd.underlying71 hi hz0 hz1 hz2 rfl (by decide) _ _ _ rfl (hrow.alloc _) ⟨wr.heap.size, 0, none⟩ 1 1 [.int .i64 y] rfl rfl (one_cell_new _ _ _) (by simp [Value.oneCell']) (by unfold maxLen; omega) (by omega) (by simp; omega) ?_; intro v' w4 hown' hgrow _; obtain ⟨hA1, hA2⟩ := Lst.app (x := y) (Below.refl _ _) hsz (hrow.alloc _) (by simpa using hown') hgrow; obtain ⟨g4, c4, rfl, hg4a, hg4b, hc4⟩ := Lst.form hA1 (by simp); have HA1 := Lib.hid hA1; have HA2 := Lib.hid hA2; have HC4 := Lib.hid hc4; clear hA1 hA2 hown' hgrow hrow hc4)
        refine (next_any A n c b _ _ (hS3.under HA2.out hlt)).mono ?_
        rintro e w5 ⟨z, rfl, z0, z1, -, hS5, hd5⟩
        have z1 := z1 (by omega)
        have HO5 := Lib.hid (ownsRow_dr HA1.out hd5 hlt)
        have hT5 := (hT3.after HA2.out).trans hd5
        clear HA1 HO hd5 hS3 hT3
        go_wp2_with fail
        go_roundw
        case rel => exact ⟨E ++ [y], g4, c4, y + 400 * (1 + z), by rw [List.length_append]; rfl, by go_num, by omega, by omega, by simp, by simp; omega, Lib.hid (fun e he => by rcases List.mem_append.1 he with h | h; exact HE.out e h; rw [List.mem_singleton.1 h]; omega), HO5, hS5, hT5⟩
        case measure => simp [intOf]; omega
      · go_wp2_with fail
        refine (next_any A n c b _ _ hS3).mono ?_
        rintro e w5 ⟨z, rfl, z0, z1, -, hS5, hd5⟩
        have z1 := z1 (by omega)
        have HO5 := Lib.hid (ownsRow_dr HO.out hd5 hlt)
        have hT5 := hT3.trans hd5
        clear HO hd5 hS3 hT3
        go_wp2_with fail
        go_roundw
        case rel => exact ⟨E, g, cp, y + 400 * (1 + z), rfl, by go_num, by omega, by omega, by omega, by omega, HE, HO5, hS5, hT5⟩
        case measure => simp [intOf]; omega
    · have hrow := HO.out
      go_wp2_with (at_builtin; refine wpList_append_own _ rfl _ _ 71 rfl w.heap.size 2 i0 (.int .i64 0) 1 8 Tryd.underlying71 hi hz0 hz1 hz2 rfl (by decide) _ _ _ rfl (hrow.alloc _) ⟨wr.heap.size, 0, none⟩ 1 1 [.int .i64 10000] rfl rfl (one_cell_new _ _ _) (by simp [Value.oneCell']) (by unfold maxLen; omega) (by omega) (by simp; omega) ?_; intro v' w4 hown' hgrow _; obtain ⟨hA1, hA2⟩ := Lst.app (x := 10000) (Below.refl _ _) hsz (hrow.alloc _) (by simpa using hown') hgrow; obtain ⟨g4, c4, rfl, hg4a, hg4b, hc4⟩ := Lst.form hA1 (by simp); have HA1 := Lib.hid hA1; have HA2 := Lib.hid hA2; have HC4 := Lib.hid hc4; clear hA1 hA2 hown' hgrow hrow hc4)
      have HE2 : Hid (∀ e ∈ E ++ [10000], 1000 ≤ e ∧ e ≤ 10000) := Lib.hid (fun e he => by rcases List.mem_append.1 he with h | h; exact HE.out e h; rw [List.mem_singleton.1 h]; omega)
      have hS4 := hS3.under HA2.out hlt
      have hT4 := hT3.after HA2.out
      have hF1 : 2 ≤ (E ++ [(10000 : Int)]).length := by simp; omega
      have hF2 : (E ++ [(10000 : Int)]).length ≤ 13 := by simp; omega
      have hF3 : E.length + 1 = (E ++ [(10000 : Int)]).length := by simp
      clear HA1 HO hS3 hT3 HE HA2 hy y1 y0 l0 l1
      rw [hF3]
      obtain ⟨q, hq⟩ : ∃ q, (E ++ [(10000 : Int)]).length = q := ⟨_, rfl⟩
      rw [hq] at hF1 hF2 hF3 ⊢
      have HQ := Lib.hid hq
      clear hq
      generalize E ++ [(10000 : Int)] = F at *
      have hsz4 := hT4.size
      have hb4 : b < w4.heap.size := by omega
      have hgb : g4 ≠ b := by omega
      have HCELL := Lib.hid (fun k x (hx : F[k]? = some x) W (h : Dr b w4 W) => h.cell (a := ⟨g4, k, none⟩) (HC4.out k x hx) hgb)
      have O6 : Hid (Lst3 61 (w4.alloc (.cells #[] 61)) w4.heap.size (.slice (some ⟨w4.heap.size, 0, none⟩) 0 0) []) := Lib.hid (Lst3.new _ _ _ (Nat.le_refl _))
      have S6 := hS4.alloc (.cells #[] 61)
      have T6 : Hid (Dr b w4 (w4.alloc (.cells #[] 61))) := Lib.hid ((Dr.refl b w4).alloc _)
      clear HC4 hS4
      go_wp2_with fail
      generalize w4.alloc (.cells #[] 61) = w6 at *
      go_loopw [5, 6] (fun v i wr => ∃ (k : Nat) (O : List P3), i = .int .i64 k ∧ 1 ≤ k ∧ k = O.length + 1 ∧ k ≤ q ∧ Hid (∀ z ∈ O, PtV z) ∧ Hid (Lst3 61 wr w4.heap.size v O) ∧ Src A n c b wr ∧ Hid (Dr b w4 wr)) (fun _ i _ => q - (intOf i).toNat)
      case atStart => exact ⟨1, [], rfl, by omega, rfl, by omega, Lib.hid (by simp), O6, S6, T6⟩
      case round =>
        obtain ⟨k, O, rfl, k1, hkO, hkF, HPB, HO, hS, HT⟩ := hrel
        clear O6 S6 T6
        have hsw := HT.out.size
        by_cases hkl : k < q
        · obtain ⟨x, hx⟩ := some_at (l := F) (k := k - 1) (by rw [HQ.out]; omega)
          obtain ⟨y, hy⟩ := some_at (l := F) (k := k) (by rw [HQ.out]; exact hkl)
          have hxb := HE2.out x (List.mem_of_getElem? hx)
          have hyb := HE2.out y (List.mem_of_getElem? hy)
          have HK := Lib.hid (fun W (h : Dr b w4 W) => And.intro (HCELL.out _ x hx W h) (HCELL.out _ y hy W h))
          obtain ⟨p0, p1⟩ := HK.out wr HT.out
          have hk2 : (1 : Int) ≤ (k : Int) := by omega
          have hk3 : (k : Int) - 1 < (q : Int) := by omega
          have hk4 : (k : Int) < (q : Int) := by omega
          have hk5 : (0 : Int) ≤ (k : Int) := by omega
          have hwk2 : IntKind.i64.wrap ((k : Int) - 1) = (k : Int) - 1 := IntWalk.i64_in _ (by omega)
          have hAll : AllP StpN (wr.alloc (.cells #[.int .i64 20, .int .i64 50, .int .i64 100, .int .i64 100, .int .i64 200, .int .i64 10] 2)).drew wr.heap.size 6 := allP_alloc StpN wr _ 2 6 [20, 50, 100, 100, 200, 10] rfl rfl (by simp [StpN])
          have hSa := (hS.alloc (.cells #[.int .i64 20, .int .i64 50, .int .i64 100, .int .i64 100, .int .i64 200, .int .i64 10] 2)).drew
          have hlb := hS.lt
          have HOa := Lib.hid (Lst3.below HO.out (Gr.below (show Gr wr ((wr.alloc (.cells #[.int .i64 20, .int .i64 50, .int .i64 100, .int .i64 100, .int .i64 200, .int .i64 10] 2)).drew) from (by repeat (first | with_reducible exact Gr.refl _ | with_reducible refine Gr.alloc ?_ _ | with_reducible refine Gr.gr ?_ _ _ | with_reducible refine Gr.drew ?_ | with_reducible refine Gr.drewN ?_ _)))))
          have HTa := Lib.hid ((HT.out.alloc (.cells #[.int .i64 20, .int .i64 50, .int .i64 100, .int .i64 100, .int .i64 200, .int .i64 10] 2)).drew)
          have HKO := Lib.hid hkO
          have hol : O.length ≤ 12 := by omega
          have hz1 : O.length + 1 ≤ maxLen := by unfold maxLen; omega
          have hz2 : (O.length + 1) * 24 ≤ 140737488355328 := by omega
          clear hx hy hS HQ hkO hkF
          go_wp2_with fail
          go_region_held3 (fun w' => w'.cell? ⟨g4, k - 1, none⟩ = some (.int .i64 x) ∧ w'.cell? ⟨g4, k, none⟩ = some (.int .i64 y)) (first | exact ⟨p0, p1⟩ | exact HK.out _ (by repeat (first | exact HT.out | exact HTa.out | exact HT7.out | exact HT8.out | with_reducible refine Dr.alloc ?_ _ | with_reducible refine Dr.drew ?_)) | fail) (first
            | (go_at_call 63; (with_reducible refine (pick_any StpN A n c b _ 6 6 _ hSa (by omega) (by omega) (by omega) hAll).mono ?_); rintro e w7 ⟨r, rfl, hr, hS7, hd7⟩; have HO7 := Lib.hid (ownsRow_dr HOa.out hd7 hb4); have HT7 := Lib.hid (HTa.out.trans hd7); have hs7 := HT7.out.size; clear hd7)
            | (refine step_append_own rfl _ _ 24 rfl w4.heap.size 61 j0 (.agg #[.int .i64 0, .int .i64 0, .int .i64 0]) 3 24 Tryd.underlying24 hj hy0 hy1 hy2 rfl (by decide) _ _ _ rfl (HO7.out.alloc _) _ 1 1 [.int .i64 x, .int .i64 y, .int .i64 r] rfl rfl (three_cells_new _ _ _ _ _) (by simp [Value.oneCell']) hz1 hz2 (Nat.le_trans hs7 (by simp)) ?_; intro v' w8 hown' hgrow _; obtain ⟨hA1, hA2⟩ := Lst3.app (Below.refl _ _) hs7 (HO7.out.alloc _) hown' hgrow; have HA1 := Lib.hid hA1; have HT8 := Lib.hid (HT7.out.after hA2); have hS8 := hS7.under hA2 hb4; clear hA1 hA2 hown' hgrow)
            | fail)
          all_goals
            go_wp2
            go_roundw
            case rel => exact ⟨k + 1, O ++ [(x, y, r)], by go_num, by omega, by rw [List.length_append, HKO.out]; rfl, by omega, Lib.hid (fun z hz => by rcases List.mem_append.1 hz with h | h; exact HPB.out z h; rw [List.mem_singleton.1 h]; exact PtV.of hxb hyb hr), HA1, hS8, HT8⟩
            case measure => simp [intOf]; omega
        · go_wp2
          go_ret
          exact ⟨_, O, rfl, by omega, by omega, HPB.out, Lst3.mono HO.out hsz4, hS, hT4.trans HT.out⟩

theorem Row.dr {w w' : World} {b g : Nat} {t : TypeId} {vs : List Value} (h : Row w g t vs) (hd : Dr b w w') (hg : g ≠ b) : Row w' g t vs := (hd.block g h.lt hg).trans h
theorem cells3_set (xs : List P3) (rest : List Value) (k : Nat) (x0 x1 x2 y : Int) (h : xs[k]? = some (x0, x1, x2)) :
    (cells3 xs ++ rest).set (k * 3 + 2) (vi y) = cells3 (xs.set k (x0, x1, y)) ++ rest ∧ (cells3 xs ++ rest).set (k * 3 + 1) (vi y) = cells3 (xs.set k (x0, y, x2)) ++ rest := by
  obtain ⟨hk, e⟩ := List.getElem?_eq_some_iff.1 h
  have hl : (cells3 (xs.take k)).length = k * 3 := by rw [cells3_len, List.length_take, Nat.min_eq_left (by omega)]
  have hx : cells3 xs ++ rest = cells3 (xs.take k) ++ ([vi x0, vi x1, vi x2] ++ (cells3 (xs.drop (k + 1)) ++ rest)) := by
    conv => lhs; rw [← List.take_append_drop k xs, List.drop_eq_getElem_cons hk, e]
    rw [cells3_append, show cells3 ((x0, x1, x2) :: xs.drop (k + 1)) = [vi x0, vi x1, vi x2] ++ cells3 (xs.drop (k + 1)) from rfl]
    simp
  have hs : ∀ p : P3, cells3 (xs.set k p) ++ rest = cells3 (xs.take k) ++ ([vi p.1, vi p.2.1, vi p.2.2] ++ (cells3 (xs.drop (k + 1)) ++ rest)) := by
    intro p
    rw [List.set_eq_take_append_cons_drop, if_pos hk, cells3_append, show cells3 (p :: xs.drop (k + 1)) = [vi p.1, vi p.2.1, vi p.2.2] ++ cells3 (xs.drop (k + 1)) from rfl]
    simp
  rw [hx, hs, hs]
  refine ⟨?_, ?_⟩ <;> (rw [List.set_append_right _ _ (by omega), hl]; simp [show k * 3 + 2 - k * 3 = 2 by omega, show k * 3 + 1 - k * 3 = 1 by omega])
theorem ptb_set {xs : List P3} {k : Nat} {p : P3} (h : ∀ z ∈ xs, PtB z) (hp : PtB p) : ∀ z ∈ xs.set k p, PtB z := fun z hz => by
  rcases List.mem_or_eq_of_mem_set hz with h1 | h1
  · exact h z h1
  · rw [h1]; exact hp
def ToN (x : Int) : Prop := -1 ≤ x ∧ x ≤ 100

set_option maxRecDepth 100000 in
set_option maxHeartbeats 8000000 in
theorem draw7_any (A : Option Addr) (n c b : Nat) (w : World) (hS : Src A n c b w) :
    Calls Tryd.prog 36 #[.pointer (some ⟨b, 0, none⟩)] w (GotP 0 PtB A n c b w) := by
  have hlt := hS.lt
  go_enter Tryd.func36, Tryd.ntmps36
  go_wp2_with fail
  refine (valid7_any A n c b _ hS).mono ?_
  rintro e w1 ⟨v, zs, rfl, l0, l1, HP, hO, hS1, hT1⟩
  rcases Lst3.row hO with ⟨-, h0⟩ | ⟨g, cap, rest, rfl, hg, hr, h1, h2, h3⟩
  · rw [h0] at l0; simp at l0
  obtain ⟨q, hq⟩ : ∃ q, zs.length = q := ⟨_, rfl⟩
  rw [hq] at l0 l1 h1 h3 ⊢
  have HQ := Lib.hid hq
  have hgb : g ≠ b := by omega
  have HRow := Lib.hid (fun W (h : Dr b w1 W) => hr.dr h hgb)
  clear hO hr hq
  go_wp2_with fail
  refine (next_any A n c b _ _ hS1).mono ?_
  rintro e w2 ⟨k, rfl, k0, k1, k2, hS2, hd2⟩
  obtain ⟨k, rfl⟩ := Int.eq_ofNat_of_zero_le k0
  have hk : k < q := by
    by_cases h : (1 : Int) < q
    · have := k1 h; omega
    · have := k2 (by omega); omega
  clear k0 k1 k2
  go_wp2_with fail
  refine (next_any A n c b _ _ hS2).mono ?_
  rintro e w3 ⟨x, rfl, x0, x1, -, hS3, hd3⟩
  have x1 := x1 (by omega)
  have hT3 := hd2.trans hd3
  have hT := hT1.trans hT3
  have hs13 := hT3.size
  obtain ⟨z, hz⟩ := some_at (l := zs) (k := k) (by rw [HQ.out]; exact hk)
  have hzb := HP z (List.mem_of_getElem? hz)
  obtain ⟨z0, z1, z2⟩ := z
  have hzv := hzb.2.1
  have hzB := hzb.b
  simp only at hzv
  have HS := Lib.hid (fun y => cells3_set zs rest k z0 z1 z2 y hz)
  obtain ⟨q0, q1, q2⟩ := cells3_at _ _ _ hz
  have hlen : (cells3 zs).length = q * 3 := by rw [cells3_len, HQ.out]
  have hc1 : (cells3 zs ++ rest)[k * 3 + 1]? = some (vi z1) := by rw [List.getElem?_append_left (by omega)]; exact q1
  have hc2 : (cells3 zs ++ rest)[k * 3 + 2]? = some (vi z2) := by rw [List.getElem?_append_left (by omega)]; exact q2
  have HPS : Hid (∀ z ∈ zs, PtB z) := Lib.hid (fun z hz => (HP z hz).b)
  have HC1 := Lib.hid hc1
  have HC2 := Lib.hid hc2
  clear hz q0 q1 q2 hlen hd2 hd3 hS1 hS2 HP hc1 hc2
  have hx : x = 0 ∨ x = 1 ∨ x = 2 ∨ (((x : Int) == 0) = false ∧ ((x : Int) == 1) = false ∧ ((x : Int) == 2) = false) := by
    by_cases h0 : x = 0
    · exact .inl h0
    · by_cases h1 : x = 1
      · exact .inr (.inl h1)
      · by_cases h2 : x = 2
        · exact .inr (.inr (.inl h2))
        · exact .inr (.inr (.inr ⟨by simp [h0], by simp [h1], by simp [h2]⟩))
  have hkq : (k : Int) < (q : Int) := by omega
  have hk0 : (0 : Int) ≤ (k : Int) := by omega
  rcases hx with rfl | rfl | rfl | ⟨hb0, hb1, hb2⟩
  · clear x0 x1
    go_wp2_with fail
    refine (pick_any StpN A n c b _ 4 4 _ (hS3.alloc _) (by have := hS3.lt; omega) (by omega) (by omega) (allP_alloc StpN w3 _ _ _ [0, 7, 1, -1] rfl rfl (by simp [StpN]))).mono ?_
    rintro e w4 ⟨y, rfl, hy, hS4, hd4⟩
    have hT4 := (hT3.alloc (.cells #[.int .i64 0, .int .i64 7, .int .i64 1, .int .i64 (-1)] 2)).trans hd4
    have hr4 := HRow.out w4 hT4
    have c2 := (hr4.cell (k * 3 + 2)).trans HC2.out
    have f2 := hr4.free (k * 3 + 2)
    have hbl := hS4.lt
    clear hd4
    go_wp2_with fail
    go_ret
    have hr5 := hr4.set (k * 3 + 2) (vi y)
    rw [(HS.out y).1] at hr5
    refine ⟨_, zs.set k (z0, z1, y), rfl, by omega, by rw [List.length_set, HQ.out]; exact l1, ptb_set HPS.out ⟨hzB.1, hzB.2.1, hy⟩, ?_, hS4.far (by show b < g; omega) _, (hT1.trans hT4).setCell (.inr hg) _⟩
    have := Lst3.of_row hg hr5 h2 (by rw [List.length_set, HQ.out]; exact h3)
    rwa [List.length_set, HQ.out] at this
  · clear x0 x1
    have hTa := (hT3.alloc (.cells #[.int .i64 1, .int .i64 (-1), .int .i64 100] 2)).drew
    have cw := ((HRow.out w3 hT3).cell (k * 3 + 1)).trans HC1.out
    have ca := ((HRow.out _ hTa).cell (k * 3 + 1)).trans HC1.out
    have hSa := (hS3.alloc (.cells #[.int .i64 1, .int .i64 (-1), .int .i64 100] 2)).drew
    have hAll : AllP ToN (w3.alloc (.cells #[.int .i64 1, .int .i64 (-1), .int .i64 100] 2)).drew w3.heap.size 3 := allP_alloc ToN w3 _ 2 3 [1, -1, 100] rfl rfl (by simp [ToN])
    have hl3 := hS3.lt
    have hlg : g < (w3.alloc (.cells #[.int .i64 1, .int .i64 (-1), .int .i64 100] 2)).heap.size := by rw [World.size_alloc]; have := (HRow.out w3 hT3).lt; omega
    have hlg2 : g < w3.heap.size := (HRow.out w3 hT3).lt
    go_wp2_with fail
    go_region_with (first | (go_at_call 63; (refine (pick_any ToN A n c b _ 3 3 _ hSa (by omega) (by omega) (by omega) hAll).mono ?_); rintro e w4 ⟨y, rfl, hy, hS4, hd4⟩; have hT4 := hTa.trans hd4; have c4 := ((HRow.out w4 hT4).cell (k * 3 + 1)).trans HC1.out; have f4 := (HRow.out w4 hT4).free (k * 3 + 1); have hlg4 := (HRow.out w4 hT4).lt; have hwr : IntKind.i64.wrap (z1 + y) = z1 + y := IntWalk.i64_in _ (by unfold ToN at hy; omega)) | fail)
    all_goals
      go_wp2
      go_ret
      have hr5 := (HRow.out w4 hT4).set (k * 3 + 1) (vi (z1 + y))
      rw [(HS.out _).2] at hr5
      refine ⟨_, zs.set k (z0, z1 + y, z2), rfl, by omega, by rw [List.length_set, HQ.out]; exact l1, ptb_set HPS.out ⟨hzB.1, ⟨by unfold ToN at hy; simp only; omega, by unfold ToN at hy; simp only; omega⟩, hzB.2.2⟩, ?_, hS4.far (by show b < g; omega) _, (hT1.trans hT4).setCell (.inr hg) _⟩
      have := Lst3.of_row hg hr5 h2 (by rw [List.length_set, HQ.out]; exact h3)
      rwa [List.length_set, HQ.out] at this
  · clear x0 x1
    go_wp2_with fail
    go_ret
    refine ⟨_, zs.take k, rfl, by omega, by rw [List.length_take, HQ.out]; omega, fun z hz => HPS.out z (List.mem_of_mem_take hz), ?_, hS3, hT⟩
    have hr3 := HRow.out w3 hT3
    have e : cells3 zs ++ rest = cells3 (zs.take k) ++ (cells3 (zs.drop k) ++ rest) := by rw [← List.append_assoc, ← cells3_append, List.take_append_drop]
    rw [e] at hr3
    have hl := Lst3.of_row (xs := zs.take k) hg hr3 h2 (by rw [List.length_append, cells3_len, List.length_take, List.length_drop, HQ.out]; omega)
    rwa [List.length_take, HQ.out, Nat.min_eq_left (by omega)] at hl
  · clear x0 x1
    go_wp2_with fail
    go_ret
    refine ⟨_, zs, rfl, by omega, by rw [HQ.out]; exact l1, HPS.out, ?_, hS3, hT⟩
    have := Lst3.of_row hg (HRow.out w3 hT3) h2 (by rw [HQ.out]; exact h3)
    rwa [HQ.out] at this
end Go.Proofs.YtdbeedfapkfibaaDoor

/- Draws of chapter 7: what its functions are asked. -/
namespace Go.Proofs.YtdbeedfapkfibaaDoor
open Go.RowKit Go.ChangeShapes Go.WideShapes Go.ChangeAt
set_option linter.unusedVariables false
set_option linter.unusedSimpArgs false

theorem wf_of {x : Int} (h : -1000000 ≤ x ∧ x ≤ 1000000) : (Lit.int .i64 x).wf = true := by
  simp only [Lit.wf, Bool.and_eq_true, decide_eq_true_eq]
  have h1 : (-9223372036854775808 : Int) ≤ x := by omega
  have h2 : x ≤ (9223372036854775807 : Int) := by omega
  exact ⟨h1, h2⟩
theorem ptb_wf {zs : List P3} (h : ∀ z ∈ zs, PtB z) : Wf3 zs := fun z hz => by
  obtain ⟨h1, h2, h3⟩ := h z hz
  exact ⟨wf_of (by omega), wf_of (by omega), wf_of (by omega)⟩
def NumN (x : Int) : Prop := -100000 ≤ x ∧ x ≤ 200000
/-- A drawn graduation; with a number; with two. -/
def OneP (w : World) (e : Ending) (w' : World) : Prop := ∃ v zs, e = .returned v ∧ zs.length ≤ 12 ∧ (∀ z ∈ zs, PtB z) ∧ Lst3 61 w' w.heap.size v zs ∧ Below w.heap.size w w'
def OneP1 (w : World) (e : Ending) (w' : World) : Prop := ∃ v zs x, e = .returned (.tuple #[v, .int .i64 x]) ∧ zs.length ≤ 12 ∧ (∀ z ∈ zs, PtB z) ∧ NumN x ∧ Lst3 61 w' w.heap.size v zs ∧ Below w.heap.size w w'
def OneP2 (w : World) (e : Ending) (w' : World) : Prop := ∃ v zs x y, e = .returned (.tuple #[v, .int .i64 x, .int .i64 y]) ∧ zs.length ≤ 12 ∧ (∀ z ∈ zs, PtB z) ∧ NumN x ∧ NumN y ∧ Lst3 61 w' w.heap.size v zs ∧ Below w.heap.size w w'

theorem drawGT_any (A : Option Addr) (n c : Nat) (w : World) (hn : n ≤ 4611686018427387904) (hB : Bytes w w.heap.size A n) :
    Calls Tryd.prog 11 #[.slice A n c] w (OneP w) := by
  go_enter Tryd.func11, Tryd.ntmps11
  go_wp2_with fail
  refine (from_any A n c w hn hB).mono ?_
  rintro e w1 ⟨b, rfl, hb, hS1, hl1⟩
  go_wp2_with fail
  refine (draw7_any A n c b _ hS1).mono ?_
  rintro e w2 ⟨v, zs, rfl, -, l1, hP, hO, hS2, hT2⟩
  go_wp2_with fail
  go_ret
  exact ⟨v, zs, rfl, l1, hP, Lst3.mono hO hl1.size, hl1.trans (hT2.below hb hl1.size)⟩

end Go.Proofs.YtdbeedfapkfibaaDoor

/- Draws of chapter 8: ticks. -/
namespace Go.Proofs.YtdbeedfapkfibaaDoor
open Go.RowKit Go.Shelf Go.ChangeShapes Go.WideShapes Go.ChangeAt
set_option linter.unusedVariables false
set_option linter.unusedSimpArgs false

theorem flat_zero : ∀ j : Nat, (List.replicate j ((0, 0, 0) : P3)).flatMap cl3 = List.replicate (j * 3) (vi 0)
  | 0 => rfl
  | j + 1 => by
    rw [List.replicate_succ, List.flatMap_cons, flat_zero j, Nat.succ_mul, Nat.add_comm (j * 3) 3, ← List.replicate_append_replicate]
    rfl
theorem toL_len0 (zs : List P3) (s l f t : Int) : (toL zs s l f t).length ≤ 150 := by
  unfold toL
  split
  · rename_i h
    rw [toF_len]
    unfold toE at h
    split at h
    · omega
    split at h
    · omega
    split at h
    · omega
    · omega
  · simp

def BigN (x : Int) : Prop := -2000000000000 ≤ x ∧ x ≤ 2000000000000
end Go.Proofs.YtdbeedfapkfibaaDoor
