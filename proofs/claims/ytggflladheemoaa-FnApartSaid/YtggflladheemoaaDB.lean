/- Plain mathematics, merged. -/
import Derived.Test.YtggflladheemoaaDA
import Derived.Test.YtggflladheemoaaDl
import Derived.Test.YtggflladheemoaaDp
import Derived.Test.YtggflladheemoaaC07r
import Derived.Test.YtggflladheemoaaC07d
import Derived.Deep.RegionHeld3
import Derived.Test.Ytggflladheemoaa7A
import Derived.Test.Ytggflladheemoaa8A
import Derived.Test.YtggflladheemoaaC08a
/- Draws of chapter 7: graduations. -/
namespace Go.Proofs.Ytggflladheemoaa
open Go.RowKit Go.ChangeShapes Go.WideShapes Go.ChangeAt
set_option linter.unusedVariables false
set_option linter.unusedSimpArgs false

/-- A part as draws make them. -/
def PtB (z : P3) : Prop := (0 ≤ z.1 ∧ z.1 ≤ 30000) ∧ (0 ≤ z.2.1 ∧ z.2.1 ≤ 30000) ∧ (-30000 ≤ z.2.2 ∧ z.2.2 ≤ 30000)
/-- A part of a valid one. -/
def PtV (z : P3) : Prop := (1000 ≤ z.1 ∧ z.1 ≤ 10000) ∧ (1000 ≤ z.2.1 ∧ z.2.1 ≤ 10000) ∧ (-30000 ≤ z.2.2 ∧ z.2.2 ≤ 30000)
theorem PtV.of {x y r : Int} (hx : 1000 ≤ x ∧ x ≤ 10000) (hy : 1000 ≤ y ∧ y ≤ 10000) (hr : -30000 ≤ r ∧ r ≤ 30000) : PtV (x, y, r) := ⟨hx, hy, hr⟩
theorem PtV.b {z : P3} (h : PtV z) : PtB z := ⟨⟨by have := h.1; omega, by have := h.1; omega⟩, ⟨by have := h.2.1; omega, by have := h.2.1; omega⟩, h.2.2⟩
def StpN (x : Int) : Prop := -30000 ≤ x ∧ x ≤ 30000
/-- A drawn graduation. -/
def GotP (lo : Nat) (P : P3 → Prop) (A : Option Addr) (n c b : Nat) (w : World) (e : Ending) (w' : World) : Prop :=
  ∃ v zs, e = .returned v ∧ lo ≤ zs.length ∧ zs.length ≤ 12 ∧ (∀ z ∈ zs, P z) ∧ Lst3 65 w' w.heap.size v zs ∧ Src A n c b w' ∧ Dr b w w'

set_option maxRecDepth 100000 in
set_option maxHeartbeats 8000000 in
theorem valid7_any (A : Option Addr) (n c b : Nat) (w : World) (hS : Src A n c b w) :
    Calls Try.prog 64 #[.pointer (some ⟨b, 0, none⟩)] w (GotP 1 PtV A n c b w) := by
  obtain ⟨i0, hi, hz0, hz1, hz2⟩ := info_parts info_i7
  obtain ⟨j0, hj, hy0, hy1, hy2⟩ := info_parts info_part
  have hlt := hS.lt
  have O1 : Lst (w.alloc (.cells #[.int .i64 1000] 2)) w.heap.size (.slice (some ⟨w.heap.size, 0, none⟩) 1 1) [1000] := Lst.of_row (xs := [1000]) (rest := []) (Nat.le_refl _) (Row.new w 2 [.int .i64 1000]) (by unfold maxLen; omega) rfl
  have hT1 : Dr b w (w.alloc (.cells #[.int .i64 1000] 2)) := (Dr.refl b w).alloc _
  go_enter Try.func64, Try.ntmps64
  go_wp2_with fail
  refine (next_any A n c b _ _ (hS.alloc _)).mono ?_
  rintro e w2 ⟨x, rfl, x0, x1, -, hS2, hd2⟩
  have x1 := x1 (by omega)
  have O2 := Lib.hid (ownsRow_dr O1 hd2 hlt)
  have hT2 := hT1.trans hd2
  clear O1 hT1 hd2
  go_wp2_with fail
  go_loopw [3, 4] (fun v m wr => ∃ (E : List Int) (g cp : Nat) (y : Int), v = .slice (some ⟨g, 0, none⟩) E.length cp ∧ m = .int .i64 y ∧ 1200 ≤ y ∧ y ≤ 15200 ∧ 1 ≤ E.length ∧ E.length ≤ 12 ∧ Hid (∀ e ∈ E, 1000 ≤ e ∧ e ≤ 10000) ∧ Hid (Lst wr w.heap.size (.slice (some ⟨g, 0, none⟩) E.length cp) E) ∧ Src A n c b wr ∧ Dr b w wr) (fun _ m _ => (15200 - intOf m).toNat)
  case atStart => exact ⟨[1000], w.heap.size, 1, 1200 + 200 * x, rfl, by go_num, by omega, by omega, by simp, by simp, Lib.hid (by simp), O2, hS2, hT2⟩
  case round =>
    obtain ⟨E, g, cp, y, rfl, rfl, y0, y1, l0, l1, HE, HO, hS3, hT3⟩ := hrel
    clear O2
    have hsz := hT3.size
    by_cases hy : y < 10000
    · by_cases hl : E.length < 12
      · have hrow := HO.out
        go_wp2_with (at_builtin; refine wpList_append_own _ rfl _ _ 30 rfl w.heap.size 2 i0 (.int .i64 0) 1 8 Try.underlying30 hi hz0 hz1 hz2 rfl (by decide) _ _ _ rfl (hrow.alloc _) ⟨wr.heap.size, 0, none⟩ 1 1 [.int .i64 y] rfl rfl (one_cell_new _ _ _) (by simp [Value.oneCell']) (by unfold maxLen; omega) (by omega) (by simp; omega) ?_; intro v' w4 hown' hgrow _; obtain ⟨hA1, hA2⟩ := Lst.app (x := y) (Below.refl _ _) hsz (hrow.alloc _) (by simpa using hown') hgrow; obtain ⟨g4, c4, rfl, hg4a, hg4b, hc4⟩ := Lst.form hA1 (by simp); have HA1 := Lib.hid hA1; have HA2 := Lib.hid hA2; have HC4 := Lib.hid hc4; clear hA1 hA2 hown' hgrow hrow hc4)
        refine (next_any A n c b _ _ (hS3.under HA2.out hlt)).mono ?_
        rintro e w5 ⟨z, rfl, z0, z1, -, hS5, hd5⟩
        have z1 := z1 (by omega)
        have HO5 := Lib.hid (ownsRow_dr HA1.out hd5 hlt)
        have hT5 := (hT3.after HA2.out).trans hd5
        clear HA1 HO hd5 hS3 hT3
        go_wp2_with fail
        go_roundw
        case rel => exact ⟨E ++ [y], g4, c4, y + 400 * (1 + z), by rw [List.length_append]; rfl, by go_num, by omega, by omega, by simp, by simp; omega, Lib.hid (fun e he => by rcases List.mem_append.1 he with h | h; exact HE.out e h; rw [List.mem_singleton.1 h]; omega), HO5, hS5, hT5⟩
        case measure => simp [intOf]; omega
      · go_wp2_with fail
        refine (next_any A n c b _ _ hS3).mono ?_
        rintro e w5 ⟨z, rfl, z0, z1, -, hS5, hd5⟩
        have z1 := z1 (by omega)
        have HO5 := Lib.hid (ownsRow_dr HO.out hd5 hlt)
        have hT5 := hT3.trans hd5
        clear HO hd5 hS3 hT3
        go_wp2_with fail
        go_roundw
        case rel => exact ⟨E, g, cp, y + 400 * (1 + z), rfl, by go_num, by omega, by omega, by omega, by omega, HE, HO5, hS5, hT5⟩
        case measure => simp [intOf]; omega
    · have hrow := HO.out
      go_wp2_with (at_builtin; refine wpList_append_own _ rfl _ _ 30 rfl w.heap.size 2 i0 (.int .i64 0) 1 8 Try.underlying30 hi hz0 hz1 hz2 rfl (by decide) _ _ _ rfl (hrow.alloc _) ⟨wr.heap.size, 0, none⟩ 1 1 [.int .i64 10000] rfl rfl (one_cell_new _ _ _) (by simp [Value.oneCell']) (by unfold maxLen; omega) (by omega) (by simp; omega) ?_; intro v' w4 hown' hgrow _; obtain ⟨hA1, hA2⟩ := Lst.app (x := 10000) (Below.refl _ _) hsz (hrow.alloc _) (by simpa using hown') hgrow; obtain ⟨g4, c4, rfl, hg4a, hg4b, hc4⟩ := Lst.form hA1 (by simp); have HA1 := Lib.hid hA1; have HA2 := Lib.hid hA2; have HC4 := Lib.hid hc4; clear hA1 hA2 hown' hgrow hrow hc4)
      have HE2 : Hid (∀ e ∈ E ++ [10000], 1000 ≤ e ∧ e ≤ 10000) := Lib.hid (fun e he => by rcases List.mem_append.1 he with h | h; exact HE.out e h; rw [List.mem_singleton.1 h]; omega)
      have hS4 := hS3.under HA2.out hlt
      have hT4 := hT3.after HA2.out
      have hF1 : 2 ≤ (E ++ [(10000 : Int)]).length := by simp; omega
      have hF2 : (E ++ [(10000 : Int)]).length ≤ 13 := by simp; omega
      have hF3 : E.length + 1 = (E ++ [(10000 : Int)]).length := by simp
      clear HA1 HO hS3 hT3 HE HA2 hy y1 y0 l0 l1
      rw [hF3]
      obtain ⟨q, hq⟩ : ∃ q, (E ++ [(10000 : Int)]).length = q := ⟨_, rfl⟩
      rw [hq] at hF1 hF2 hF3 ⊢
      have HQ := Lib.hid hq
      clear hq
      generalize E ++ [(10000 : Int)] = F at *
      have hsz4 := hT4.size
      have hb4 : b < w4.heap.size := by omega
      have hgb : g4 ≠ b := by omega
      have HCELL := Lib.hid (fun k x (hx : F[k]? = some x) W (h : Dr b w4 W) => h.cell (a := ⟨g4, k, none⟩) (HC4.out k x hx) hgb)
      have O6 : Hid (Lst3 65 (w4.alloc (.cells #[] 65)) w4.heap.size (.slice (some ⟨w4.heap.size, 0, none⟩) 0 0) []) := Lib.hid (Lst3.new _ _ _ (Nat.le_refl _))
      have S6 := hS4.alloc (.cells #[] 65)
      have T6 : Hid (Dr b w4 (w4.alloc (.cells #[] 65))) := Lib.hid ((Dr.refl b w4).alloc _)
      clear HC4 hS4
      go_wp2_with fail
      generalize w4.alloc (.cells #[] 65) = w6 at *
      go_loopw [5, 6] (fun v i wr => ∃ (k : Nat) (O : List P3), i = .int .i64 k ∧ 1 ≤ k ∧ k = O.length + 1 ∧ k ≤ q ∧ Hid (∀ z ∈ O, PtV z) ∧ Hid (Lst3 65 wr w4.heap.size v O) ∧ Src A n c b wr ∧ Hid (Dr b w4 wr)) (fun _ i _ => q - (intOf i).toNat)
      case atStart => exact ⟨1, [], rfl, by omega, rfl, by omega, Lib.hid (by simp), O6, S6, T6⟩
      case round =>
        obtain ⟨k, O, rfl, k1, hkO, hkF, HPB, HO, hS, HT⟩ := hrel
        clear O6 S6 T6
        have hsw := HT.out.size
        by_cases hkl : k < q
        · obtain ⟨x, hx⟩ := some_at (l := F) (k := k - 1) (by rw [HQ.out]; omega)
          obtain ⟨y, hy⟩ := some_at (l := F) (k := k) (by rw [HQ.out]; exact hkl)
          have hxb := HE2.out x (List.mem_of_getElem? hx)
          have hyb := HE2.out y (List.mem_of_getElem? hy)
          have HK := Lib.hid (fun W (h : Dr b w4 W) => And.intro (HCELL.out _ x hx W h) (HCELL.out _ y hy W h))
          obtain ⟨p0, p1⟩ := HK.out wr HT.out
          have hk2 : (1 : Int) ≤ (k : Int) := by omega
          have hk3 : (k : Int) - 1 < (q : Int) := by omega
          have hk4 : (k : Int) < (q : Int) := by omega
          have hk5 : (0 : Int) ≤ (k : Int) := by omega
          have hwk2 : IntKind.i64.wrap ((k : Int) - 1) = (k : Int) - 1 := IntWalk.i64_in _ (by omega)
          have hAll : AllP StpN (wr.alloc (.cells #[.int .i64 20, .int .i64 50, .int .i64 100, .int .i64 100, .int .i64 200, .int .i64 10] 2)).drew wr.heap.size 6 := allP_alloc StpN wr _ 2 6 [20, 50, 100, 100, 200, 10] rfl rfl (by simp [StpN])
          have hSa := (hS.alloc (.cells #[.int .i64 20, .int .i64 50, .int .i64 100, .int .i64 100, .int .i64 200, .int .i64 10] 2)).drew
          have hlb := hS.lt
          have HOa := Lib.hid (Lst3.below HO.out (Gr.below (show Gr wr ((wr.alloc (.cells #[.int .i64 20, .int .i64 50, .int .i64 100, .int .i64 100, .int .i64 200, .int .i64 10] 2)).drew) from (by repeat (first | with_reducible exact Gr.refl _ | with_reducible refine Gr.alloc ?_ _ | with_reducible refine Gr.gr ?_ _ _ | with_reducible refine Gr.drew ?_ | with_reducible refine Gr.drewN ?_ _)))))
          have HTa := Lib.hid ((HT.out.alloc (.cells #[.int .i64 20, .int .i64 50, .int .i64 100, .int .i64 100, .int .i64 200, .int .i64 10] 2)).drew)
          have HKO := Lib.hid hkO
          have hol : O.length ≤ 12 := by omega
          have hz1 : O.length + 1 ≤ maxLen := by unfold maxLen; omega
          have hz2 : (O.length + 1) * 24 ≤ 140737488355328 := by omega
          clear hx hy hS HQ hkO hkF
          go_wp2_with fail
          go_region_held3 (fun w' => w'.cell? ⟨g4, k - 1, none⟩ = some (.int .i64 x) ∧ w'.cell? ⟨g4, k, none⟩ = some (.int .i64 y)) (first | exact ⟨p0, p1⟩ | exact HK.out _ (by repeat (first | exact HT.out | exact HTa.out | exact HT7.out | exact HT8.out | with_reducible refine Dr.alloc ?_ _ | with_reducible refine Dr.drew ?_)) | fail) (first
            | (go_at_call 46; (with_reducible refine (pick_any StpN A n c b _ 6 6 _ hSa (by omega) (by omega) (by omega) hAll).mono ?_); rintro e w7 ⟨r, rfl, hr, hS7, hd7⟩; have HO7 := Lib.hid (ownsRow_dr HOa.out hd7 hb4); have HT7 := Lib.hid (HTa.out.trans hd7); have hs7 := HT7.out.size; clear hd7)
            | (refine step_append_own rfl _ _ 24 rfl w4.heap.size 65 j0 (.agg #[.int .i64 0, .int .i64 0, .int .i64 0]) 3 24 Try.underlying24 hj hy0 hy1 hy2 rfl (by decide) _ _ _ rfl (HO7.out.alloc _) _ 1 1 [.int .i64 x, .int .i64 y, .int .i64 r] rfl rfl (three_cells_new _ _ _ _ _) (by simp [Value.oneCell']) hz1 hz2 (Nat.le_trans hs7 (by simp)) ?_; intro v' w8 hown' hgrow _; obtain ⟨hA1, hA2⟩ := Lst3.app (Below.refl _ _) hs7 (HO7.out.alloc _) hown' hgrow; have HA1 := Lib.hid hA1; have HT8 := Lib.hid (HT7.out.after hA2); have hS8 := hS7.under hA2 hb4; clear hA1 hA2 hown' hgrow)
            | fail)
          all_goals
            go_wp2
            go_roundw
            case rel => exact ⟨k + 1, O ++ [(x, y, r)], by go_num, by omega, by rw [List.length_append, HKO.out]; rfl, by omega, Lib.hid (fun z hz => by rcases List.mem_append.1 hz with h | h; exact HPB.out z h; rw [List.mem_singleton.1 h]; exact PtV.of hxb hyb hr), HA1, hS8, HT8⟩
            case measure => simp [intOf]; omega
        · go_wp2
          go_ret
          exact ⟨_, O, rfl, by omega, by omega, HPB.out, Lst3.mono HO.out hsz4, hS, hT4.trans HT.out⟩

theorem Row.dr {w w' : World} {b g : Nat} {t : TypeId} {vs : List Value} (h : Row w g t vs) (hd : Dr b w w') (hg : g ≠ b) : Row w' g t vs := (hd.block g h.lt hg).trans h
theorem cells3_set (xs : List P3) (rest : List Value) (k : Nat) (x0 x1 x2 y : Int) (h : xs[k]? = some (x0, x1, x2)) :
    (cells3 xs ++ rest).set (k * 3 + 2) (vi y) = cells3 (xs.set k (x0, x1, y)) ++ rest ∧ (cells3 xs ++ rest).set (k * 3 + 1) (vi y) = cells3 (xs.set k (x0, y, x2)) ++ rest := by
  obtain ⟨hk, e⟩ := List.getElem?_eq_some_iff.1 h
  have hl : (cells3 (xs.take k)).length = k * 3 := by rw [cells3_len, List.length_take, Nat.min_eq_left (by omega)]
  have hx : cells3 xs ++ rest = cells3 (xs.take k) ++ ([vi x0, vi x1, vi x2] ++ (cells3 (xs.drop (k + 1)) ++ rest)) := by
    conv => lhs; rw [← List.take_append_drop k xs, List.drop_eq_getElem_cons hk, e]
    rw [cells3_append, show cells3 ((x0, x1, x2) :: xs.drop (k + 1)) = [vi x0, vi x1, vi x2] ++ cells3 (xs.drop (k + 1)) from rfl]
    simp
  have hs : ∀ p : P3, cells3 (xs.set k p) ++ rest = cells3 (xs.take k) ++ ([vi p.1, vi p.2.1, vi p.2.2] ++ (cells3 (xs.drop (k + 1)) ++ rest)) := by
    intro p
    rw [List.set_eq_take_append_cons_drop, if_pos hk, cells3_append, show cells3 (p :: xs.drop (k + 1)) = [vi p.1, vi p.2.1, vi p.2.2] ++ cells3 (xs.drop (k + 1)) from rfl]
    simp
  rw [hx, hs, hs]
  refine ⟨?_, ?_⟩ <;> (rw [List.set_append_right _ _ (by omega), hl]; simp [show k * 3 + 2 - k * 3 = 2 by omega, show k * 3 + 1 - k * 3 = 1 by omega])
theorem ptb_set {xs : List P3} {k : Nat} {p : P3} (h : ∀ z ∈ xs, PtB z) (hp : PtB p) : ∀ z ∈ xs.set k p, PtB z := fun z hz => by
  rcases List.mem_or_eq_of_mem_set hz with h1 | h1
  · exact h z h1
  · rw [h1]; exact hp
def ToN (x : Int) : Prop := -1 ≤ x ∧ x ≤ 100

set_option maxRecDepth 100000 in
set_option maxHeartbeats 8000000 in
theorem draw7_any (A : Option Addr) (n c b : Nat) (w : World) (hS : Src A n c b w) :
    Calls Try.prog 43 #[.pointer (some ⟨b, 0, none⟩)] w (GotP 0 PtB A n c b w) := by
  have hlt := hS.lt
  go_enter Try.func43, Try.ntmps43
  go_wp2_with fail
  refine (valid7_any A n c b _ hS).mono ?_
  rintro e w1 ⟨v, zs, rfl, l0, l1, HP, hO, hS1, hT1⟩
  rcases Lst3.row hO with ⟨-, h0⟩ | ⟨g, cap, rest, rfl, hg, hr, h1, h2, h3⟩
  · rw [h0] at l0; simp at l0
  obtain ⟨q, hq⟩ : ∃ q, zs.length = q := ⟨_, rfl⟩
  rw [hq] at l0 l1 h1 h3 ⊢
  have HQ := Lib.hid hq
  have hgb : g ≠ b := by omega
  have HRow := Lib.hid (fun W (h : Dr b w1 W) => hr.dr h hgb)
  clear hO hr hq
  go_wp2_with fail
  refine (next_any A n c b _ _ hS1).mono ?_
  rintro e w2 ⟨k, rfl, k0, k1, k2, hS2, hd2⟩
  obtain ⟨k, rfl⟩ := Int.eq_ofNat_of_zero_le k0
  have hk : k < q := by
    by_cases h : (1 : Int) < q
    · have := k1 h; omega
    · have := k2 (by omega); omega
  clear k0 k1 k2
  go_wp2_with fail
  refine (next_any A n c b _ _ hS2).mono ?_
  rintro e w3 ⟨x, rfl, x0, x1, -, hS3, hd3⟩
  have x1 := x1 (by omega)
  have hT3 := hd2.trans hd3
  have hT := hT1.trans hT3
  have hs13 := hT3.size
  obtain ⟨z, hz⟩ := some_at (l := zs) (k := k) (by rw [HQ.out]; exact hk)
  have hzb := HP z (List.mem_of_getElem? hz)
  obtain ⟨z0, z1, z2⟩ := z
  have hzv := hzb.2.1
  have hzB := hzb.b
  simp only at hzv
  have HS := Lib.hid (fun y => cells3_set zs rest k z0 z1 z2 y hz)
  obtain ⟨q0, q1, q2⟩ := cells3_at _ _ _ hz
  have hlen : (cells3 zs).length = q * 3 := by rw [cells3_len, HQ.out]
  have hc1 : (cells3 zs ++ rest)[k * 3 + 1]? = some (vi z1) := by rw [List.getElem?_append_left (by omega)]; exact q1
  have hc2 : (cells3 zs ++ rest)[k * 3 + 2]? = some (vi z2) := by rw [List.getElem?_append_left (by omega)]; exact q2
  have HPS : Hid (∀ z ∈ zs, PtB z) := Lib.hid (fun z hz => (HP z hz).b)
  have HC1 := Lib.hid hc1
  have HC2 := Lib.hid hc2
  clear hz q0 q1 q2 hlen hd2 hd3 hS1 hS2 HP hc1 hc2
  have hx : x = 0 ∨ x = 1 ∨ x = 2 ∨ (((x : Int) == 0) = false ∧ ((x : Int) == 1) = false ∧ ((x : Int) == 2) = false) := by
    by_cases h0 : x = 0
    · exact .inl h0
    · by_cases h1 : x = 1
      · exact .inr (.inl h1)
      · by_cases h2 : x = 2
        · exact .inr (.inr (.inl h2))
        · exact .inr (.inr (.inr ⟨by simp [h0], by simp [h1], by simp [h2]⟩))
  have hkq : (k : Int) < (q : Int) := by omega
  have hk0 : (0 : Int) ≤ (k : Int) := by omega
  rcases hx with rfl | rfl | rfl | ⟨hb0, hb1, hb2⟩
  · clear x0 x1
    go_wp2_with fail
    refine (pick_any StpN A n c b _ 4 4 _ (hS3.alloc _) (by have := hS3.lt; omega) (by omega) (by omega) (allP_alloc StpN w3 _ _ _ [0, 7, 1, -1] rfl rfl (by simp [StpN]))).mono ?_
    rintro e w4 ⟨y, rfl, hy, hS4, hd4⟩
    have hT4 := (hT3.alloc (.cells #[.int .i64 0, .int .i64 7, .int .i64 1, .int .i64 (-1)] 2)).trans hd4
    have hr4 := HRow.out w4 hT4
    have c2 := (hr4.cell (k * 3 + 2)).trans HC2.out
    have f2 := hr4.free (k * 3 + 2)
    have hbl := hS4.lt
    clear hd4
    go_wp2_with fail
    go_ret
    have hr5 := hr4.set (k * 3 + 2) (vi y)
    rw [(HS.out y).1] at hr5
    refine ⟨_, zs.set k (z0, z1, y), rfl, by omega, by rw [List.length_set, HQ.out]; exact l1, ptb_set HPS.out ⟨hzB.1, hzB.2.1, hy⟩, ?_, hS4.far (by show b < g; omega) _, (hT1.trans hT4).setCell (.inr hg) _⟩
    have := Lst3.of_row hg hr5 h2 (by rw [List.length_set, HQ.out]; exact h3)
    rwa [List.length_set, HQ.out] at this
  · clear x0 x1
    have hTa := (hT3.alloc (.cells #[.int .i64 1, .int .i64 (-1), .int .i64 100] 2)).drew
    have cw := ((HRow.out w3 hT3).cell (k * 3 + 1)).trans HC1.out
    have ca := ((HRow.out _ hTa).cell (k * 3 + 1)).trans HC1.out
    have hSa := (hS3.alloc (.cells #[.int .i64 1, .int .i64 (-1), .int .i64 100] 2)).drew
    have hAll : AllP ToN (w3.alloc (.cells #[.int .i64 1, .int .i64 (-1), .int .i64 100] 2)).drew w3.heap.size 3 := allP_alloc ToN w3 _ 2 3 [1, -1, 100] rfl rfl (by simp [ToN])
    have hl3 := hS3.lt
    have hlg : g < (w3.alloc (.cells #[.int .i64 1, .int .i64 (-1), .int .i64 100] 2)).heap.size := by rw [World.size_alloc]; have := (HRow.out w3 hT3).lt; omega
    have hlg2 : g < w3.heap.size := (HRow.out w3 hT3).lt
    go_wp2_with fail
    go_region_with (first | (go_at_call 46; (refine (pick_any ToN A n c b _ 3 3 _ hSa (by omega) (by omega) (by omega) hAll).mono ?_); rintro e w4 ⟨y, rfl, hy, hS4, hd4⟩; have hT4 := hTa.trans hd4; have c4 := ((HRow.out w4 hT4).cell (k * 3 + 1)).trans HC1.out; have f4 := (HRow.out w4 hT4).free (k * 3 + 1); have hlg4 := (HRow.out w4 hT4).lt; have hwr : IntKind.i64.wrap (z1 + y) = z1 + y := IntWalk.i64_in _ (by unfold ToN at hy; omega)) | fail)
    all_goals
      go_wp2
      go_ret
      have hr5 := (HRow.out w4 hT4).set (k * 3 + 1) (vi (z1 + y))
      rw [(HS.out _).2] at hr5
      refine ⟨_, zs.set k (z0, z1 + y, z2), rfl, by omega, by rw [List.length_set, HQ.out]; exact l1, ptb_set HPS.out ⟨hzB.1, ⟨by unfold ToN at hy; simp only; omega, by unfold ToN at hy; simp only; omega⟩, hzB.2.2⟩, ?_, hS4.far (by show b < g; omega) _, (hT1.trans hT4).setCell (.inr hg) _⟩
      have := Lst3.of_row hg hr5 h2 (by rw [List.length_set, HQ.out]; exact h3)
      rwa [List.length_set, HQ.out] at this
  · clear x0 x1
    go_wp2_with fail
    go_ret
    refine ⟨_, zs.take k, rfl, by omega, by rw [List.length_take, HQ.out]; omega, fun z hz => HPS.out z (List.mem_of_mem_take hz), ?_, hS3, hT⟩
    have hr3 := HRow.out w3 hT3
    have e : cells3 zs ++ rest = cells3 (zs.take k) ++ (cells3 (zs.drop k) ++ rest) := by rw [← List.append_assoc, ← cells3_append, List.take_append_drop]
    rw [e] at hr3
    have hl := Lst3.of_row (xs := zs.take k) hg hr3 h2 (by rw [List.length_append, cells3_len, List.length_take, List.length_drop, HQ.out]; omega)
    rwa [List.length_take, HQ.out, Nat.min_eq_left (by omega)] at hl
  · clear x0 x1
    go_wp2_with fail
    go_ret
    refine ⟨_, zs, rfl, by omega, by rw [HQ.out]; exact l1, HPS.out, ?_, hS3, hT⟩
    have := Lst3.of_row hg (HRow.out w3 hT3) h2 (by rw [HQ.out]; exact h3)
    rwa [HQ.out] at this
end Go.Proofs.Ytggflladheemoaa

/- Draws of chapter 7: what its functions are asked. -/
namespace Go.Proofs.Ytggflladheemoaa
open Go.RowKit Go.ChangeShapes Go.WideShapes Go.ChangeAt
set_option linter.unusedVariables false
set_option linter.unusedSimpArgs false

theorem wf_of {x : Int} (h : -1000000 ≤ x ∧ x ≤ 1000000) : (Lit.int .i64 x).wf = true := by
  simp only [Lit.wf, Bool.and_eq_true, decide_eq_true_eq]
  have h1 : (-9223372036854775808 : Int) ≤ x := by omega
  have h2 : x ≤ (9223372036854775807 : Int) := by omega
  exact ⟨h1, h2⟩
theorem ptb_wf {zs : List P3} (h : ∀ z ∈ zs, PtB z) : Wf3 zs := fun z hz => by
  obtain ⟨h1, h2, h3⟩ := h z hz
  exact ⟨wf_of (by omega), wf_of (by omega), wf_of (by omega)⟩
def NumN (x : Int) : Prop := -100000 ≤ x ∧ x ≤ 200000
/-- A drawn graduation; with a number; with two. -/
def OneP (w : World) (e : Ending) (w' : World) : Prop := ∃ v zs, e = .returned v ∧ zs.length ≤ 12 ∧ (∀ z ∈ zs, PtB z) ∧ Lst3 65 w' w.heap.size v zs ∧ Below w.heap.size w w'
def OneP1 (w : World) (e : Ending) (w' : World) : Prop := ∃ v zs x, e = .returned (.tuple #[v, .int .i64 x]) ∧ zs.length ≤ 12 ∧ (∀ z ∈ zs, PtB z) ∧ NumN x ∧ Lst3 65 w' w.heap.size v zs ∧ Below w.heap.size w w'
def OneP2 (w : World) (e : Ending) (w' : World) : Prop := ∃ v zs x y, e = .returned (.tuple #[v, .int .i64 x, .int .i64 y]) ∧ zs.length ≤ 12 ∧ (∀ z ∈ zs, PtB z) ∧ NumN x ∧ NumN y ∧ Lst3 65 w' w.heap.size v zs ∧ Below w.heap.size w w'

theorem drawCM_any (A : Option Addr) (n c : Nat) (w : World) (hn : n ≤ 4611686018427387904) (hB : Bytes w w.heap.size A n) :
    Calls Try.prog 8 #[.slice A n c] w (OneP w) := by
  go_enter Try.func8, Try.ntmps8
  go_wp2_with fail
  refine (from_any A n c w hn hB).mono ?_
  rintro e w1 ⟨b, rfl, hb, hS1, hl1⟩
  go_wp2_with fail
  refine (draw7_any A n c b _ hS1).mono ?_
  rintro e w2 ⟨v, zs, rfl, -, l1, hP, hO, hS2, hT2⟩
  go_wp2_with fail
  go_ret
  exact ⟨v, zs, rfl, l1, hP, Lst3.mono hO hl1.size, hl1.trans (hT2.below hb hl1.size)⟩
set_option maxHeartbeats 2000000 in
theorem drawMO_any (A : Option Addr) (n c : Nat) (w : World) (hn : n ≤ 4611686018427387904) (hB : Bytes w w.heap.size A n) :
    Calls Try.prog 11 #[.slice A n c] w (OneP2 w) := by
  go_enter Try.func11, Try.ntmps11
  go_wp2_with fail
  refine (from_any A n c w hn hB).mono ?_
  rintro e w1 ⟨b, rfl, hb, hS1, hl1⟩
  have lb := hS1.lt
  go_wp2_with fail
  refine (draw7_any A n c b _ hS1).mono ?_
  rintro e w2 ⟨v, zs, rfl, -, l1, hP, hO, hS2, hT2⟩
  have HO := Lib.hid hO
  have HP := Lib.hid hP
  clear hO hP
  go_wp2_with fail
  refine (next_any A n c b _ _ hS2).mono ?_
  rintro e w3 ⟨x, rfl, x0, x1, -, hS3, hd3⟩
  have x1 := x1 (by omega)
  go_wp2_with fail
  refine (pick_any NumN A n c b _ 4 4 _ (hS3.alloc _) (by have := hS3.lt; omega) (by omega) (by omega) (allP_alloc NumN w3 _ _ _ [1000 + x, 1000 + x, 999, 1000] rfl rfl (by simp [NumN]; omega))).mono ?_
  rintro e w4 ⟨y, rfl, hy, hS4, hd4⟩
  have hT4 := (hd3.alloc (.cells #[.int .i64 (1000 + x), .int .i64 (1000 + x), .int .i64 999, .int .i64 1000] 2)).trans hd4
  clear hd3 hd4
  go_wp2_with fail
  refine (pick_any NumN A n c b _ 5 5 _ (hS4.alloc _) (by have := hS4.lt; omega) (by omega) (by omega) (allP_alloc NumN w4 _ _ _ [1000 + x + 500, 1000 + x + 2000, 9999, 10000, 1000 + x - 1] rfl rfl (by simp [NumN]; omega))).mono ?_
  rintro e w5 ⟨z, rfl, hz, hS5, hd5⟩
  have hT5 := hT4.trans ((Dr.alloc (Dr.refl b w4) (.cells #[.int .i64 (1000 + x + 500), .int .i64 (1000 + x + 2000), .int .i64 9999, .int .i64 10000, .int .i64 (1000 + x - 1)] 2)).trans hd5)
  clear hT4 hd5
  have HO5 := Lib.hid (Lst3.mono (ownsRow_dr HO.out hT5 lb) hl1.size)
  go_wp2_with fail
  ((try simp only [Exit.inBlock, Exit.then]); refine bodyPost_ret (v := .tuple #[v, .int .i64 y, .int .i64 z]) (by simp [results, Try.results11, go_sem]) rfl ?_)
  exact ⟨v, zs, y, z, rfl, l1, HP.out, hy, hz, HO5.out, hl1.trans ((hT2.trans hT5).below hb hl1.size)⟩
set_option maxHeartbeats 2000000 in
theorem drawIM_any (A : Option Addr) (n c : Nat) (w : World) (hn : n ≤ 4611686018427387904) (hB : Bytes w w.heap.size A n) :
    Calls Try.prog 17 #[.slice A n c] w (OneP1 w) := by
  go_enter Try.func17, Try.ntmps17
  go_wp2_with fail
  refine (from_any A n c w hn hB).mono ?_
  rintro e w1 ⟨b, rfl, hb, hS1, hl1⟩
  have lb := hS1.lt
  go_wp2_with fail
  refine (draw7_any A n c b _ hS1).mono ?_
  rintro e w2 ⟨v, zs, rfl, -, l1, hP, hO, hS2, hT2⟩
  have HO := Lib.hid hO
  have HP := Lib.hid hP
  clear hO hP
  go_wp2_with fail
  refine (next_any A n c b _ _ hS2).mono ?_
  rintro e w3 ⟨x, rfl, x0, x1, -, hS3, hd3⟩
  have x1 := x1 (by omega)
  go_wp2_with fail
  refine (next_any A n c b _ _ hS3).mono ?_
  rintro e w4 ⟨y, rfl, y0, y1, -, hS4, hd4⟩
  have y1 := y1 (by omega)
  go_wp2_with fail
  refine (pick_any NumN A n c b _ 5 5 _ (hS4.alloc _) (by have := hS4.lt; omega) (by omega) (by omega) (allP_alloc NumN w4 _ _ _ [1000 + 10 * x, 1000 + 100 * y, 9999, 10000, 999] rfl rfl (by simp [NumN]; omega))).mono ?_
  rintro e w5 ⟨z, rfl, hz, hS5, hd5⟩
  have hT5 := ((hd3.trans hd4).alloc (.cells #[.int .i64 (1000 + 10 * x), .int .i64 (1000 + 100 * y), .int .i64 9999, .int .i64 10000, .int .i64 999] 2)).trans hd5
  clear hd3 hd4 hd5
  have HO5 := Lib.hid (Lst3.mono (ownsRow_dr HO.out hT5 lb) hl1.size)
  go_wp2_with fail
  ((try simp only [Exit.inBlock, Exit.then]); refine bodyPost_ret (v := .tuple #[v, .int .i64 z]) (by simp [results, Try.results17, go_sem]) rfl ?_)
  exact ⟨v, zs, z, rfl, l1, HP.out, hz, HO5.out, hl1.trans ((hT2.trans hT5).below hb hl1.size)⟩
set_option maxHeartbeats 2000000 in
theorem drawNM_any (A : Option Addr) (n c : Nat) (w : World) (hn : n ≤ 4611686018427387904) (hB : Bytes w w.heap.size A n) :
    Calls Try.prog 14 #[.slice A n c] w (OneP1 w) := by
  go_enter Try.func14, Try.ntmps14
  go_wp2_with fail
  refine (from_any A n c w hn hB).mono ?_
  rintro e w1 ⟨b, rfl, hb, hS1, hl1⟩
  have lb := hS1.lt
  go_wp2_with fail
  refine (draw7_any A n c b _ hS1).mono ?_
  rintro e w2 ⟨v, zs, rfl, -, l1, hP, hO, hS2, hT2⟩
  have HO := Lib.hid hO
  have HP := Lib.hid hP
  clear hO hP
  go_wp2_with fail
  refine (next_any A n c b _ _ hS2).mono ?_
  rintro e w3 ⟨x, rfl, x0, x1, -, hS3, hd3⟩
  have x1 := x1 (by omega)
  go_wp2_with fail
  refine (next_any A n c b _ _ hS3).mono ?_
  rintro e w4 ⟨y, rfl, y0, y1, -, hS4, hd4⟩
  have y1 := y1 (by omega)
  go_wp2_with fail
  refine (pick_any NumN A n c b _ 6 6 _ (hS4.alloc _) (by have := hS4.lt; omega) (by omega) (by omega) (allP_alloc NumN w4 _ _ _ [1000 + x, 1000 + 10 * y, 1000, 9999, 10000, 999] rfl rfl (by simp [NumN]; omega))).mono ?_
  rintro e w5 ⟨z, rfl, hz, hS5, hd5⟩
  have hT5 := ((hd3.trans hd4).alloc (.cells #[.int .i64 (1000 + x), .int .i64 (1000 + 10 * y), .int .i64 1000, .int .i64 9999, .int .i64 10000, .int .i64 999] 2)).trans hd5
  clear hd3 hd4 hd5
  have HO5 := Lib.hid (Lst3.mono (ownsRow_dr HO.out hT5 lb) hl1.size)
  go_wp2_with fail
  ((try simp only [Exit.inBlock, Exit.then]); refine bodyPost_ret (v := .tuple #[v, .int .i64 z]) (by simp [results, Try.results14, go_sem]) rfl ?_)
  exact ⟨v, zs, z, rfl, l1, HP.out, hz, HO5.out, hl1.trans ((hT2.trans hT5).below hb hl1.size)⟩
end Go.Proofs.Ytggflladheemoaa

/- Draws of chapter 8: ticks. -/
namespace Go.Proofs.Ytggflladheemoaa
open Go.RowKit Go.Shelf Go.ChangeShapes Go.WideShapes Go.ChangeAt
set_option linter.unusedVariables false
set_option linter.unusedSimpArgs false

/-- Drawn ticks. -/
def GotT (A : Option Addr) (n c b : Nat) (w : World) (e : Ending) (w' : World) : Prop :=
  ∃ v zs, e = .returned v ∧ zs.length ≤ 151 ∧ LstT w' w.heap.size v zs ∧ Src A n c b w' ∧ Dr b w w'
theorem flat_zero : ∀ j : Nat, (List.replicate j ((0, 0, 0) : P3)).flatMap cl3 = List.replicate (j * 3) (vi 0)
  | 0 => rfl
  | j + 1 => by
    rw [List.replicate_succ, List.flatMap_cons, flat_zero j, Nat.succ_mul, Nat.add_comm (j * 3) 3, ← List.replicate_append_replicate]
    rfl
theorem toL_len0 (zs : List P3) (s l f t : Int) : (toL zs s l f t).length ≤ 150 := by
  unfold toL
  split
  · rename_i h
    rw [toF_len]
    unfold toE at h
    split at h
    · omega
    split at h
    · omega
    split at h
    · omega
    · omega
  · simp

set_option maxRecDepth 100000 in
set_option maxHeartbeats 8000000 in
theorem draw8_any (A : Option Addr) (n c b : Nat) (w : World) (hS : Src A n c b w) :
    Calls Try.prog 54 #[.pointer (some ⟨b, 0, none⟩)] w (GotT A n c b w) := by
  obtain ⟨i0, hi, hz0, hz1, hz2⟩ := info_parts info_tick
  have hlt := hS.lt
  have O1 : LstT (w.alloc (.cells #[] 51)) w.heap.size (.slice (some ⟨w.heap.size, 0, none⟩) 0 0) [] := LstG.new _ _ _ (Nat.le_refl _)
  go_enter Try.func54, Try.ntmps54
  go_wp2_with fail
  refine (next_any A n c b _ _ (hS.alloc _)).mono ?_
  rintro e w2 ⟨x, rfl, x0, x1, -, hS2, hd2⟩
  have x1 := x1 (by omega)
  have O2 := Lib.hid (ownsRow_dr O1 hd2 hlt)
  have hT2 := ((Dr.refl b w).alloc (.cells #[] 51)).trans hd2
  clear O1 hd2 hS
  by_cases hx : x = 0
  · subst hx
    clear x0 x1
    go_wp2_with fail
    refine (valid7_any A n c b _ hS2).mono ?_
    rintro e w3 ⟨v7, z7, rfl, -, l7, -, hO7, hS3, hd3⟩
    obtain ⟨A7, c7, rfl, R7⟩ := Lst3.slice hO7
    obtain ⟨n7, hn7⟩ : ∃ q, z7.length = q := ⟨_, rfl⟩
    rw [hn7] at l7 ⊢
    have HN7 := Lib.hid hn7
    have hlb := hS3.lt
    have hR7 := hO7.lt
    go_wp2_with fail
    refine (next_any A n c b _ _ hS3).mono ?_
    rintro e w4 ⟨y, rfl, y0, y1, -, hS4, hd4⟩
    have y1 := y1 (by omega)
    have R4 := (Lst3.slice (ownsRow_dr hO7 hd4 (show b < w2.heap.size by have := hT2.size; omega)))
    obtain ⟨A8, c8, e8, R8⟩ := R4
    rw [hn7] at e8
    injection e8 with e81 e82 e83
    subst e81
    have hT4 := hT2.trans (hd3.trans hd4)
    have O4 := ownsRow_dr O2.out (hd3.trans hd4) hlt
    clear hO7 hd3 hd4 hS3 R7 hn7 hR7 O2
    go_wp2_with fail
    refine (to_spec A7 n7 _ z7 0 25000 (1000 + 100 * y) 9999 _ HN7.out (by omega) R8).mono ?_
    have hlen := toL_len0 z7 0 25000 (1000 + 100 * y) 9999
    generalize toE z7 0 25000 (1000 + 100 * y) 9999 = ce at *
    generalize toL z7 0 25000 (1000 + 100 * y) 9999 = TL at *
    rintro e w5 ⟨⟨v, rfl, hv⟩, hb⟩
    have hs4 := hT4.size
    have hSs := hS4.under hb hS4.lt
    have hTs := hT4.after (hb.mono hs4)
    have HOs := Lib.hid (LstG.below O4 hb)
    clear hS4 hT4 O4 R8
    by_cases hce : ce = 0
    · subst hce
      by_cases hTL : 40 < TL.length
      · rcases LstG.row hv with ⟨-, h0⟩ | ⟨g, cap, rest, rfl, hB, hr, h1, h2, h3⟩
        · rw [h0] at hTL; simp at hTL
        obtain ⟨q, hq⟩ : ∃ q, TL.length = q := ⟨_, rfl⟩
        rw [hq] at hTL hlen h1 h3 ⊢
        have HQ := Lib.hid hq
        have HR := Lib.hid hr
        have h40 : (40 : Int) < (q : Int) := by omega
        have h41 : 40 ≤ cap := by omega
        clear hv hr hq
        go_wp2_with fail
        go_ret
        refine ⟨_, TL.take 40, rfl, by rw [List.length_take]; omega, ?_, hSs, hTs⟩
        have hr3 := HR.out
        have e : TL.flatMap cl3 ++ rest = (TL.take 40).flatMap cl3 ++ ((TL.drop 40).flatMap cl3 ++ rest) := by rw [← List.append_assoc, ← List.flatMap_append, List.take_append_drop]
        rw [e] at hr3
        have hl := LstG.of_row (xs := TL.take 40) cl3_len (show w.heap.size ≤ g by omega) hr3 h2 (by rw [List.length_take]; omega) (by rw [List.length_append, flat_len cl3_len, List.length_take, List.length_drop, HQ.out]; omega)
        rwa [List.length_take, HQ.out, Nat.min_eq_left (by omega)] at hl
      · obtain ⟨A9, c9, rfl, -⟩ := LstG.slice hv
        obtain ⟨q, hq⟩ : ∃ q, TL.length = q := ⟨_, rfl⟩
        rw [hq] at hTL hlen ⊢
        have h40 : decide ((40 : Int) < (q : Int)) = false := decide_eq_false (by omega)
        clear hv hq hb
        go_wp2_with fail
        refine (next_any A n c b _ _ hSs).mono ?_
        rintro e w6 ⟨m, rfl, m0, m1, -, S6, d6⟩
        have m1 := m1 (by omega)
        obtain ⟨m, rfl⟩ := Int.eq_ofNat_of_zero_le m0
        have O6 := Lib.hid (ownsRow_dr HOs.out d6 hlt)
        have T6 := hTs.trans d6
        clear HOs hSs hTs d6
        go_wp2_with fail
        go_loopw [3, 6] (fun v i wr => ∃ (k : Nat) (zs : List P3), i = .int .i64 k ∧ k + zs.length ≤ 12 ∧ Hid (LstT wr w.heap.size v zs) ∧ Src A n c b wr ∧ Dr b w wr) (fun _ i _ => (intOf i).toNat)
        case atStart => exact ⟨m, [], rfl, by simp; omega, O6, S6, T6⟩
        case round =>
          obtain ⟨k, zs, rfl, hk, HO, hS, hT⟩ := hrel
          clear O6 S6 T6
          have hsz := hT.size
          by_cases hlk : 0 < k
          · go_wp2_with fail
            refine (next_any A n c b _ _ hS).mono ?_
            rintro e w7 ⟨x, rfl, x0, x1, -, hS7, hd7⟩
            have x1 := x1 (by omega)
            go_wp2_with fail
            refine (next_any A n c b _ _ hS7).mono ?_
            rintro e w8 ⟨y, rfl, y0, y1, -, hS8, hd8⟩
            have y1 := y1 (by omega)
            go_wp2_with fail
            refine (next_any A n c b _ _ hS8).mono ?_
            rintro e w9 ⟨z, rfl, z0, z1, -, hS9, hd9⟩
            have z1 := z1 (by omega)
            have hT9 := hT.trans (hd7.trans (hd8.trans hd9))
            have HO9 := Lib.hid (ownsRow_dr HO.out (hd7.trans (hd8.trans hd9)) hlt)
            have hs9 := hT9.size
            clear hd7 hd8 hd9 hS hT HO hS7 hS8
            go_wp2_with (at_builtin; refine wpList_append_own _ rfl _ _ 40 rfl w.heap.size 51 i0 (.agg #[.int .i64 0, .int .i64 0, .int .i64 0]) 3 24 Try.underlying40 hi hz0 hz1 hz2 rfl (by decide) _ _ _ rfl (HO9.out.alloc _) ⟨w9.heap.size, 0, none⟩ 1 1 [.int .i64 (1000 + x), .int .i64 y, .int .i64 z] rfl rfl (three_cells_new _ _ _ _ _) (by simp [Value.oneCell']) (by unfold maxLen; omega) (by omega) (by simp; omega) ?_; intro v' w4 hown' hgrow _; obtain ⟨hA1, hA2⟩ := Lst3.app (Below.refl _ _) hs9 (HO9.out.alloc _) hown' hgrow; have HA1 : Hid (LstT w4 w.heap.size v' (zs ++ [(1000 + x, y, z)])) := Lib.hid hA1; have hS4 := hS9.under hA2 hlt; have hT4 := hT9.after hA2; clear hA1 hA2 hown' hgrow)
            go_wp2_with fail
            go_roundw
            case rel => exact ⟨k - 1, zs ++ [(1000 + x, y, z)], by go_num, by rw [List.length_append]; simp; omega, HA1, hS4, hT4⟩
            case measure => simp [intOf]; omega
          · obtain rfl : k = 0 := by omega
            go_wp2_with fail
            refine (next_any A n c b _ _ hS).mono ?_
            rintro e w7 ⟨q, rfl, q0, q1, -, hS7, hd7⟩
            have q1 := q1 (by omega)
            have hT7 := hT.trans hd7
            have HO7 := Lib.hid (ownsRow_dr HO.out hd7 hlt)
            have hs7 := hT7.size
            clear hd7 hS hT HO
            have hq : q = 0 ∨ q = 1 ∨ (((q : Int) == 0) = false ∧ ((q : Int) == 1) = false) := by
              by_cases h0 : q = 0
              · exact .inl h0
              · by_cases h1 : q = 1
                · exact .inr (.inl h1)
                · exact .inr (.inr ⟨by simp [h0], by simp [h1]⟩)
            rcases hq with rfl | rfl | ⟨hb0, hb1⟩
            · clear q0 q1
              go_wp2_with fail
              refine (next_any A n c b _ _ hS7).mono ?_
              rintro e w8 ⟨y, rfl, y0, y1, -, hS8, hd8⟩
              have y1 := y1 (by omega)
              have hT8 := hT7.trans hd8
              obtain ⟨j, hj⟩ : ∃ j : Nat, (150 : Int) + y = j := ⟨(150 + y).toNat, by omega⟩
              have hj2 : j ≤ 151 := by omega
              have hmk := mkTicks j (by omega)
              have q1 : IntKind.i64.wrap (150 + y) = j := by rw [hj]; exact IntWalk.i64_in _ (by omega)
              go_wp2_with fail
              go_ret
              refine ⟨_, List.replicate j (0, 0, 0), rfl, by rw [List.length_replicate]; exact hj2, ?_, hS8.alloc _, hT8.alloc _⟩
              have hr := Row.new w8 51 (List.replicate (j * 3) (vi 0))
              have hr2 : Row (w8.alloc (.cells (Array.replicate (j * 3) (vi 0)) 51)) w8.heap.size 51 ((List.replicate j ((0, 0, 0) : P3)).flatMap cl3) := by rw [flat_zero]; simpa using hr
              have := LstG.of_row (cl := cl3) (m := 3) (cap := j) (rest := []) cl3_len hT8.size (by rw [List.append_nil]; exact hr2) (by unfold maxLen; omega) (by rw [List.length_replicate]; exact Nat.le_refl _) (by rw [List.length_replicate]; rfl)
              rwa [List.length_replicate] at this
            · clear q0 q1
              go_wp2_with fail
              refine (pick_any (fun _ => True) A n c b _ 3 3 _ (hS7.alloc _) (by have := hS7.lt; omega) (by omega) (by omega) (allP_alloc (fun _ => True) w7 _ _ _ [1000000000000, 1000000000001, -1000000000001] rfl rfl (fun _ _ => trivial))).mono ?_
              rintro e w8 ⟨y, rfl, -, hS8, hd8⟩
              have hT8 := (Dr.alloc (Dr.refl b w7) (.cells #[.int .i64 1000000000000, .int .i64 1000000000001, .int .i64 (-1000000000001)] 2)).trans hd8
              clear hd8
              go_wp2_with fail
              refine (next_any A n c b _ _ hS8).mono ?_
              rintro e w9 ⟨z, rfl, z0, z1, -, hS9, hd9⟩
              have z1 := z1 (by omega)
              have hTT := hT8.trans hd9
              have hT9 := hT7.trans hTT
              have HO9 := Lib.hid (ownsRow_dr HO7.out hTT hlt)
              have hs9 := hT9.size
              clear hd9 hS7 hT7 hT8 hTT HO7 hS8
              go_wp2_with (at_builtin; refine wpList_append_own _ rfl _ _ 40 rfl w.heap.size 51 i0 (.agg #[.int .i64 0, .int .i64 0, .int .i64 0]) 3 24 Try.underlying40 hi hz0 hz1 hz2 rfl (by decide) _ _ _ rfl (HO9.out.alloc _) ⟨w9.heap.size, 0, none⟩ 1 1 [.int .i64 0, .int .i64 y, .int .i64 (z - 1)] rfl rfl (three_cells_new _ _ _ _ _) (by simp [Value.oneCell']) (by unfold maxLen; omega) (by omega) (by simp; omega) ?_; intro v' w4 hown' hgrow _; obtain ⟨hA1, hA2⟩ := Lst3.app (Below.refl _ _) hs9 (HO9.out.alloc _) hown' hgrow; have HA1 : Hid (LstT w4 w.heap.size v' (zs ++ [(0, y, z - 1)])) := Lib.hid hA1; have hS4 := hS9.under hA2 hlt; have hT4 := hT9.after hA2; clear hA1 hA2 hown' hgrow)
              go_ret
              exact ⟨_, zs ++ [(0, y, z - 1)], rfl, by rw [List.length_append]; simp; omega, HA1.out, hS4, hT4⟩
            · go_wp2_with fail
              go_ret
              exact ⟨_, zs, rfl, by omega, HO7.out, hS7, hT7⟩
    · have hce0 : (ce == 0) = false := by simpa using hce
      clear hv hb
      go_wp2_with fail
      refine (next_any A n c b _ _ hSs).mono ?_
      rintro e w6 ⟨m, rfl, m0, m1, -, S6, d6⟩
      have m1 := m1 (by omega)
      obtain ⟨m, rfl⟩ := Int.eq_ofNat_of_zero_le m0
      have O6 := Lib.hid (ownsRow_dr HOs.out d6 hlt)
      have T6 := hTs.trans d6
      clear HOs hSs hTs d6
      go_wp2_with fail
      go_loopw [3, 6] (fun v i wr => ∃ (k : Nat) (zs : List P3), i = .int .i64 k ∧ k + zs.length ≤ 12 ∧ Hid (LstT wr w.heap.size v zs) ∧ Src A n c b wr ∧ Dr b w wr) (fun _ i _ => (intOf i).toNat)
      case atStart => exact ⟨m, [], rfl, by simp; omega, O6, S6, T6⟩
      case round =>
        obtain ⟨k, zs, rfl, hk, HO, hS, hT⟩ := hrel
        clear O6 S6 T6
        have hsz := hT.size
        by_cases hlk : 0 < k
        · go_wp2_with fail
          refine (next_any A n c b _ _ hS).mono ?_
          rintro e w7 ⟨x, rfl, x0, x1, -, hS7, hd7⟩
          have x1 := x1 (by omega)
          go_wp2_with fail
          refine (next_any A n c b _ _ hS7).mono ?_
          rintro e w8 ⟨y, rfl, y0, y1, -, hS8, hd8⟩
          have y1 := y1 (by omega)
          go_wp2_with fail
          refine (next_any A n c b _ _ hS8).mono ?_
          rintro e w9 ⟨z, rfl, z0, z1, -, hS9, hd9⟩
          have z1 := z1 (by omega)
          have hT9 := hT.trans (hd7.trans (hd8.trans hd9))
          have HO9 := Lib.hid (ownsRow_dr HO.out (hd7.trans (hd8.trans hd9)) hlt)
          have hs9 := hT9.size
          clear hd7 hd8 hd9 hS hT HO hS7 hS8
          go_wp2_with (at_builtin; refine wpList_append_own _ rfl _ _ 40 rfl w.heap.size 51 i0 (.agg #[.int .i64 0, .int .i64 0, .int .i64 0]) 3 24 Try.underlying40 hi hz0 hz1 hz2 rfl (by decide) _ _ _ rfl (HO9.out.alloc _) ⟨w9.heap.size, 0, none⟩ 1 1 [.int .i64 (1000 + x), .int .i64 y, .int .i64 z] rfl rfl (three_cells_new _ _ _ _ _) (by simp [Value.oneCell']) (by unfold maxLen; omega) (by omega) (by simp; omega) ?_; intro v' w4 hown' hgrow _; obtain ⟨hA1, hA2⟩ := Lst3.app (Below.refl _ _) hs9 (HO9.out.alloc _) hown' hgrow; have HA1 : Hid (LstT w4 w.heap.size v' (zs ++ [(1000 + x, y, z)])) := Lib.hid hA1; have hS4 := hS9.under hA2 hlt; have hT4 := hT9.after hA2; clear hA1 hA2 hown' hgrow)
          go_wp2_with fail
          go_roundw
          case rel => exact ⟨k - 1, zs ++ [(1000 + x, y, z)], by go_num, by rw [List.length_append]; simp; omega, HA1, hS4, hT4⟩
          case measure => simp [intOf]; omega
        · obtain rfl : k = 0 := by omega
          go_wp2_with fail
          refine (next_any A n c b _ _ hS).mono ?_
          rintro e w7 ⟨q, rfl, q0, q1, -, hS7, hd7⟩
          have q1 := q1 (by omega)
          have hT7 := hT.trans hd7
          have HO7 := Lib.hid (ownsRow_dr HO.out hd7 hlt)
          have hs7 := hT7.size
          clear hd7 hS hT HO
          have hq : q = 0 ∨ q = 1 ∨ (((q : Int) == 0) = false ∧ ((q : Int) == 1) = false) := by
            by_cases h0 : q = 0
            · exact .inl h0
            · by_cases h1 : q = 1
              · exact .inr (.inl h1)
              · exact .inr (.inr ⟨by simp [h0], by simp [h1]⟩)
          rcases hq with rfl | rfl | ⟨hb0, hb1⟩
          · clear q0 q1
            go_wp2_with fail
            refine (next_any A n c b _ _ hS7).mono ?_
            rintro e w8 ⟨y, rfl, y0, y1, -, hS8, hd8⟩
            have y1 := y1 (by omega)
            have hT8 := hT7.trans hd8
            obtain ⟨j, hj⟩ : ∃ j : Nat, (150 : Int) + y = j := ⟨(150 + y).toNat, by omega⟩
            have hj2 : j ≤ 151 := by omega
            have hmk := mkTicks j (by omega)
            have q1 : IntKind.i64.wrap (150 + y) = j := by rw [hj]; exact IntWalk.i64_in _ (by omega)
            go_wp2_with fail
            go_ret
            refine ⟨_, List.replicate j (0, 0, 0), rfl, by rw [List.length_replicate]; exact hj2, ?_, hS8.alloc _, hT8.alloc _⟩
            have hr := Row.new w8 51 (List.replicate (j * 3) (vi 0))
            have hr2 : Row (w8.alloc (.cells (Array.replicate (j * 3) (vi 0)) 51)) w8.heap.size 51 ((List.replicate j ((0, 0, 0) : P3)).flatMap cl3) := by rw [flat_zero]; simpa using hr
            have := LstG.of_row (cl := cl3) (m := 3) (cap := j) (rest := []) cl3_len hT8.size (by rw [List.append_nil]; exact hr2) (by unfold maxLen; omega) (by rw [List.length_replicate]; exact Nat.le_refl _) (by rw [List.length_replicate]; rfl)
            rwa [List.length_replicate] at this
          · clear q0 q1
            go_wp2_with fail
            refine (pick_any (fun _ => True) A n c b _ 3 3 _ (hS7.alloc _) (by have := hS7.lt; omega) (by omega) (by omega) (allP_alloc (fun _ => True) w7 _ _ _ [1000000000000, 1000000000001, -1000000000001] rfl rfl (fun _ _ => trivial))).mono ?_
            rintro e w8 ⟨y, rfl, -, hS8, hd8⟩
            have hT8 := (Dr.alloc (Dr.refl b w7) (.cells #[.int .i64 1000000000000, .int .i64 1000000000001, .int .i64 (-1000000000001)] 2)).trans hd8
            clear hd8
            go_wp2_with fail
            refine (next_any A n c b _ _ hS8).mono ?_
            rintro e w9 ⟨z, rfl, z0, z1, -, hS9, hd9⟩
            have z1 := z1 (by omega)
            have hTT := hT8.trans hd9
            have hT9 := hT7.trans hTT
            have HO9 := Lib.hid (ownsRow_dr HO7.out hTT hlt)
            have hs9 := hT9.size
            clear hd9 hS7 hT7 hT8 hTT HO7 hS8
            go_wp2_with (at_builtin; refine wpList_append_own _ rfl _ _ 40 rfl w.heap.size 51 i0 (.agg #[.int .i64 0, .int .i64 0, .int .i64 0]) 3 24 Try.underlying40 hi hz0 hz1 hz2 rfl (by decide) _ _ _ rfl (HO9.out.alloc _) ⟨w9.heap.size, 0, none⟩ 1 1 [.int .i64 0, .int .i64 y, .int .i64 (z - 1)] rfl rfl (three_cells_new _ _ _ _ _) (by simp [Value.oneCell']) (by unfold maxLen; omega) (by omega) (by simp; omega) ?_; intro v' w4 hown' hgrow _; obtain ⟨hA1, hA2⟩ := Lst3.app (Below.refl _ _) hs9 (HO9.out.alloc _) hown' hgrow; have HA1 : Hid (LstT w4 w.heap.size v' (zs ++ [(0, y, z - 1)])) := Lib.hid hA1; have hS4 := hS9.under hA2 hlt; have hT4 := hT9.after hA2; clear hA1 hA2 hown' hgrow)
            go_ret
            exact ⟨_, zs ++ [(0, y, z - 1)], rfl, by rw [List.length_append]; simp; omega, HA1.out, hS4, hT4⟩
          · go_wp2_with fail
            go_ret
            exact ⟨_, zs, rfl, by omega, HO7.out, hS7, hT7⟩
  · have hx1 : x = 1 := by omega
    subst hx1
    clear x0 x1 hx
    have hSs := hS2
    have hTs := hT2
    have HOs := O2
    clear hS2 hT2 O2
    go_wp2_with fail
    refine (next_any A n c b _ _ hSs).mono ?_
    rintro e w6 ⟨m, rfl, m0, m1, -, S6, d6⟩
    have m1 := m1 (by omega)
    obtain ⟨m, rfl⟩ := Int.eq_ofNat_of_zero_le m0
    have O6 := Lib.hid (ownsRow_dr HOs.out d6 hlt)
    have T6 := hTs.trans d6
    clear HOs hSs hTs d6
    go_wp2_with fail
    go_loopw [3, 6] (fun v i wr => ∃ (k : Nat) (zs : List P3), i = .int .i64 k ∧ k + zs.length ≤ 12 ∧ Hid (LstT wr w.heap.size v zs) ∧ Src A n c b wr ∧ Dr b w wr) (fun _ i _ => (intOf i).toNat)
    case atStart => exact ⟨m, [], rfl, by simp; omega, O6, S6, T6⟩
    case round =>
      obtain ⟨k, zs, rfl, hk, HO, hS, hT⟩ := hrel
      clear O6 S6 T6
      have hsz := hT.size
      by_cases hlk : 0 < k
      · go_wp2_with fail
        refine (next_any A n c b _ _ hS).mono ?_
        rintro e w7 ⟨x, rfl, x0, x1, -, hS7, hd7⟩
        have x1 := x1 (by omega)
        go_wp2_with fail
        refine (next_any A n c b _ _ hS7).mono ?_
        rintro e w8 ⟨y, rfl, y0, y1, -, hS8, hd8⟩
        have y1 := y1 (by omega)
        go_wp2_with fail
        refine (next_any A n c b _ _ hS8).mono ?_
        rintro e w9 ⟨z, rfl, z0, z1, -, hS9, hd9⟩
        have z1 := z1 (by omega)
        have hT9 := hT.trans (hd7.trans (hd8.trans hd9))
        have HO9 := Lib.hid (ownsRow_dr HO.out (hd7.trans (hd8.trans hd9)) hlt)
        have hs9 := hT9.size
        clear hd7 hd8 hd9 hS hT HO hS7 hS8
        go_wp2_with (at_builtin; refine wpList_append_own _ rfl _ _ 40 rfl w.heap.size 51 i0 (.agg #[.int .i64 0, .int .i64 0, .int .i64 0]) 3 24 Try.underlying40 hi hz0 hz1 hz2 rfl (by decide) _ _ _ rfl (HO9.out.alloc _) ⟨w9.heap.size, 0, none⟩ 1 1 [.int .i64 (1000 + x), .int .i64 y, .int .i64 z] rfl rfl (three_cells_new _ _ _ _ _) (by simp [Value.oneCell']) (by unfold maxLen; omega) (by omega) (by simp; omega) ?_; intro v' w4 hown' hgrow _; obtain ⟨hA1, hA2⟩ := Lst3.app (Below.refl _ _) hs9 (HO9.out.alloc _) hown' hgrow; have HA1 : Hid (LstT w4 w.heap.size v' (zs ++ [(1000 + x, y, z)])) := Lib.hid hA1; have hS4 := hS9.under hA2 hlt; have hT4 := hT9.after hA2; clear hA1 hA2 hown' hgrow)
        go_wp2_with fail
        go_roundw
        case rel => exact ⟨k - 1, zs ++ [(1000 + x, y, z)], by go_num, by rw [List.length_append]; simp; omega, HA1, hS4, hT4⟩
        case measure => simp [intOf]; omega
      · obtain rfl : k = 0 := by omega
        go_wp2_with fail
        refine (next_any A n c b _ _ hS).mono ?_
        rintro e w7 ⟨q, rfl, q0, q1, -, hS7, hd7⟩
        have q1 := q1 (by omega)
        have hT7 := hT.trans hd7
        have HO7 := Lib.hid (ownsRow_dr HO.out hd7 hlt)
        have hs7 := hT7.size
        clear hd7 hS hT HO
        have hq : q = 0 ∨ q = 1 ∨ (((q : Int) == 0) = false ∧ ((q : Int) == 1) = false) := by
          by_cases h0 : q = 0
          · exact .inl h0
          · by_cases h1 : q = 1
            · exact .inr (.inl h1)
            · exact .inr (.inr ⟨by simp [h0], by simp [h1]⟩)
        rcases hq with rfl | rfl | ⟨hb0, hb1⟩
        · clear q0 q1
          go_wp2_with fail
          refine (next_any A n c b _ _ hS7).mono ?_
          rintro e w8 ⟨y, rfl, y0, y1, -, hS8, hd8⟩
          have y1 := y1 (by omega)
          have hT8 := hT7.trans hd8
          obtain ⟨j, hj⟩ : ∃ j : Nat, (150 : Int) + y = j := ⟨(150 + y).toNat, by omega⟩
          have hj2 : j ≤ 151 := by omega
          have hmk := mkTicks j (by omega)
          have q1 : IntKind.i64.wrap (150 + y) = j := by rw [hj]; exact IntWalk.i64_in _ (by omega)
          go_wp2_with fail
          go_ret
          refine ⟨_, List.replicate j (0, 0, 0), rfl, by rw [List.length_replicate]; exact hj2, ?_, hS8.alloc _, hT8.alloc _⟩
          have hr := Row.new w8 51 (List.replicate (j * 3) (vi 0))
          have hr2 : Row (w8.alloc (.cells (Array.replicate (j * 3) (vi 0)) 51)) w8.heap.size 51 ((List.replicate j ((0, 0, 0) : P3)).flatMap cl3) := by rw [flat_zero]; simpa using hr
          have := LstG.of_row (cl := cl3) (m := 3) (cap := j) (rest := []) cl3_len hT8.size (by rw [List.append_nil]; exact hr2) (by unfold maxLen; omega) (by rw [List.length_replicate]; exact Nat.le_refl _) (by rw [List.length_replicate]; rfl)
          rwa [List.length_replicate] at this
        · clear q0 q1
          go_wp2_with fail
          refine (pick_any (fun _ => True) A n c b _ 3 3 _ (hS7.alloc _) (by have := hS7.lt; omega) (by omega) (by omega) (allP_alloc (fun _ => True) w7 _ _ _ [1000000000000, 1000000000001, -1000000000001] rfl rfl (fun _ _ => trivial))).mono ?_
          rintro e w8 ⟨y, rfl, -, hS8, hd8⟩
          have hT8 := (Dr.alloc (Dr.refl b w7) (.cells #[.int .i64 1000000000000, .int .i64 1000000000001, .int .i64 (-1000000000001)] 2)).trans hd8
          clear hd8
          go_wp2_with fail
          refine (next_any A n c b _ _ hS8).mono ?_
          rintro e w9 ⟨z, rfl, z0, z1, -, hS9, hd9⟩
          have z1 := z1 (by omega)
          have hTT := hT8.trans hd9
          have hT9 := hT7.trans hTT
          have HO9 := Lib.hid (ownsRow_dr HO7.out hTT hlt)
          have hs9 := hT9.size
          clear hd9 hS7 hT7 hT8 hTT HO7 hS8
          go_wp2_with (at_builtin; refine wpList_append_own _ rfl _ _ 40 rfl w.heap.size 51 i0 (.agg #[.int .i64 0, .int .i64 0, .int .i64 0]) 3 24 Try.underlying40 hi hz0 hz1 hz2 rfl (by decide) _ _ _ rfl (HO9.out.alloc _) ⟨w9.heap.size, 0, none⟩ 1 1 [.int .i64 0, .int .i64 y, .int .i64 (z - 1)] rfl rfl (three_cells_new _ _ _ _ _) (by simp [Value.oneCell']) (by unfold maxLen; omega) (by omega) (by simp; omega) ?_; intro v' w4 hown' hgrow _; obtain ⟨hA1, hA2⟩ := Lst3.app (Below.refl _ _) hs9 (HO9.out.alloc _) hown' hgrow; have HA1 : Hid (LstT w4 w.heap.size v' (zs ++ [(0, y, z - 1)])) := Lib.hid hA1; have hS4 := hS9.under hA2 hlt; have hT4 := hT9.after hA2; clear hA1 hA2 hown' hgrow)
          go_ret
          exact ⟨_, zs ++ [(0, y, z - 1)], rfl, by rw [List.length_append]; simp; omega, HA1.out, hS4, hT4⟩
        · go_wp2_with fail
          go_ret
          exact ⟨_, zs, rfl, by omega, HO7.out, hS7, hT7⟩

/-- Drawn ticks; with a number; with two. -/
def OneT (w : World) (e : Ending) (w' : World) : Prop := ∃ v zs, e = .returned v ∧ zs.length ≤ 151 ∧ LstT w' w.heap.size v zs ∧ Below w.heap.size w w'
def OneT1 (w : World) (e : Ending) (w' : World) : Prop := ∃ v zs x, e = .returned (.tuple #[v, .int .i64 x]) ∧ zs.length ≤ 151 ∧ LstT w' w.heap.size v zs ∧ (-2000000000000 ≤ x ∧ x ≤ 2000000000000) ∧ Below w.heap.size w w'
def OneT2 (w : World) (e : Ending) (w' : World) : Prop := ∃ v zs x y, e = .returned (.tuple #[v, .int .i64 x, .int .i64 y]) ∧ zs.length ≤ 151 ∧ LstT w' w.heap.size v zs ∧ Below w.heap.size w w'
def BigN (x : Int) : Prop := -2000000000000 ≤ x ∧ x ≤ 2000000000000
theorem drawCT_any (A : Option Addr) (n c : Nat) (w : World) (hn : n ≤ 4611686018427387904) (hB : Bytes w w.heap.size A n) :
    Calls Try.prog 29 #[.slice A n c] w (OneT w) := by
  go_enter Try.func29, Try.ntmps29
  go_wp2_with fail
  refine (from_any A n c w hn hB).mono ?_
  rintro e w1 ⟨b, rfl, hb, hS1, hl1⟩
  go_wp2_with fail
  refine (draw8_any A n c b _ hS1).mono ?_
  rintro e w2 ⟨v, zs, rfl, l1, hO, hS2, hT2⟩
  go_wp2_with fail
  go_ret
  exact ⟨v, zs, rfl, l1, LstG.mono hO hl1.size, hl1.trans (hT2.below hb hl1.size)⟩
set_option maxHeartbeats 2000000 in
theorem drawNT_any (A : Option Addr) (n c : Nat) (w : World) (hn : n ≤ 4611686018427387904) (hB : Bytes w w.heap.size A n) :
    Calls Try.prog 23 #[.slice A n c] w (OneT1 w) := by
  go_enter Try.func23, Try.ntmps23
  go_wp2_with fail
  refine (from_any A n c w hn hB).mono ?_
  rintro e w1 ⟨b, rfl, hb, hS1, hl1⟩
  have lb := hS1.lt
  go_wp2_with fail
  refine (draw8_any A n c b _ hS1).mono ?_
  rintro e w2 ⟨v, zs, rfl, l1, hO, hS2, hT2⟩
  have HO := Lib.hid hO
  have T2 := Dr.refl b w2
  clear hO
  go_wp2_with fail
  refine (next_any A n c b _ _ hS2).mono ?_
  rintro e w3 ⟨x, rfl, x0, x1, -, hS3, hd3⟩
  have x1 := x1 (by omega)
  have T3 := T2.trans hd3
  clear T2 hd3
  go_wp2_with fail
  refine (next_any A n c b _ _ hS3).mono ?_
  rintro e w4 ⟨y, rfl, y0, y1, -, hS4, hd4⟩
  have y1 := y1 (by omega)
  have T4 := T3.trans hd4
  clear T3 hd4
  go_wp2_with fail
  refine (pick_any BigN A n c b _ 4 4 _ (hS4.alloc _) (by have := hS4.lt; omega) (by omega) (by omega) (allP_alloc BigN w4 _ _ _ [x, y, 1000000000001, 0] rfl rfl (by simp [BigN]; omega))).mono ?_
  rintro e w5 ⟨z, rfl, hz, hS5, hd5⟩
  have T5 := T4.trans ((Dr.alloc (Dr.refl b w4) (.cells #[.int .i64 x, .int .i64 y, .int .i64 1000000000001, .int .i64 0] 2)).trans hd5)
  clear T4 hd5
  have HOZ := Lib.hid (LstG.mono (ownsRow_dr HO.out T5 lb) hl1.size)
  go_wp2_with fail
  ((try simp only [Exit.inBlock, Exit.then]); refine bodyPost_ret (v := .tuple #[v, .int .i64 z]) (by simp [results, Try.results23, go_sem]) rfl ?_)
  exact ⟨v, zs, z, rfl, l1, HOZ.out, hz, hl1.trans ((hT2.trans T5).below hb hl1.size)⟩
set_option maxHeartbeats 2000000 in
theorem drawKA_any (A : Option Addr) (n c : Nat) (w : World) (hn : n ≤ 4611686018427387904) (hB : Bytes w w.heap.size A n) :
    Calls Try.prog 32 #[.slice A n c] w (OneT1 w) := by
  go_enter Try.func32, Try.ntmps32
  go_wp2_with fail
  refine (from_any A n c w hn hB).mono ?_
  rintro e w1 ⟨b, rfl, hb, hS1, hl1⟩
  have lb := hS1.lt
  go_wp2_with fail
  refine (draw8_any A n c b _ hS1).mono ?_
  rintro e w2 ⟨v, zs, rfl, l1, hO, hS2, hT2⟩
  have HO := Lib.hid hO
  have T2 := Dr.refl b w2
  clear hO
  go_wp2_with fail
  refine (next_any A n c b _ _ hS2).mono ?_
  rintro e w3 ⟨x, rfl, x0, x1, -, hS3, hd3⟩
  have x1 := x1 (by omega)
  have T3 := T2.trans hd3
  clear T2 hd3
  go_wp2_with fail
  refine (pick_any BigN A n c b _ 8 8 _ (hS3.alloc _) (by have := hS3.lt; omega) (by omega) (by omega) (allP_alloc BigN w3 _ _ _ [0, 1, 50, 100, x, 100000, 100001, -1] rfl rfl (by simp [BigN]; omega))).mono ?_
  rintro e w4 ⟨z, rfl, hz, hS4, hd4⟩
  have T4 := T3.trans ((Dr.alloc (Dr.refl b w3) (.cells #[.int .i64 0, .int .i64 1, .int .i64 50, .int .i64 100, .int .i64 x, .int .i64 100000, .int .i64 100001, .int .i64 (-1)] 2)).trans hd4)
  clear T3 hd4
  have HOZ := Lib.hid (LstG.mono (ownsRow_dr HO.out T4 lb) hl1.size)
  go_wp2_with fail
  ((try simp only [Exit.inBlock, Exit.then]); refine bodyPost_ret (v := .tuple #[v, .int .i64 z]) (by simp [results, Try.results32, go_sem]) rfl ?_)
  exact ⟨v, zs, z, rfl, l1, HOZ.out, hz, hl1.trans ((hT2.trans T4).below hb hl1.size)⟩
set_option maxHeartbeats 2000000 in
theorem drawTB_any (A : Option Addr) (n c : Nat) (w : World) (hn : n ≤ 4611686018427387904) (hB : Bytes w w.heap.size A n) :
    Calls Try.prog 26 #[.slice A n c] w (OneT2 w) := by
  go_enter Try.func26, Try.ntmps26
  go_wp2_with fail
  refine (from_any A n c w hn hB).mono ?_
  rintro e w1 ⟨b, rfl, hb, hS1, hl1⟩
  have lb := hS1.lt
  go_wp2_with fail
  refine (draw8_any A n c b _ hS1).mono ?_
  rintro e w2 ⟨v, zs, rfl, l1, hO, hS2, hT2⟩
  have HO := Lib.hid hO
  have T2 := Dr.refl b w2
  clear hO
  go_wp2_with fail
  refine (next_any A n c b _ _ hS2).mono ?_
  rintro e w3 ⟨x, rfl, x0, x1, -, hS3, hd3⟩
  have x1 := x1 (by omega)
  have T3 := T2.trans hd3
  clear T2 hd3
  go_wp2_with fail
  refine (pick_any BigN A n c b _ 3 3 _ (hS3.alloc _) (by have := hS3.lt; omega) (by omega) (by omega) (allP_alloc BigN w3 _ _ _ [x, x, -1000000000001] rfl rfl (by simp [BigN]; omega))).mono ?_
  rintro e w4 ⟨y, rfl, hy, hS4, hd4⟩
  have T4 := T3.trans ((Dr.alloc (Dr.refl b w3) (.cells #[.int .i64 x, .int .i64 x, .int .i64 (-1000000000001)] 2)).trans hd4)
  clear T3 hd4
  go_wp2_with fail
  refine (pick_any BigN A n c b _ 4 4 _ (hS4.alloc _) (by have := hS4.lt; omega) (by omega) (by omega) (allP_alloc BigN w4 _ _ _ [x + 500, x + 5000, x - 1, 1000000000000] rfl rfl (by simp [BigN]; omega))).mono ?_
  rintro e w5 ⟨z, rfl, hz, hS5, hd5⟩
  have T5 := T4.trans ((Dr.alloc (Dr.refl b w4) (.cells #[.int .i64 (x + 500), .int .i64 (x + 5000), .int .i64 (x - 1), .int .i64 1000000000000] 2)).trans hd5)
  clear T4 hd5
  have HOZ := Lib.hid (LstG.mono (ownsRow_dr HO.out T5 lb) hl1.size)
  go_wp2_with fail
  ((try simp only [Exit.inBlock, Exit.then]); refine bodyPost_ret (v := .tuple #[v, .int .i64 y, .int .i64 z]) (by simp [results, Try.results26, go_sem]) rfl ?_)
  exact ⟨v, zs, y, z, rfl, l1, HOZ.out, hl1.trans ((hT2.trans T5).below hb hl1.size)⟩
end Go.Proofs.Ytggflladheemoaa
