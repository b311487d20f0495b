/- Draws of chapter 13: chains. -/
import Derived.Test.YtphebmbapllinaaDA
import Derived.Test.YtphebmbapllinaaCT
import Derived.Test.YtphebmbapllinaaC13d
import Derived.Test.YtphebmbapllinaaDB
namespace Go.Proofs.Ytphebmbapllinaa
open Go.RowKit
set_option linter.unusedVariables false
set_option linter.unusedSimpArgs false

/-- A drawn list of terms. -/
def GotTm (lo hi : Nat) (A : Option Addr) (n c b : Nat) (w : World) (e : Ending) (w' : World) : Prop :=
  ∃ (g cap : Nat) (zs : List Tm), e = .returned (.slice (some ⟨g, 0, none⟩) zs.length cap) ∧ lo ≤ zs.length ∧ zs.length ≤ hi ∧ zs.length ≤ cap ∧ LstG tcl 3 64 w' w.heap.size (.slice (some ⟨g, 0, none⟩) zs.length cap) zs ∧ Src A n c b w' ∧ Dr b w w'
theorem GotTm.of {lo hi : Nat} {A : Option Addr} {n c b : Nat} {w : World} {e : Ending} {w' : World} {g N cap : Nat} {zs : List Tm} (he : e = .returned (.slice (some ⟨g, 0, none⟩) N cap)) (hn : zs.length = N) (h0 : lo ≤ N) (h1 : N ≤ hi) (hc : N ≤ cap) (hL : LstG tcl 3 64 w' w.heap.size (.slice (some ⟨g, 0, none⟩) N cap) zs) (hS : Src A n c b w') (hD : Dr b w w') : GotTm lo hi A n c b w e w' := by
  subst hn
  exact ⟨g, cap, zs, he, h0, h1, hc, hL, hS, hD⟩
theorem LstG.oneD (w : World) (B : Nat) (hB : B ≤ w.heap.size) (a b : Int) (c : Bool) : LstG tcl 3 64 (w.alloc (.cells #[.int .i64 a, .int .i64 b, .bool c] 64)) B (.slice (some ⟨w.heap.size, 0, none⟩) 1 1) [(a, b, c)] :=
  LstG.of_rowT (rest := []) hB (by have := Blk.new w 64 #[.int .i64 a, .int .i64 b, .bool c]; simpa [Row, Blk, tcells, tcl] using this) rfl (by unfold maxLen; omega) (Nat.le_refl _) rfl
theorem LstG.formT {T : TypeId} {w : World} {B : Nat} {v : Value} {xs : List Tm} (h : LstG tcl 3 T w B v xs) (h0 : 0 < xs.length) :
    ∃ g cap : Nat, v = .slice (some ⟨g, 0, none⟩) xs.length cap ∧ xs.length ≤ cap ∧ B ≤ g ∧ g < w.heap.size := by
  obtain ⟨g, cap, rest, e, h1, h2, h3, -⟩ := LstG.rowT h h0
  exact ⟨g, cap, e, h3, h1, h2.lt⟩

set_option maxRecDepth 100000 in
set_option maxHeartbeats 8000000 in
theorem valid13_any (A : Option Addr) (n c b : Nat) (w : World) (hS : Src A n c b w) :
    Calls Try.prog 71 #[.pointer (some ⟨b, 0, none⟩)] w (GotTm 1 6 A n c b w) := by
  obtain ⟨i0, hinf, hz0, hz1, hz2⟩ := info_parts info_term
  have hlt := hS.lt
  go_enter Try.func71, Try.ntmps71
  go_wp2_with fail
  refine (valid_any A n c b _ hS).mono ?_
  rintro e w1 ⟨d, t, rfl, -, hS1, hd1⟩
  have hs1 := hd1.size
  have O1 := LstG.oneD w1 w.heap.size hs1 d t false
  have hT1 := hd1.alloc (.cells #[.int .i64 d, .int .i64 t, .bool false] 64)
  have hS1a := hS1.alloc (.cells #[.int .i64 d, .int .i64 t, .bool false] 64)
  clear hd1 hS1
  go_wp2_with fail
  refine (next_any A n c b _ _ hS1a).mono ?_
  rintro e w2 ⟨x, rfl, x0, x1, -, hS2, hd2⟩
  have x1 := x1 (by omega)
  have O2 := Lib.hid (ownsRow_dr O1 hd2 hlt)
  have hT2 := hT1.trans hd2
  clear O1 hT1 hd2 hS1a
  go_wp2_with fail
  go_loopw [3, 4] (fun v m wr => ∃ (zs : List Tm) (g cp : Nat) (y : Int), v = .slice (some ⟨g, 0, none⟩) zs.length cp ∧ m = .int .i64 y ∧ 0 ≤ y ∧ 1 ≤ zs.length ∧ (zs.length : Int) + y ≤ 5 ∧ zs.length ≤ cp ∧ Hid (LstG tcl 3 64 wr w.heap.size (.slice (some ⟨g, 0, none⟩) zs.length cp) zs) ∧ Src A n c b wr ∧ Dr b w wr) (fun _ m _ => (intOf m).toNat)
  case atStart => exact ⟨[(d, t, false)], w1.heap.size, 1, x, rfl, rfl, by omega, by simp, by simp; omega, by simp, O2, hS2, hT2⟩
  case round =>
    obtain ⟨zs, g, cp, y, rfl, rfl, y0, l0, l1, hcp, HO, hS3, hT3⟩ := hrel
    clear O2
    by_cases hy : 0 < y
    · have hsz3 := hT3.size
      go_wp2_with fail
      refine (valid_any A n c b _ hS3).mono ?_
      rintro e w4 ⟨d2, t2, rfl, -, hS4, hd4⟩
      go_wp2_with fail
      refine (next_any A n c b _ _ hS4).mono ?_
      rintro e w5 ⟨z, rfl, z0, z1, -, hS5, hd5⟩
      have z1 := z1 (by omega)
      have HO5 := Lib.hid (ownsRow_dr (ownsRow_dr HO.out hd4 hlt) hd5 hlt)
      have hT5 := (hT3.trans hd4).trans hd5
      have hsz5 := hT5.size
      clear HO hd4 hd5 hS4 hS3 hT3
      rcases (show z = 0 ∨ z = 1 by omega) with rfl | rfl
      all_goals
        clear z0 z1
        go_wp2_with (at_builtin; refine wpList_append_own _ rfl _ _ 24 rfl w.heap.size 64 i0 (.agg #[vi 0, vi 0, .bool false]) 3 24 Try.underlying24 hinf hz0 hz1 hz2 rfl (by decide) _ _ _ rfl (HO5.out.alloc _) ⟨w5.heap.size, 0, none⟩ 1 1 [.int .i64 d2, .int .i64 t2, .bool _] rfl rfl (three_cells_new _ _ _ _ _) (by simp [Value.oneCell']) (by unfold maxLen; omega) (by omega) (by simp; omega) ?_; intro v' w6 hown' hgrow _; obtain ⟨hA1, hA2⟩ := LstG.appT (m := (d2, t2, _)) (Below.refl _ _) hsz5 (HO5.out.alloc _) hown' hgrow; obtain ⟨g4, c4, rfl, hc4, -, -⟩ := LstG.formT hA1 (by simp); have HA1 := Lib.hid hA1; have hS6 := hS5.under hA2 hlt; have hT6 := hT5.after hA2; clear hA1 hA2 hown' hgrow)
        go_roundw
        case rel => exact ⟨zs ++ [(d2, t2, _)], g4, c4, y - 1, by simp, by go_num, by omega, by simp, by rw [List.length_append]; simp; omega, hc4, HA1, hS6, hT6⟩
        case measure => simp [intOf]; omega
    · go_wp2
      go_ret
      exact ⟨g, cp, zs, rfl, l0, by omega, hcp, HO.out, hS3, hT3⟩
def lenTm : Value → Nat
  | .slice _ n _ => n
  | _ => 0
theorem tsplit (zs : List Tm) (rest : List Value) {k : Nat} {m : Tm} (h : zs[k]? = some m) : ∃ p u : List Value, p.length = k * 3 ∧ tcells zs ++ rest = p ++ (vi m.1 :: vi m.2.1 :: .bool m.2.2 :: u) ∧ ∀ m' : Tm, tcells (zs.set k m') ++ rest = p ++ (vi m'.1 :: vi m'.2.1 :: .bool m'.2.2 :: u) := by
  obtain ⟨hl, rfl⟩ := List.getElem?_eq_some_iff.1 h
  refine ⟨tcells (zs.take k), tcells (zs.drop (k + 1)) ++ rest, by rw [tcells_len, List.length_take]; congr 1; omega, ?_, fun m' => ?_⟩
  · conv => lhs; rw [← List.take_append_drop k zs, tcells_append, List.drop_eq_getElem_cons hl]
    rw [List.append_assoc]
    rfl
  · rw [List.set_eq_take_append_cons_drop, if_pos hl, tcells_append, List.append_assoc]
    rfl
theorem tset2 (zs : List Tm) (rest : List Value) {k : Nat} {m : Tm} (d t : Int) (h : zs[k]? = some m) : ((tcells zs ++ rest).set (k * 3) (vi d)).set (k * 3 + 1) (vi t) = tcells (zs.set k (d, t, m.2.2)) ++ rest := by
  obtain ⟨p, u, hp, e, hs⟩ := tsplit zs rest h
  rw [e, hs, List.set_append_right _ _ (by omega), List.set_append_right _ _ (by omega), hp, show k * 3 - k * 3 = 0 by omega, show k * 3 + 1 - k * 3 = 1 by omega]
  rfl
theorem tsetB (zs : List Tm) (rest : List Value) {k : Nat} {m : Tm} (q : Bool) (h : zs[k]? = some m) : (tcells zs ++ rest).set (k * 3 + 2) (.bool q) = tcells (zs.set k (m.1, m.2.1, q)) ++ rest := by
  obtain ⟨p, u, hp, e, hs⟩ := tsplit zs rest h
  rw [e, hs, List.set_append_right _ _ (by omega), hp, show k * 3 + 2 - k * 3 = 2 by omega]
  rfl
theorem tcatR (zs : List Tm) (rest : List Value) {k : Nat} {m : Tm} (h : zs[k]? = some m) : (tcells zs ++ rest)[k * 3]? = some (vi m.1) ∧ (tcells zs ++ rest)[k * 3 + 1]? = some (vi m.2.1) ∧ (tcells zs ++ rest)[k * 3 + 2]? = some (.bool m.2.2) := by
  obtain ⟨p, u, hp, e, -⟩ := tsplit zs rest h
  rw [e, List.getElem?_append_right (by omega), List.getElem?_append_right (by omega), List.getElem?_append_right (by omega), hp, show k * 3 - k * 3 = 0 by omega, show k * 3 + 1 - k * 3 = 1 by omega, show k * 3 + 2 - k * 3 = 2 by omega]
  exact ⟨rfl, rfl, rfl⟩

set_option maxRecDepth 100000 in
set_option maxHeartbeats 8000000 in
theorem draw13_any (A : Option Addr) (n c b : Nat) (w : World) (hS : Src A n c b w) :
    Calls Try.prog 44 #[.pointer (some ⟨b, 0, none⟩)] w (GotTm 0 7 A n c b w) := by
  obtain ⟨i0, hinf, hz0, hz1, hz2⟩ := info_parts info_term
  have hlt := hS.lt
  go_enter Try.func44, Try.ntmps44
  go_wp2_with fail
  refine (valid13_any A n c b _ hS).mono ?_
  rintro e w1 ⟨g, cap, zs, rfl, l0, l1, -, hO, hS1, hT1⟩
  obtain ⟨g', cap', rest, he, hg, hr, h1, h2, h3⟩ := LstG.rowT hO (by omega)
  obtain ⟨rfl, rfl⟩ : g' = g ∧ cap' = cap := by
    injection he with e1 e2 e3
    injection e1 with e1
    injection e1 with e1
    exact ⟨e1.symm, e3.symm⟩
  clear he
  obtain ⟨q, hq⟩ : ∃ q, zs.length = q + 1 := ⟨zs.length - 1, by omega⟩
  rw [hq] at l0 l1 h1 h3 hO ⊢
  have HQ := Lib.hid hq
  have hgb : g' ≠ b := by omega
  have HRow := Lib.hid (fun W (h : Dr b w1 W) => hr.dr h hgb)
  have HO := Lib.hid (fun W (h : Dr b w1 W) => ownsRow_dr hO h hlt)
  clear hO hr hq
  go_wp2_with fail
  refine (next_any A n c b _ _ hS1).mono ?_
  rintro e w2 ⟨x, rfl, x0, x1, -, hS2, hd2⟩
  clear x1
  have hT := hT1.trans hd2
  obtain ⟨m0, hm0⟩ := some_at (l := zs) (k := 0) (by rw [HQ.out]; omega)
  obtain ⟨mq, hmq⟩ := some_at (l := zs) (k := q) (by rw [HQ.out]; omega)
  have HB0 := Lib.hid (tsetB zs rest true hm0)
  have HC0 := Lib.hid (tcatR zs rest hm0).2.2
  have HCq := Lib.hid (tcatR zs rest hmq)
  have HSq := Lib.hid (fun d t => tset2 zs rest d t hmq)
  clear hm0 hmq
  have hx : x = 0 ∨ x = 1 ∨ x = 2 ∨ x = 3 ∨ (((x : Int) == 0) = false ∧ ((x : Int) == 1) = false ∧ ((x : Int) == 2) = false ∧ ((x : Int) == 3) = false) := by
    by_cases h0 : x = 0
    · exact .inl h0
    · by_cases h1 : x = 1
      · exact .inr (.inl h1)
      · by_cases h2 : x = 2
        · exact .inr (.inr (.inl h2))
        · by_cases h3 : x = 3
          · exact .inr (.inr (.inr (.inl h3)))
          · exact .inr (.inr (.inr (.inr ⟨by simp [h0], by simp [h1], by simp [h2], by simp [h3]⟩)))
  rcases hx with rfl | rfl | rfl | rfl | ⟨hb0, hb1, hb2, hb3⟩
  · clear x0
    have hr2 := HRow.out w2 hd2
    have c2 := (hr2.cell 2).trans HC0.out
    have f2 := hr2.free 2
    go_wp2_with fail
    go_ret
    have hr3 := hr2.set 2 (.bool true)
    rw [HB0.out] at hr3
    have hl := LstG.of_rowT (n := q + 1) hg hr3 (by rw [List.length_set, HQ.out]) h2 h1 h3
    exact GotTm.of rfl (by rw [List.length_set, HQ.out]) (by omega) (by omega) h1 hl (hS2.far (by show b < g'; omega) _) (hT.setCell (.inr hg) _)
  · clear x0
    have hk : IntKind.i64.wrap (((q + 1 : Nat) : Int) - 1) = (q : Int) := (IntWalk.i64_in _ (by omega)).trans (by omega)
    have hk0 : (0 : Int) ≤ (q : Int) := by omega
    have hk1 : (q : Int) < ((q + 1 : Nat) : Int) := by omega
    go_wp2_with fail
    refine (figDraw_any A n c b _ hS2).mono ?_
    rintro e w3 ⟨d, t, rfl, -, hS3, hd3⟩
    have hd := hd2.trans hd3
    have hT3 := hT1.trans hd
    have hr2 := HRow.out w3 hd
    have c2 := (hr2.cell (q * 3)).trans HCq.out.1
    have c3 := (hr2.cell (q * 3 + 1)).trans HCq.out.2.1
    have f2 := hr2.free (q * 3)
    have f3 := hr2.free (q * 3 + 1)
    go_wp2_with fail
    go_ret
    have hr3 := (hr2.set (q * 3) (vi d)).set (q * 3 + 1) (vi t)
    rw [HSq.out] at hr3
    have hl := LstG.of_rowT (n := q + 1) hg hr3 (by rw [List.length_set, HQ.out]) h2 h1 h3
    exact GotTm.of rfl (by rw [List.length_set, HQ.out]) (by omega) (by omega) h1 hl ((hS3.far (by show b < g'; omega) _).far (by show b < g'; omega) _) ((hT3.setCell (.inr hg) _).setCell (.inr hg) _)
  · clear x0
    have O2 := Lib.hid (HO.out w2 hd2)
    go_wp2_with fail
    clear HRow HB0 HC0 HCq HSq
    go_loopw [3] (fun v wr => ∃ (zs : List Tm) (g cp : Nat), v = .slice (some ⟨g, 0, none⟩) zs.length cp ∧ zs.length ≤ 7 ∧ zs.length ≤ cp ∧ Hid (LstG tcl 3 64 wr w.heap.size (.slice (some ⟨g, 0, none⟩) zs.length cp) zs) ∧ Src A n c b wr ∧ Dr b w wr) (fun v _ => 7 - lenTm v)
    case atStart => exact ⟨zs, g', cap', by rw [HQ.out], by rw [HQ.out]; omega, by rw [HQ.out]; exact h1, by rw [HQ.out]; exact O2, hS2, hT⟩
    case round =>
      obtain ⟨ys, g, cp, rfl, y1, hcp, HY, hS3, hT3⟩ := hrel
      clear O2
      have hsz3 := hT3.size
      go_wp2_with fail
      refine (next_any A n c b _ _ hS3).mono ?_
      rintro e w4 ⟨z, rfl, z0, z1, -, hS4, hd4⟩
      have z1 := z1 (by omega)
      have HY4 := Lib.hid (ownsRow_dr HY.out hd4 hlt)
      have hT4 := hT3.trans hd4
      clear hS3 hT3 HY
      by_cases hy : (ys.length : Int) < 6 + z
      · go_wp2_with fail
        refine (valid_any A n c b _ hS4).mono ?_
        rintro e w5 ⟨d2, t2, rfl, -, hS5, hd5⟩
        have HO5 := Lib.hid (ownsRow_dr HY4.out hd5 hlt)
        have hT5 := hT4.trans hd5
        have hsz5 := hT5.size
        clear HY4 hd5 hS4 hT4
        go_wp2_with (at_builtin; refine wpList_append_own _ rfl _ _ 24 rfl w.heap.size 64 i0 (.agg #[vi 0, vi 0, .bool false]) 3 24 Try.underlying24 hinf hz0 hz1 hz2 rfl (by decide) _ _ _ rfl (HO5.out.alloc _) ⟨w5.heap.size, 0, none⟩ 1 1 [.int .i64 d2, .int .i64 t2, .bool false] rfl rfl (three_cells_new _ _ _ _ _) (by simp [Value.oneCell']) (by unfold maxLen; omega) (by omega) (by simp; omega) ?_; intro v' w6 hown' hgrow _; obtain ⟨hA1, hA2⟩ := LstG.appT (m := (d2, t2, false)) (Below.refl _ _) hsz5 (HO5.out.alloc _) hown' hgrow; obtain ⟨g4, c4, rfl, hc4, -, -⟩ := LstG.formT hA1 (by simp); have HA1 := Lib.hid hA1; have hS6 := hS5.under hA2 hlt; have hT6 := hT5.after hA2; clear hA1 hA2 hown' hgrow)
        go_roundw
        case rel => exact ⟨ys ++ [(d2, t2, false)], g4, c4, by simp, by rw [List.length_append]; simp; omega, hc4, HA1, hS6, hT6⟩
        case measure => simp [lenTm, intOf]; omega
      · go_wp2
        go_ret
        exact GotTm.of rfl rfl (by omega) y1 hcp HY4.out hS4 hT4
  · clear x0
    have hr2 := HRow.out w2 hd2
    go_wp2_with fail
    go_ret
    have hl := LstG.of_rowT (xs := []) (rest := tcells zs ++ rest) (n := 0) hg hr2 rfl h2 (by omega) (by rw [List.length_append, tcells_len, HQ.out]; omega)
    exact GotTm.of rfl rfl (by omega) (by omega) (by omega) hl hS2 hT
  · clear x0
    go_wp2_with fail
    go_ret
    exact GotTm.of rfl HQ.out (by omega) (by omega) h1 (HO.out w2 hd2) hS2 hT
end Go.Proofs.Ytphebmbapllinaa
