/- Contracts of chapter 7: the program's marks within bounds. -/
import Derived.Test.YtggflladheemoaaC07h
import Derived.Test.YtggflladheemoaaC07e
import Derived.Maps.AppendAt
namespace Go.Proofs.Ytggflladheemoaa
open Go.RowKit Go.Shelf
set_option linter.unusedVariables false
set_option linter.unusedSimpArgs false
attribute [local go_sem] Oper.semAt_some

/-- The marks in range that have come. -/
def flM {zs : List P3} (f t : Int) (l : List (Mk zs)) : List Int := (unM l).filter (inR f t)
theorem flM_snoc {zs : List P3} (f t : Int) (l : List (Mk zs)) (y : Mk zs) : flM f t (l ++ [y]) = flM f t l ++ (if inR f t y.1 = true then [y.1] else []) := by
  unfold flM
  rw [unM_snoc, List.filter_append]
  congr 1
  cases h : inR f t y.1 <;> simp [h]
set_option maxRecDepth 100000 in
set_option maxHeartbeats 4000000 in
/-- The main case: a valid graduation, bounds in their range. -/
theorem mo_impl1 (A : Option Addr) (n c : Nat) (zs : List P3) (f t : Int) (w : World) (hn : zs.length = n) (hN : n ≤ 16777216) (hA : Reads w w.heap.size A (cells3 zs)) (hW : Wf3 zs) (hv : gd zs = true) (hd : decide (1000 ≤ f ∧ f ≤ 9999) = true) (hd2 : decide (1000 ≤ t ∧ t ≤ 9999) = true) :
    Calls Try.prog 12 #[.slice A n c, .int .i64 f, .int .i64 t] w fun e w' => (∃ v, e = .returned (.tuple #[v, .int .i64 (mrC zs f t)]) ∧ Lst w' w.heap.size v (moL zs f t)) ∧ Below w.heap.size w w' := by
  have HG := Lib.hid (fun W (hg : Gr w W) => gd_impl A n c zs W hn hN (hA.gr hg) hW)
  rw [hv] at HG
  have HD1 := Lib.hid (fun W => areDigits_any f W)
  have HD2 := Lib.hid (fun W => areDigits_any t W)
  rw [hd] at HD1
  rw [hd2] at HD2
  have HR := Lib.hid (fun W (hg : Gr w W) => (Rd3.of_reads (T := 65) hA).keep (KM.gr (Nat.le_refl _) hg))
  have HOK := Lib.hid (fun p hp => (gd_parts hv p hp).imp fun a (h : ptOk a p = true ∧ 1000 ≤ a) => (And.intro h.1 (show 0 ≤ a by omega)))
  have HM := Lib.hid (mks_facts hv)
  have HMR := Lib.hid (show mrC zs f t = if 200 < (mrL zs f t).length then 3 else 0 by unfold mrC; rw [if_neg (by rw [hv]; simp), if_neg (by unfold inR; rw [hd, hd2]; simp)])
  have HL := Lib.hid hn
  obtain ⟨i0, hi, hz0, hz1, hz2⟩ := info_parts info_i7
  clear hA hW hv hd hd2 hn
  refine (callsIn_wide (n := 5)).1 ?_
  refine callsIn_of_wp_marks Try.func12 rfl trivial ?_ rfl
  simp only [Try.ntmps12, List.size_toArray, List.length_cons, List.length_nil, Nat.reduceAdd, Nat.reduceSub, Array.replicate_succ, Array.replicate_zero, List.push_toArray, List.append_toArray, List.nil_append, List.cons_append]
  gi_wp2_with (first
    | (refine ⟨trivial, ?_⟩; gi_at_call 21; refine (callsIn_wide.2 (HG.out _ (by repeat (first | with_reducible exact Gr.refl _ | with_reducible refine Gr.alloc ?_ _ | with_reducible refine Gr.gr ?_ _ _ | with_reducible refine Gr.drew ?_ | with_reducible refine Gr.drewN ?_ _)))).mono ?_; rintro e w' ⟨rfl, kk, os, rfl⟩)
    | (refine ⟨trivial, ?_⟩; gi_at_call 47; with_reducible refine (callsIn_wide.2 (HD1.out _)).mono ?_; rintro e w' ⟨rfl, rfl⟩)
    | (refine ⟨trivial, ?_⟩; gi_at_call 47; with_reducible refine (callsIn_wide.2 (HD2.out _)).mono ?_; rintro e w' ⟨rfl, rfl⟩)
    | (refine ⟨trivial, ?_⟩; gi_at_call 48; refine (callsIn_wide.2 (eachMark_any _ _ _ _)).mono ?_; rintro e w' ⟨rfl, rfl⟩))
  have bF := (((Boxed.new w 2 (.int .i64 f)).alloc (.cells #[.int .i64 t] 2)).alloc (.cells #[.slice none 0 0] 30)).alloc (.cells #[.int .i64 0] 2)
  have bT := ((Boxed.new (w.alloc (.cells #[.int .i64 f] 2)) 2 (.int .i64 t)).alloc (.cells #[.slice none 0 0] 30)).alloc (.cells #[.int .i64 0] 2)
  have bA := (Boxed.new ((w.alloc (.cells #[.int .i64 f] 2)).alloc (.cells #[.int .i64 t] 2)) 30 (.slice none 0 0)).alloc (.cells #[.int .i64 0] 2)
  have bC := Boxed.new (((w.alloc (.cells #[.int .i64 f] 2)).alloc (.cells #[.int .i64 t] 2)).alloc (.cells #[.slice none 0 0] 30)) 2 (.int .i64 0)
  have G1 : Gr w ((((w.alloc (.cells #[.int .i64 f] 2)).alloc (.cells #[.int .i64 t] 2)).alloc (.cells #[.slice none 0 0] 30)).alloc (.cells #[.int .i64 0] 2)) := (by repeat (first | with_reducible exact Gr.refl _ | with_reducible refine Gr.alloc ?_ _ | with_reducible refine Gr.gr ?_ _ _ | with_reducible refine Gr.drew ?_ | with_reducible refine Gr.drewN ?_ _))
  simp only [World.size_alloc] at bT bA bC
  generalize (((w.alloc (.cells #[.int .i64 f] 2)).alloc (.cells #[.int .i64 t] 2)).alloc (.cells #[.slice none 0 0] 30)).alloc (.cells #[.int .i64 0] 2) = V1 at *
  replace bF := boxed_gr bF ⟨kk, os, rfl⟩
  replace bT := boxed_gr bT ⟨kk, os, rfl⟩
  replace bA := boxed_gr bA ⟨kk, os, rfl⟩
  replace bC := boxed_gr bC ⟨kk, os, rfl⟩
  replace G1 := G1.trans ⟨kk, os, rfl⟩
  generalize gr V1 kk os = W1 at *
  have hs1 := bC.lt
  have O1 : Lst (W1.alloc (.cells #[] 2)) W1.heap.size (.slice (some ⟨W1.heap.size, 0, none⟩) 0 0) [] := World.ownsRow_made W1 #[] 0 (Nat.le_refl _) (Nat.zero_le _) rfl
  have bL := (Boxed.new (W1.alloc (.cells #[] 2)) 30 (.slice (some ⟨W1.heap.size, 0, none⟩) 0 0)).alloc (.cells #[.slice A n c] 24)
  have bP := (Boxed.new ((W1.alloc (.cells #[] 2)).alloc (.cells #[.slice (some ⟨W1.heap.size, 0, none⟩) 0 0] 30)) 24 (.slice A n c)).cell
  have G2 := ((G1.alloc (.cells #[] 2)).alloc (.cells #[.slice (some ⟨W1.heap.size, 0, none⟩) 0 0] 30)).alloc (.cells #[.slice A n c] 24)
  have hs2 : (((W1.alloc (.cells #[] 2)).alloc (.cells #[.slice (some ⟨W1.heap.size, 0, none⟩) 0 0] 30)).alloc (.cells #[.slice A n c] 24)).heap.size = W1.heap.size + 1 + 1 + 1 := by simp
  have O2 := (O1.alloc (.cells #[.slice (some ⟨W1.heap.size, 0, none⟩) 0 0] 30)).alloc (.cells #[.slice A n c] 24)
  replace bF := ((bF.alloc (.cells #[] 2)).alloc (.cells #[.slice (some ⟨W1.heap.size, 0, none⟩) 0 0] 30)).alloc (.cells #[.slice A n c] 24)
  replace bT := ((bT.alloc (.cells #[] 2)).alloc (.cells #[.slice (some ⟨W1.heap.size, 0, none⟩) 0 0] 30)).alloc (.cells #[.slice A n c] 24)
  replace bA := ((bA.alloc (.cells #[] 2)).alloc (.cells #[.slice (some ⟨W1.heap.size, 0, none⟩) 0 0] 30)).alloc (.cells #[.slice A n c] 24)
  replace bC := ((bC.alloc (.cells #[] 2)).alloc (.cells #[.slice (some ⟨W1.heap.size, 0, none⟩) 0 0] 30)).alloc (.cells #[.slice A n c] 24)
  simp only [World.size_alloc] at bL bP
  clear O1 G1
  generalize ((W1.alloc (.cells #[] 2)).alloc (.cells #[.slice (some ⟨W1.heap.size, 0, none⟩) 0 0] 30)).alloc (.cells #[.slice A n c] 24) = W0 at *
  generalize W1.heap.size = S at *
  generalize hb1 : w.heap.size + 1 = b1 at *
  generalize hb2 : b1 + 1 = b2 at *
  generalize hb3 : b2 + 1 = b3 at *
  generalize hbl : S + 1 = bl at *
  generalize hbp : bl + 1 = bp at *
  have HCM := Lib.hid (show mrC zs f t = if 200 < (mrL zs f t).length then 3 else 0 from HMR.out)
  clear HMR
  refine wpIn_rangeFunc_ownF rfl (by omega) (gf := 65) (lb := #[.pointer (some ⟨bp, 0, none⟩)]) rfl trivial (enters_of Try.func65 (by kernel_rfl) rfl)
    (marks_stops (5 - 1) (by omega) w.heap.size A n c zs HL.out hN HOK.out bp W0 bP (by omega) (HR.out _ G2)) KM.t (KM.b (by omega)) (Below.refl _ _) (fun _ => rfl)
    (fun pre W => ((((Boxed W w.heap.size 2 (.int .i64 f) ∧ Boxed W b1 2 (.int .i64 t)) ∧ (Boxed W b2 30 (.slice none 0 0) ∧ Boxed W b3 2 (.int .i64 0))) ∧
      (∃ v, Boxed W bl 30 v ∧ W.ownsRow S 2 1 v (flM f t pre).length ((flM f t pre).map vi) ∧ ((flM f t pre).length ≤ 200 ∧ ∃ A1 c1, v = .slice A1 (flM f t pre).length c1))) ∧ Below S W0 W) ∧ Below w.heap.size w W)
    (fun cd pre W => ((cd = .ret ∧ 200 < (flM f t pre).length) ∧ (Boxed W b2 30 (.slice none 0 0) ∧ Boxed W b3 2 (.int .i64 3))) ∧ Below w.heap.size w W)
    (OwnFrom.and (OwnFrom.and (OwnFrom.and (OwnFrom.and (OwnFrom.and (Own.from (boxed_own _ _ (fun _ => .int .i64 f)) _) (Own.from (boxed_own _ _ (fun _ => .int .i64 t)) _)) (OwnFrom.and (Own.from (boxed_own _ _ (fun _ => .slice none 0 0)) _) (Own.from (boxed_own _ _ (fun _ => .int .i64 0)) _))) (Own.from (holdsRow_own S bl 30 2 1 (fun pre => (flM f t pre).length) (fun pre => (flM f t pre).map vi) (fun pre v => (flM f t pre).length ≤ 200 ∧ ∃ A1 c1, v = .slice A1 (flM f t pre).length c1)) _)) (ownFrom_below (by omega) (by omega))) (ownFrom_below (Nat.le_refl _) (by omega)))
    (fun cd => OwnFrom.and (OwnFrom.and (ownFrom_pure _ _) (OwnFrom.and (Own.from (boxed_own _ _ (fun _ => .slice none 0 0)) _) (Own.from (boxed_own _ _ (fun _ => .int .i64 3)) _))) (ownFrom_below (Nat.le_refl _) (by omega)))
    ⟨⟨⟨⟨⟨bF, bT⟩, bA, bC⟩, _, bL, O2, by simp [flM, unM], _, _, rfl⟩, Below.refl _ _⟩, G2.below⟩
    (fun y => { tmps := #[.slice A n c, .int .i64 f, .int .i64 t, undef, .pointer (some ⟨w.heap.size, 0, none⟩), .pointer (some ⟨b1, 0, none⟩), .pointer (some ⟨b2, 0, none⟩), .pointer (some ⟨b3, 0, none⟩), .pointer (some ⟨bl, 0, none⟩), .int .i64 y.1, .slice A n c, .bool true, .bool false, .int .i64 f, .bool true, .bool false, .bool false, .int .i64 t, .bool true, .bool false, .bool false, .slice (some ⟨S, 0, none⟩) 0 0, .slice A n c, .func (.func 65) #[] #[.pointer (some ⟨bp, 0, none⟩)], .int .i64 y.1, undef, undef, undef, undef, undef, undef, undef, undef, undef, undef, undef, undef, undef, undef, undef, undef], defers := [] }) ?assign ?body ?done ?stop
  case assign =>
    intro l y W K hK
    gi_wp2
    exact hK
  case body =>
    rintro l pre y W ⟨⟨⟨⟨⟨x1, x2⟩, x3, x4⟩, v, x5, hrow, h200, A1, c1, rfl⟩, hB0⟩, hB⟩ hlen
    have y1 := HM.out.2.1 y.1 y.2
    have HT := Lib.hid (flM_snoc f t pre y)
    have k1 := x1.cell
    have k2 := x2.cell
    have k3 := x3.cell
    have k4 := x4.cell
    have k5 := x5.cell
    have f3 := x3.frozen
    have f4 := x4.frozen
    have f5 := x5.frozen
    have hszW := hB0.size
    generalize hF : flM f t pre = F at *
    obtain ⟨y, hy⟩ := y
    simp only at *
    by_cases q1 : y < f
    · have hc : inR f t y = false := decide_eq_false (by omega)
      rw [hc, if_neg (by simp), List.append_nil] at HT
      gi_wp2
      exact ⟨KeepsOthers.refl _, KM.refl _ _ _, ⟨⟨⟨⟨x1, x2⟩, x3, x4⟩, _, x5, by rw [HT.out]; exact hrow, by rw [HT.out]; exact h200, _, _, by rw [HT.out]⟩, hB0⟩, hB⟩
    by_cases q2 : t < y
    · have hc : inR f t y = false := decide_eq_false (by omega)
      rw [hc, if_neg (by simp), List.append_nil] at HT
      gi_wp2
      exact ⟨KeepsOthers.refl _, KM.refl _ _ _, ⟨⟨⟨⟨x1, x2⟩, x3, x4⟩, _, x5, by rw [HT.out]; exact hrow, by rw [HT.out]; exact h200, _, _, by rw [HT.out]⟩, hB0⟩, hB⟩
    have hc : inR f t y = true := decide_eq_true (by omega)
    rw [hc, if_pos rfl] at HT
    clear hc hF
    by_cases q3 : F.length = 200
    · have hne : b2 ≠ b3 := by omega
      gi_wp2
      exact ⟨(KeepsOthers.setCell _ _ _).trans (KeepsOthers.setCell _ _ _), ⟨⟨rfl, by rw [HT.out, List.length_append]; simp; omega⟩, (x3.set (.slice none 0 0)).other hne _, (x4.other hne.symm (.slice none 0 0)).set _⟩, (hB.setCell (p := ⟨b2, 0, none⟩) (by simp; omega) _).setCell (p := ⟨b3, 0, none⟩) (by simp; omega) _⟩
    · have hlt : F.length < 200 := by omega
      gi_wp2_with (gi_at_builtin; refine wpListIn_append_own _ rfl _ _ 30 rfl S 2 i0 (.int .i64 0) 1 8 Try.underlying30 hi hz0 hz1 hz2 rfl (by decide) _ _ _ rfl (hrow.alloc _) ⟨W.heap.size, 0, none⟩ 1 1 [.int .i64 y] rfl rfl (cell_one_new _ _ _) (by simp [Value.oneCell']) (by unfold maxLen; omega) (by omega) (by simp; omega) ?_; intro v' w1 hown' hgrow _; obtain ⟨g', cap', rfl⟩ := ownsRow_succ hown'; obtain ⟨hv1, hv2, hr2, hk2, hb2⟩ := x5.appended (by decide) hrow (show S ≤ W.heap.size by omega) (show S ≤ bl by omega) hown' hgrow; have hkt := appended_T (T := 65) (v' := .slice (some ⟨g', 0, none⟩) (F.length + 1) cap') x5 (by decide) hrow hgrow (by decide) (by decide); have hc1 := hv1.cell; have hf1 := hv1.frozen)
      exact ⟨hk2, ⟨hb2.mono (by omega), hkt⟩, ⟨⟨⟨⟨(hb2.block _ (by omega)).trans x1, (hb2.block _ (by omega)).trans x2⟩, (hb2.block _ (by omega)).trans x3, (hb2.block _ (by omega)).trans x4⟩, _, hv2, by rw [HT.out]; simpa using hr2, by rw [HT.out]; simp; omega, some ⟨g', 0, none⟩, cap', by rw [HT.out]; simp⟩, hB0.trans hb2⟩, hB.trans (hb2.mono (by omega))⟩
  case done =>
    rintro D ys W hD hS ⟨⟨⟨⟨⟨x1, x2⟩, x3, x4⟩, v, x5, hrow, h200, A1, c1, rfl⟩, hB0⟩, hB⟩ hK
    have hF : flM f t ys = mrL zs f t := by unfold flM; rw [hS]; rfl
    rw [hF] at h200 hrow x5
    have HC := Lib.hid (show mrC zs f t = 0 ∧ moL zs f t = mrL zs f t by
      have e : mrC zs f t = 0 := by rw [HCM.out, if_neg (by omega)]
      exact ⟨e, by unfold moL; rw [if_pos e]⟩)
    clear hF
    generalize mrL zs f t = F at *
    have k5 := x5.cell
    have k3 := x3.cell
    have k4 := x4.cell
    have f3 := x3.frozen
    have f4 := x4.frozen
    have hne : b2 ≠ b3 := by omega
    have HO := Lib.hid hrow
    have hK2 := ((KeepsOthers.setCell W ⟨b2, 0, none⟩ (.slice A1 F.length c1)).trans (KeepsOthers.setCell _ ⟨b3, 0, none⟩ (.int .i64 0))).same D _ hK rfl
    gi_wp2
    refine ⟨by simp, .inl ⟨_, _, rfl, run_takeDeferred hK2, ?_⟩⟩
    have z3 := cell_kept ((x3.set (.slice A1 F.length c1)).other hne (.int .i64 0)).cell (grownBy_putObj' _ D (.deferred none)) (fun r e => by cases e; exact ⟨_, hK2, rfl⟩)
    have z4 := cell_kept ((x4.other hne.symm (.slice A1 F.length c1)).set (.int .i64 0)).cell (grownBy_putObj' _ D (.deferred none)) (fun r e => by cases e; exact ⟨_, hK2, rfl⟩)
    have hB2 := ((hB.setCell (p := ⟨b2, 0, none⟩) (by simp; omega) (.slice A1 F.length c1)).setCell (p := ⟨b3, 0, none⟩) (by simp; omega) (.int .i64 0))
    have hO2 := (HO.out.kept (grownBy_setCell' W b2 (.slice A1 F.length c1)) (.inr (fun e => by have := (HO.out.lt _ e).1; omega))).kept (grownBy_setCell' _ b3 (.int .i64 0)) (.inr (fun e => by have := (HO.out.lt _ e).1; omega))
    exact ⟨.tuple #[.slice A1 F.length c1, .int .i64 0], by simp [results, Try.results12, go_sem, z3, z4], ⟨_, by rw [HC.out.1], by rw [HC.out.2]; exact World.ownsRow.mono (ownsRow_putObj hO2 _ hK2 rfl) (by omega)⟩, hB2.trans (belowK_b (w := w) (Nat.le_refl _) _ D _ _ (by omega) hK2 rfl rfl)⟩
  case stop =>
    rintro D cd pre W hD hS ⟨⟨⟨rfl, h⟩, x3, x4⟩, hB⟩ hK
    have hlt : 200 < (mrL zs f t).length := by
      have h1 : flM f t pre <+: mrL zs f t := by
        obtain ⟨r, hr⟩ := hS
        exact ⟨r.filter (inR f t), by unfold flM mrL; rw [← hr, List.filter_append]⟩
      have := h1.length_le
      omega
    have HC := Lib.hid (show mrC zs f t = 3 ∧ moL zs f t = [] by
      have e : mrC zs f t = 3 := by rw [HCM.out, if_pos hlt]
      exact ⟨e, by unfold moL; rw [if_neg (by omega)]⟩)
    have z3 := cell_kept x3.cell (grownBy_putObj' _ D (.deferred none)) (fun r e => by cases e; exact ⟨_, hK, rfl⟩)
    have z4 := cell_kept x4.cell (grownBy_putObj' _ D (.deferred none)) (fun r e => by cases e; exact ⟨_, hK, rfl⟩)
    gi_wp2
    refine ⟨by simp, .inl ⟨_, _, rfl, run_takeDeferred hK, ?_⟩⟩
    exact ⟨.tuple #[.slice none 0 0, .int .i64 3], by simp [results, Try.results12, go_sem, z3, z4], ⟨_, by rw [HC.out.1], by rw [HC.out.2]; exact World.ownsRow_nil _ _ _ _⟩, hB.trans (belowK_b (w := w) (Nat.le_refl _) _ D _ _ (by omega) hK rfl rfl)⟩

set_option maxRecDepth 100000 in
set_option maxHeartbeats 2000000 in
theorem mo_impl (A : Option Addr) (n c : Nat) (zs : List P3) (f t : Int) (w : World) (hn : zs.length = n) (hN : n ≤ 16777216) (hA : Reads w w.heap.size A (cells3 zs)) (hW : Wf3 zs) :
    Calls Try.prog 12 #[.slice A n c, .int .i64 f, .int .i64 t] w fun e w' => (∃ v, e = .returned (.tuple #[v, .int .i64 (mrC zs f t)]) ∧ Lst w' w.heap.size v (moL zs f t)) ∧ Below w.heap.size w w' := by
  have HG := Lib.hid (fun W (hg : Gr w W) => gd_impl A n c zs W hn hN (hA.gr hg) hW)
  have HD1 := Lib.hid (fun W => areDigits_any f W)
  have HD2 := Lib.hid (fun W => areDigits_any t W)
  have HNIL := Lib.hid (fun W => World.ownsRow_nil W w.heap.size 2 1)
  rcases Bool.eq_false_or_eq_true (gd zs) with hv | hv
  rotate_left
  · have HC := Lib.hid (show mrC zs f t = 1 ∧ moL zs f t = [] by
      have e : mrC zs f t = 1 := by unfold mrC; rw [if_pos hv]
      exact ⟨e, by unfold moL; rw [if_neg (by omega)]⟩)
    rw [hv] at HG
    clear hv hA hn
    go_enter Try.func12, Try.ntmps12
    go_wp2_with (go_at_call 21; refine (HG.out _ (by repeat (first | with_reducible exact Gr.refl _ | with_reducible refine Gr.alloc ?_ _ | with_reducible refine Gr.gr ?_ _ _ | with_reducible refine Gr.drew ?_ | with_reducible refine Gr.drewN ?_ _))).mono ?_; rintro e w' ⟨rfl, kk, os, rfl⟩)
    ((try simp only [Exit.inBlock, Exit.then]); refine bodyPost_ret (v := .tuple #[.slice none 0 0, .int .i64 1]) (by simp [results, Try.results12, go_sem]) rfl ?_)
    exact ⟨⟨_, by rw [HC.out.1], by rw [HC.out.2]; exact HNIL.out _⟩, Gr.below (by repeat (first | with_reducible exact Gr.refl _ | with_reducible refine Gr.alloc ?_ _ | with_reducible refine Gr.gr ?_ _ _ | with_reducible refine Gr.drew ?_ | with_reducible refine Gr.drewN ?_ _))⟩
  rw [hv] at HG
  have hr : ∀ (h : inR 1000 9999 f = false ∨ inR 1000 9999 t = false), mrC zs f t = 2 ∧ moL zs f t = [] := fun h => by
    have e : mrC zs f t = 2 := by unfold mrC; rw [if_neg (by rw [hv]; simp), if_pos h]
    exact ⟨e, by unfold moL; rw [if_neg (by omega)]⟩
  rcases decb7 (1000 ≤ f ∧ f ≤ 9999) with hd | hd
  rotate_left
  · have HC := Lib.hid (hr (.inl hd))
    rw [hd] at HD1
    clear hr hv hd hA hn
    go_enter Try.func12, Try.ntmps12
    go_wp2_with (first | (go_at_call 21; refine (HG.out _ (by repeat (first | with_reducible exact Gr.refl _ | with_reducible refine Gr.alloc ?_ _ | with_reducible refine Gr.gr ?_ _ _ | with_reducible refine Gr.drew ?_ | with_reducible refine Gr.drewN ?_ _))).mono ?_; rintro e w' ⟨rfl, kk, os, rfl⟩) | (go_at_call 47; with_reducible refine (HD1.out _).mono ?_; rintro e w' ⟨rfl, rfl⟩))
    ((try simp only [Exit.inBlock, Exit.then]); refine bodyPost_ret (v := .tuple #[.slice none 0 0, .int .i64 2]) (by simp [results, Try.results12, go_sem]) rfl ?_)
    exact ⟨⟨_, by rw [HC.out.1], by rw [HC.out.2]; exact HNIL.out _⟩, Gr.below (by repeat (first | with_reducible exact Gr.refl _ | with_reducible refine Gr.alloc ?_ _ | with_reducible refine Gr.gr ?_ _ _ | with_reducible refine Gr.drew ?_ | with_reducible refine Gr.drewN ?_ _))⟩
  rcases decb7 (1000 ≤ t ∧ t ≤ 9999) with hd2 | hd2
  rotate_left
  · have HC := Lib.hid (hr (.inr hd2))
    rw [hd2] at HD2
    rw [hd] at HD1
    clear hr hv hd hd2 hA hn
    go_enter Try.func12, Try.ntmps12
    go_wp2_with (first | (go_at_call 21; refine (HG.out _ (by repeat (first | with_reducible exact Gr.refl _ | with_reducible refine Gr.alloc ?_ _ | with_reducible refine Gr.gr ?_ _ _ | with_reducible refine Gr.drew ?_ | with_reducible refine Gr.drewN ?_ _))).mono ?_; rintro e w' ⟨rfl, kk, os, rfl⟩) | (go_at_call 47; with_reducible refine (HD1.out _).mono ?_; rintro e w' ⟨rfl, rfl⟩) | (go_at_call 47; with_reducible refine (HD2.out _).mono ?_; rintro e w' ⟨rfl, rfl⟩))
    ((try simp only [Exit.inBlock, Exit.then]); refine bodyPost_ret (v := .tuple #[.slice none 0 0, .int .i64 2]) (by simp [results, Try.results12, go_sem]) rfl ?_)
    exact ⟨⟨_, by rw [HC.out.1], by rw [HC.out.2]; exact HNIL.out _⟩, Gr.below (by repeat (first | with_reducible exact Gr.refl _ | with_reducible refine Gr.alloc ?_ _ | with_reducible refine Gr.gr ?_ _ _ | with_reducible refine Gr.drew ?_ | with_reducible refine Gr.drewN ?_ _))⟩
  exact mo_impl1 A n c zs f t w hn hN hA hW hv hd hd2
end Go.Proofs.Ytggflladheemoaa
