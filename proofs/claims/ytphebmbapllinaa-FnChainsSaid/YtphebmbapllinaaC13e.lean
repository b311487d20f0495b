/- Contracts of chapter 13: chains sorted, in the program; lists of terms put behind one another. -/
import Derived.Test.YtphebmbapllinaaC13d
import Derived.Test.YtphebmbapllinaaC13b
import Derived.Test.Ytphebmbapllinaa1A
import Derived.Lib.AppendZeros
namespace Go.Proofs.Ytphebmbapllinaa
open Go.RowKit Go.Shelf Go.ChangeShapes Go.WideShapes Go.ChangeAt
set_option linter.unusedVariables false
set_option linter.unusedSimpArgs false

/-- Grown from nothing: room for n terms, none in it. -/
theorem growT_any (n : Nat) (w : World) (h0 : 0 < n) (hN : n ≤ 1048576) :
    Calls Try.prog 74 #[.slice none 0 0, .int .i64 (n : Int)] w fun e w' => (∃ G : Nat, e = .returned (.slice (some ⟨w.heap.size, 0, none⟩) 0 G) ∧ LstG tcl 3 64 w' w.heap.size (.slice (some ⟨w.heap.size, 0, none⟩) 0 G) []) ∧ Below w.heap.size w w' := by
  obtain ⟨i0, hinf, hz0, hz1, hz2⟩ := info_parts info_term
  have hr := fun ty => Lib.run_append_nil_zeros (P := Try.prog) w 24 3 ty 64 i0 _ .i64 .i64 Try.underlying24 Try.underlying3 hinf hz0 n h0 (by omega) (by omega) (by rw [hz2]; omega)
  have hge := grownCap_ge w n 0 64
  have hle := grownCap_le_maxLen w n 0 64 (by unfold maxLen; omega)
  have hzc : (Builtin.zeroCells (.agg #[vi 0, vi 0, .bool false] : Value).cells n ++ Builtin.zeroCells (.agg #[vi 0, vi 0, .bool false] : Value).cells (grownCap w n 0 64 - n)).size = grownCap w n 0 64 * 3 := by
    rw [Array.size_append, size_zeroCells, size_zeroCells]
    have e3 : n + (grownCap w n 0 64 - n) = grownCap w n 0 64 := by omega
    rw [← Nat.add_mul, e3]
    rfl
  generalize Builtin.zeroCells (.agg #[vi 0, vi 0, .bool false] : Value).cells n ++ Builtin.zeroCells (.agg #[vi 0, vi 0, .bool false] : Value).cells (grownCap w n 0 64 - n) = cells at *
  generalize grownCap w n 0 64 = G at *
  have hG : Gr w (w.drew.alloc (.cells cells 64)) := ((Gr.refl w).drew).alloc _
  have hrow : Row (w.drew.alloc (.cells cells 64)) w.heap.size 64 (tcells [] ++ cells.toList) := by
    have := Blk.new w.drew 64 cells
    simpa [Row, Blk, tcells] using this
  have HL := Lib.hid (show LstG tcl 3 64 (w.drew.alloc (.cells cells 64)) w.heap.size (.slice (some ⟨w.heap.size, 0, none⟩) 0 G) [] from LstG.of_rowT (Nat.le_refl _) hrow rfl hle (Nat.zero_le _) (by simpa using hzc))
  have hGb : G ≤ 9223372036854775807 := by unfold maxLen at hle; omega
  have hn0 : (0 : Int) < (n : Int) := by omega
  have hnn : ¬ ((n : Int) < 0) := by omega
  have HG := Lib.hid hG
  clear hG hrow hzc
  go_enter Try.func74, Try.ntmps74
  go_wp2_with (at_builtin; refine Lib.wpList_append_run _ rfl _ _ _ _ rfl _ _ rfl rfl _ _ (hr _) ?_)
  go_ret
  exact ⟨⟨G, rfl, HL.out⟩, HG.out.below⟩

/-- A slice of terms: its address, length and capacity; its terms. -/
abbrev SlT : Type := (Option Addr × Nat × Nat) × List Tm
def slV (p : SlT) : Value := .slice p.1.1 p.1.2.1 p.1.2.2
def catT (ps : List SlT) : List Tm := ps.flatMap fun p => p.2
theorem catT_snoc {ps : List SlT} {k : Nat} {p : SlT} (h : ps[k]? = some p) : catT (ps.take (k + 1)) = catT (ps.take k) ++ p.2 := by
  obtain ⟨h1, e⟩ := List.getElem?_eq_some_iff.1 h
  unfold catT
  rw [List.take_succ_eq_append_getElem h1, e, List.flatMap_append]
  simp
theorem catT_le (ps : List SlT) (k : Nat) : (catT (ps.take k)).length ≤ (catT ps).length := by
  unfold catT
  conv => rhs; rw [← List.take_append_drop k ps, List.flatMap_append, List.length_append]
  omega
/-- What is asked of a slice of terms in a world. -/
structure IsSlT (w : World) (p : SlT) : Prop where
  len : p.2.length = p.1.2.1
  reads : Reads w w.heap.size p.1.1 (tcells p.2)
  nil : p.1.1 = none → p.1.2.2 = 0 ∧ p.1.2.1 = 0
set_option maxRecDepth 100000 in
set_option maxHeartbeats 8000000 in
theorem concat_any (g q cq : Nat) (ps : List SlT) (w : World) (hq : ps.length = q) (hq3 : q ≤ 16) (hg : g < w.heap.size) (hR : ∀ k p, ps[k]? = some p → w.cell? ⟨g, k, none⟩ = some (slV p)) (hp : ∀ p ∈ ps, IsSlT w p) (h0 : 0 < (catT ps).length) (hN : (catT ps).length ≤ 1048576) :
    Calls Try.prog 51 #[.slice (some ⟨g, 0, none⟩) q cq] w fun e w' => (∃ v, e = .returned v ∧ LstG tcl 3 64 w' w.heap.size v (catT ps)) ∧ Below w.heap.size w w' := by
  have HQ := Lib.hid hq
  have HR := Lib.hid hR
  have HP := Lib.hid (fun k p (h : ps[k]? = some p) => hp p (List.mem_of_getElem? h))
  have HC := Lib.hid (fun k => catT_le ps k)
  have HGr := Lib.hid (growT_any (catT ps).length w h0 hN)
  have HT := Lib.hid (fun k p (h : ps[k]? = some p) => catT_snoc h)
  have HE := Lib.hid (show ps.take q = ps from List.take_of_length_le (by omega))
  obtain ⟨i0, hinf, hz0, hz1, hz2⟩ := info_parts info_term
  clear hq hR hp
  go_enter Try.func51, Try.ntmps51
  go_wp2
  go_loop [3, 11] (fun x i => ∃ k : Nat, k ≤ q ∧ x = .int .i64 ((catT (ps.take k)).length : Int) ∧ i = .int .i64 k) (fun _ i => q - (intOf i).toNat)
  case atStart => exact ⟨0, by omega, by simp [catT], rfl⟩
  case round =>
    obtain ⟨k, hk, rfl, rfl⟩ := hrel
    by_cases hlt : k < q
    · obtain ⟨p, hpk⟩ := some_at (l := ps) (k := k) (by rw [HQ.out]; exact hlt)
      have x0 := HR.out k p hpk
      have hl := (HP.out k p hpk).len
      have hc1 := HC.out (k + 1)
      have hT := HT.out k p hpk
      rw [hT, List.length_append, hl] at hc1
      have HX := Lib.hid (show ((catT (ps.take (k + 1))).length : Int) = ((catT (ps.take k)).length : Int) + (p.1.2.1 : Int) by rw [hT, List.length_append, hl]; omega)
      obtain ⟨⟨A, n1, c1⟩, xs⟩ := p
      unfold slV at x0
      simp only at x0 hc1 HX
      clear hpk hT hl
      generalize (catT (ps.take k)).length = z at *
      have hz : ¬ (((z : Int) + (n1 : Int)) < 0) := by omega
      go_wp2
      go_round
      case rel => exact ⟨k + 1, by omega, by rw [HX.out], by go_num⟩
      case measure => simp [intOf]; omega
    · obtain rfl : k = q := by omega
      rw [HE.out]
      go_wp2_with fail
      refine HGr.out.mono ?_
      rintro e w1 ⟨⟨G, rfl, hL⟩, hb1⟩
      have HL := Lib.hid hL
      have HB := Lib.hid hb1
      clear hL hb1
      go_wp2_with fail
      go_loopw [6, 27] (fun u i wr => ∃ j : Nat, j ≤ k ∧ i = .int .i64 j ∧ LstG tcl 3 64 wr w.heap.size u (catT (ps.take j)) ∧ Below w.heap.size w wr) (fun _ i _ => k - (intOf i).toNat)
      case atStart => exact ⟨0, by omega, rfl, HL.out, HB.out⟩
      case round =>
        clear HL HB
        obtain ⟨j, hj, rfl, hO, hW⟩ := hrel
        have hws := hW.size
        by_cases hlt : j < k
        · obtain ⟨p, hpk⟩ := some_at (l := ps) (k := j) (by rw [HQ.out]; exact hlt)
          have x0 := (hW.cell (p := ⟨g, j, none⟩) hg).trans (HR.out j p hpk)
          have hP := HP.out j p hpk
          have hc1 := HC.out (j + 1)
          have HTj := Lib.hid (HT.out j p hpk)
          rw [HTj.out, List.length_append, hP.len] at hc1
          have HM := Lib.hid (show (tcells p.2).length = p.1.2.1 * 3 by rw [tcells_len, hP.len])
          have HON := Lib.hid (tone p.2)
          have HNIL := Lib.hid hP.nil
          have HLEN := Lib.hid hP.len
          have HNW := Lib.hid (fun (h : 0 < p.1.2.1) => show ∃ ad, p.1.1 = some ad ∧ ∀ j u, (tcells p.2)[j]? = some u → wr.cell? (ad.add j) = some u by
            cases hA : p.1.1 with
            | none => have := (hP.nil hA).2; omega
            | some ad =>
              refine ⟨ad, rfl, ?_⟩
              have h2 := hP.reads.below hW
              rw [hA] at h2
              exact news_of h2)
          obtain ⟨⟨A, n1, c1⟩, xs⟩ := p
          unfold slV at x0
          simp only at x0 hc1 HM HON HNIL HNW HTj HLEN
          have HO := Lib.hid hO
          have HW := Lib.hid hW
          clear hpk hP hO hW
          generalize catT (ps.take j) = ys at *
          go_wp2_with (at_builtin; refine wpList_append_ownA _ rfl _ _ 24 rfl w.heap.size 64 i0 (.agg #[vi 0, vi 0, .bool false]) 3 24 Try.underlying24 hinf hz0 hz1 hz2 rfl (by decide) _ _ _ rfl HO.out A n1 c1 (tcells xs) rfl HNIL.out HM.out HNW.out HON.out (by simp [maxLen]; omega) (by omega) hws ?_; intro v' w4 hown' hgrow; have HV := Lib.hid (show LstG tcl 3 64 w4 w.heap.size v' (ys ++ xs) by unfold LstG; rw [List.flatMap_append, List.length_append, HLEN.out]; exact hown'); have HGW := Lib.hid (HW.out.grown hgrow hws (fun k hk => (World.ownsRow.lt HO.out k hk).1)); clear hown' hgrow)
          go_roundw
          case rel => exact ⟨j + 1, by omega, by go_num, by rw [HTj.out]; exact HV.out, HGW.out⟩
          case measure => simp [intOf]; omega
        · obtain rfl : j = k := by omega
          rw [HE.out] at hO
          go_wp2
          go_ret
          exact ⟨⟨_, rfl, hO⟩, hW⟩

/-- The terms of one kind. -/
theorem wth_app (b : Bool) (l : List Tm) (m : Tm) : wth b (l ++ [m]) = wth b l ++ (if m.2.2 == b then [m] else []) := by
  unfold wth
  rw [List.filter_append]
  congr 1
  cases hc : (m.2.2 == b) <;> simp [List.filter, hc]
set_option maxRecDepth 100000 in
set_option maxHeartbeats 8000000 in
theorem with_any (A : Option Addr) (n c : Nat) (ls : List Tm) (b : Bool) (w : World) (hn : ls.length = n) (hN : n ≤ 1048576) (hA : Reads w w.heap.size A (tcells ls)) :
    Calls Try.prog 49 #[.slice A n c, .bool b] w fun e w' => (∃ v, e = .returned v ∧ v ≠ .slice none 0 0 ∧ LstG tcl 3 64 w' w.heap.size v (wth b ls)) ∧ Below w.heap.size w w' := by
  have HL := Lib.hid hn
  have RA := Lib.hid hA
  have HO0 : Hid (LstG tcl 3 64 (w.alloc (.cells #[] 64)) w.heap.size (.slice (some ⟨w.heap.size, 0, none⟩) 0 0) []) := Lib.hid (LstG.new _ w w.heap.size (Nat.le_refl _))
  have HB0 : Hid (Below w.heap.size w (w.alloc (.cells #[] 64))) := Lib.hid ((Below.refl _ w).alloc (Nat.le_refl _) _)
  have HWL := Lib.hid (fun k => show (wth b (ls.take k)).length ≤ n from Nat.le_trans (wth_len b _) (by rw [List.length_take, hn]; omega))
  obtain ⟨i0, hinf, hz0, hz1, hz2⟩ := info_parts info_term
  clear hn hA
  go_enter Try.func49, Try.ntmps49
  go_wp2
  generalize w.alloc (.cells #[] 64) = w1 at *
  go_loopw [5, 11] (fun u i wr => ∃ k : Nat, k ≤ n ∧ i = .int .i64 k ∧ u ≠ .slice none 0 0 ∧ LstG tcl 3 64 wr w.heap.size u (wth b (ls.take k)) ∧ Below w.heap.size w wr) (fun _ i _ => n - (intOf i).toNat)
  case atStart => exact ⟨0, by omega, rfl, by simp, HO0.out, HB0.out⟩
  case round =>
    clear HO0 HB0
    obtain ⟨k, hk, rfl, hnn, hO, hW⟩ := hrel
    have hws := hW.size
    by_cases hlt : k < n
    · obtain ⟨q, hq⟩ := some_at (l := ls) (k := k) (by rw [HL.out]; exact hlt)
      obtain ⟨g, o, rfl, hg, x0, x1, x2⟩ := (RA.out.below hW).att hq
      have HT := Lib.hid (wth_snoc (b := b) hq)
      have hjl := HWL.out k
      obtain ⟨qd, qt, qb⟩ := q
      simp only at x0 x1 x2 HT
      clear hq
      have HO := Lib.hid hO
      have HW := Lib.hid hW
      have HNN := Lib.hid hnn
      clear hO hW hnn
      generalize wth b (ls.take k) = xs at *
      rcases (show (qb == b) = true ∨ (qb == b) = false by cases (qb == b) <;> simp) with hc | hc
      · rw [hc, if_pos rfl] at HT
        obtain rfl : qb = b := by simpa using hc
        clear hc
        have hbb : (qb == qb) = true := by simp
        go_wp2_with (at_builtin; refine wpList_append_own _ rfl _ _ 24 rfl w.heap.size 64 i0 (.agg #[vi 0, vi 0, .bool false]) 3 24 Try.underlying24 hinf hz0 hz1 hz2 rfl (by decide) _ _ _ rfl ((HO.out.alloc _).alloc _) ⟨wr.heap.size + 1, 0, none⟩ 1 1 [vi qd, vi qt, .bool _] rfl rfl (by simpa using three_cells_new (wr.alloc (.cells #[vi qd, vi qt, .bool _] 64)) _ _ _ _) (by simp [Value.oneCell']) (by unfold maxLen; omega) (by omega) (by simp; omega) ?_; intro v' w4 hown' hgrow hnil'; obtain ⟨hA1, hA2⟩ := LstG.appT (m := (qd, qt, _)) (HW.out.alloc hws _) (by simp; omega) ((HO.out.alloc _).alloc _) hown' hgrow; have HA1 := Lib.hid hA1; have HA2 := Lib.hid hA2; have HA3 := Lib.hid (show v' ≠ .slice none 0 0 from fun e => HNN.out (hnil'.1 e).1); clear hA1 hA2 hown' hgrow hnil')
        go_roundw
        case rel => exact ⟨k + 1, by omega, by go_num, HA3.out, by rw [HT.out]; exact HA1.out, HA2.out⟩
        case measure => simp [intOf]; omega
      · rw [hc, if_neg (by simp), List.append_nil] at HT
        go_wp2
        go_roundw
        case rel => exact ⟨k + 1, by omega, by go_num, HNN.out, by rw [HT.out]; exact LstG.below HO.out ((Below.refl _ _).alloc (Nat.le_refl _) _), HW.out.alloc hws _⟩
        case measure => simp [intOf]; omega
    · obtain rfl : k = n := by omega
      have HE := Lib.hid (show ls.take k = ls from List.take_of_length_le (by rw [HL.out]; omega))
      rw [HE.out] at hO
      go_wp2
      go_ret
      exact ⟨⟨_, rfl, hnn, hO⟩, hW⟩
theorem minN_any (a b : Nat) (w : World) (ha : a ≤ 1048576) (hb : b ≤ 1048576) :
    Calls Try.prog 50 #[.int .i64 (a : Int), .int .i64 (b : Int)] w fun e w' => e = .returned (.int .i64 ((min a b : Nat) : Int)) ∧ w = w' := by
  by_cases h : (b : Int) < a
  · have e : min a b = b := by omega
    rw [e]
    go_enter Try.func50, Try.ntmps50
    go_wp2
    go_ret
    exact ⟨rfl, rfl⟩
  · have e : min a b = a := by omega
    rw [e]
    go_enter Try.func50, Try.ntmps50
    go_wp2
    go_ret
    exact ⟨rfl, rfl⟩
end Go.Proofs.Ytphebmbapllinaa
