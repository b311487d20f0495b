/- Contracts of chapter 11: settings, scales of a part, rules, in the program and in the model; the laws' copies. -/
import Derived.Test.YtefhhigcplemaaaGreatDoorMF
import Derived.Test.YtefhhigcplemaaaGreatDoor1A
import Derived.Test.YtefhhigcplemaaaGreatDoorC10d
namespace Go.Proofs.YtefhhigcplemaaaGreatDoor
open Go.RowKit
set_option linter.unusedVariables false
set_option linter.unusedSimpArgs false

theorem Reads.take {w : World} {B : Nat} {A : Option Addr} {vs : List Value} (h : Reads w B A vs) (k : Nat) : Reads w B A (vs.take k) := fun j hj => by
  rw [List.length_take] at hj
  obtain ⟨g, o, e, hg, hc⟩ := h j (by omega)
  exact ⟨g, o, e, hg, by rw [hc, List.getElem_take]⟩
theorem has_hit {zs : List Int} {k : Nat} {v : Int} (h : zs[k]? = some v) : hasI zs v = true := (hasI_iff _ _).2 (List.mem_of_getElem? h)
theorem has_snoc {zs : List Int} {k : Nat} {z v : Int} (h : zs[k]? = some z) (hn : hasI (zs.take k) v = false) (hv : v ≠ z) : hasI (zs.take (k + 1)) v = false := by
  obtain ⟨hk, e⟩ := List.getElem?_eq_some_iff.1 h
  have hn' : v ∉ zs.take k := fun g => by rw [(hasI_iff _ _).2 g] at hn; cases hn
  cases hc : hasI (zs.take (k + 1)) v
  · rfl
  · have g := (hasI_iff _ _).1 hc
    rw [List.take_succ_eq_append_getElem hk, List.mem_append, e] at g
    rcases g with g | g
    · exact absurd g hn'
    · exact absurd (by simpa using g) hv

theorem above_impl (p : Int) (w : World) :
    Calls Tryz.prog 64 #[.int .i64 p] w fun e w' => e = .returned (.bool (abv p)) ∧ w = w' := by
  have HR := Lib.hid (show abv p = decide (0 ≤ p ∧ p ≤ 1048576) from rfl)
  generalize abv p = R at *
  by_cases h1 : 0 ≤ p <;> by_cases h2 : p ≤ 1048576
  all_goals
    go_enter Tryz.func64, Tryz.ntmps64
    go_wp2
    go_ret
    exact ⟨ret_bool (by rw [HR.out]; simp [h1, h2]), rfl⟩

theorem setting_impl (a c : Int) (w : World) :
    Calls Tryz.prog 20 #[.agg #[.int .i64 (a), .int .i64 (c)]] w fun e w' => e = .returned (.bool (sgB a c)) ∧ Gr w w' := by
  have HA := Lib.hid (fun W => above_impl c W)
  have HR := Lib.hid (show sgB a c = (decide (-1048576 ≤ a ∧ a ≤ 1048576) && abv c) from rfl)
  generalize sgB a c = R at *
  generalize abv c = x at *
  rcases (show (¬ -1048576 ≤ a ∧ a ≤ 1048576) ∨ (-1048576 ≤ a ∧ a ≤ 1048576) ∨ (-1048576 ≤ a ∧ ¬ a ≤ 1048576) by omega) with ⟨h1, h2⟩ | ⟨h1, h2⟩ | ⟨h1, h2⟩ <;> cases x
  all_goals
    go_enter Tryz.func20, Tryz.ntmps20
    go_wp2_with (go_at_call 64; refine (HA.out _).mono ?_; rintro e w' ⟨rfl, rfl⟩)
    go_ret
    exact ⟨ret_bool (by rw [HR.out]; simp [h1, h2]), (by repeat (first | with_reducible exact Gr.refl _ | with_reducible refine Gr.alloc ?_ _ | with_reducible refine Gr.gr ?_ _ _ | with_reducible refine Gr.drew ?_ | with_reducible refine Gr.drewN ?_ _))⟩
theorem setting_spec (a c : Int) (w : World) :
    Calls Tryz.prog 112 #[.agg #[.int .i64 (a), .int .i64 (c)]] w fun e w' => e = .returned (.bool (sgB a c)) ∧ Gr w w' := by
  have HA := Lib.hid (fun W => in_any a (-1048576) 1048576 W)
  have HC := Lib.hid (fun W => in_any c 0 1048576 W)
  rw [show decide (0 ≤ c ∧ c ≤ 1048576) = abv c from rfl] at HC
  have HR := Lib.hid (show sgB a c = (decide (-1048576 ≤ a ∧ a ≤ 1048576) && abv c) from rfl)
  generalize sgB a c = R at *
  generalize abv c = x at *
  generalize decide (-1048576 ≤ a ∧ a ≤ 1048576) = y at *
  cases y <;> cases x
  all_goals
    go_enter Tryz.func112, Tryz.ntmps112
    go_wp2_with (first | (go_at_call 144; (with_reducible refine (HA.out _).mono ?_); rintro e w' ⟨rfl, rfl⟩) | (go_at_call 144; (with_reducible refine (HC.out _).mono ?_); rintro e w' ⟨rfl, rfl⟩))
    go_ret
    exact ⟨ret_bool (by rw [HR.out]; rfl), (by repeat (first | with_reducible exact Gr.refl _ | with_reducible refine Gr.alloc ?_ _ | with_reducible refine Gr.gr ?_ _ _ | with_reducible refine Gr.drew ?_ | with_reducible refine Gr.drewN ?_ _))⟩
theorem index_any (A : Option Addr) (n c : Nat) (zs : List Int) (v : Int) (w : World) (hn : zs.length = n) (hN : n ≤ 16777216) (hR : Reads w w.heap.size A (zs.map vi)) :
    Calls Tryz.prog 178 #[.slice A n c, .int .i64 v] w fun e w' => (∃ r : Int, e = .returned (.int .i64 r) ∧ decide (0 ≤ r) = hasI zs v ∧ -1 ≤ r ∧ r ≤ 16777216) ∧ w = w' := by
  have HL := Lib.hid hn
  clear hn
  go_enter Tryz.func178, Tryz.ntmps178
  go_wp2
  go_loop [8] (fun i => ∃ k : Nat, k ≤ n ∧ i = .int .i64 k ∧ Hid (hasI (zs.take k) v = false)) (fun i => n - (intOf i).toNat)
  case atStart => exact ⟨0, by omega, rfl, Lib.hid (hasI_nil v)⟩
  case round =>
    obtain ⟨k, hk, rfl, ha⟩ := hrel
    by_cases hlt : k < n
    · obtain ⟨z, hz⟩ := some_at (l := zs) (k := k) (by rw [HL.out]; exact hlt)
      obtain ⟨g, o, rfl, hg, hc⟩ := hR.at_ (map_at hz)
      have HZ := Lib.hid hz
      clear hz
      by_cases hv : v = z
      · subst hv
        have hb : (v == v) = true := by simp
        go_wp2
        go_ret
        exact ⟨⟨k, rfl, by rw [has_hit HZ.out]; simp, by omega, by omega⟩, rfl⟩
      · have HV := Lib.hid hv
        have hb : (v == z) = false := by simp [hv]
        clear hv
        go_wp2
        go_round
        case rel => exact ⟨k + 1, by omega, by go_num, Lib.hid (has_snoc HZ.out ha.out HV.out)⟩
        case measure => simp [intOf]; omega
    · have HF := Lib.hid (show zs.take k = zs from List.take_of_length_le (by rw [HL.out]; omega))
      go_wp2
      go_ret
      exact ⟨⟨-1, rfl, by have := ha.out; rw [HF.out] at this; rw [this]; decide, by omega, by omega⟩, rfl⟩
theorem contains_any (A : Option Addr) (n c : Nat) (zs : List Int) (v : Int) (w : World) (hn : zs.length = n) (hN : n ≤ 16777216) (hR : Reads w w.heap.size A (zs.map vi)) :
    Calls Tryz.prog 152 #[.slice A n c, .int .i64 v] w fun e w' => e = .returned (.bool (hasI zs v)) ∧ w = w' := by
  have HI := Lib.hid (fun W h => index_any A n c zs v W hn hN h)
  clear hn
  go_enter Tryz.func152, Tryz.ntmps152
  go_wp2_with (go_at_call 178; refine (HI.out _ hR).mono ?_; rintro e w' ⟨⟨r, rfl, hr, r1, r2⟩, rfl⟩; have HRr := Lib.hid hr; clear hr)
  go_ret
  exact ⟨ret_bool (by rw [← HRr.out]), rfl⟩
theorem has_spec (A : Option Addr) (n c : Nat) (zs : List Int) (v : Int) (w : World) (hn : zs.length = n) (hN : n ≤ 16777216) (hR : Reads w w.heap.size A (zs.map vi)) :
    Calls Tryz.prog 102 #[.slice A n c, .int .i64 v] w fun e w' => e = .returned (.bool (hasI zs v)) ∧ w = w' := by
  have HL := Lib.hid hn
  clear hn
  go_enter Tryz.func102, Tryz.ntmps102
  go_wp2
  go_loop [5] (fun i => ∃ k : Nat, k ≤ n ∧ i = .int .i64 k ∧ Hid (hasI (zs.take k) v = false)) (fun i => n - (intOf i).toNat)
  case atStart => exact ⟨0, by omega, rfl, Lib.hid (hasI_nil v)⟩
  case round =>
    obtain ⟨k, hk, rfl, ha⟩ := hrel
    by_cases hlt : k < n
    · obtain ⟨z, hz⟩ := some_at (l := zs) (k := k) (by rw [HL.out]; exact hlt)
      obtain ⟨g, o, rfl, hg, hc⟩ := hR.at_ (map_at hz)
      have HZ := Lib.hid hz
      clear hz
      by_cases hv : z = v
      · subst hv
        have hb : (z == z) = true := by simp
        go_wp2
        go_ret
        exact ⟨ret_bool (has_hit HZ.out).symm, rfl⟩
      · have HV := Lib.hid (fun h => hv (Eq.symm h))
        have hb : (z == v) = false := by simp [hv]
        clear hv
        go_wp2
        go_round
        case rel => exact ⟨k + 1, by omega, by go_num, Lib.hid (has_snoc HZ.out ha.out HV.out)⟩
        case measure => simp [intOf]; omega
    · have HF := Lib.hid (show zs.take k = zs from List.take_of_length_le (by rw [HL.out]; omega))
      go_wp2
      go_ret
      exact ⟨ret_bool (by have := ha.out; rw [HF.out] at this; rw [this]), rfl⟩

theorem okS_to {zs : List Int} {n : Nat} (hl : zs.length = n) (h : ∀ i, i < n → okAt zs i = true) : okS zs = true := (okS_iff zs).2 (fun i hi => h i (by omega))
theorem ok_next {zs : List Int} {k : Nat} {z : Int} (hz : zs[k]? = some z) (h : ∀ i, i < k → okAt zs i = true) (h1 : lsc z = true) (h2 : hasI (zs.take k) z = false) : ∀ i, i < k + 1 → okAt zs i = true := fun i hi => by
  rcases Nat.lt_succ_iff_lt_or_eq.1 hi with g | rfl
  · exact h i g
  · rw [okAt_some hz, h1, h2]; rfl
set_option maxHeartbeats 1000000 in
theorem areScales_impl (A : Option Addr) (n c : Nat) (zs : List Int) (w : World) (hn : zs.length = n) (hN : n ≤ 16777216) (hnc : n ≤ c) (hR : Reads w w.heap.size A (zs.map vi)) :
    Calls Tryz.prog 106 #[.slice A n c] w fun e w' => e = .returned (.bool (arS zs)) ∧ Gr w w' := by
  have HL := Lib.hid hn
  have HS := Lib.hid (fun s W => logScale_impl s W)
  by_cases h1 : 1 ≤ n
  rotate_left
  · have HX := Lib.hid (arS_len (zs := zs) (by omega))
    clear hn
    go_enter Tryz.func106, Tryz.ntmps106
    go_wp2
    go_ret
    exact ⟨ret_bool HX.out.symm, (by repeat (first | with_reducible exact Gr.refl _ | with_reducible refine Gr.alloc ?_ _ | with_reducible refine Gr.gr ?_ _ _ | with_reducible refine Gr.drew ?_ | with_reducible refine Gr.drewN ?_ _))⟩
  by_cases h2 : n ≤ 6
  rotate_left
  · have HX := Lib.hid (arS_len (zs := zs) (by omega))
    clear hn
    go_enter Tryz.func106, Tryz.ntmps106
    go_wp2
    go_ret
    exact ⟨ret_bool HX.out.symm, (by repeat (first | with_reducible exact Gr.refl _ | with_reducible refine Gr.alloc ?_ _ | with_reducible refine Gr.gr ?_ _ _ | with_reducible refine Gr.drew ?_ | with_reducible refine Gr.drewN ?_ _))⟩
  clear hn
  go_enter Tryz.func106, Tryz.ntmps106
  go_wp2
  go_loopw [15] (fun i wr => ∃ k : Nat, k ≤ n ∧ i = .int .i64 k ∧ Hid (∀ i, i < k → okAt zs i = true) ∧ Gr w wr) (fun i _ => n - (intOf i).toNat)
  case atStart => exact ⟨0, by omega, rfl, Lib.hid (fun i hi => by omega), Gr.refl _⟩
  case round =>
    obtain ⟨k, hk, rfl, ha, hg0⟩ := hrel
    by_cases hlt : k < n
    · have hkc : k ≤ c := by omega
      obtain ⟨z, hz⟩ := some_at (l := zs) (k := k) (by rw [HL.out]; exact hlt)
      obtain ⟨g, o, rfl, hg, hc⟩ := hR.at_ (map_at hz)
      have hc' : wr.cell? ⟨g, o + k, none⟩ = some (vi z) := (hg0.below.cell (p := ⟨g, o + k, none⟩) hg).trans hc
      have HT := Lib.hid (fun cc W (hr : Reads W W.heap.size (some ⟨g, o, none⟩) (zs.map vi)) => contains_any (some ⟨g, o, none⟩) k cc (zs.take k) z W (by rw [List.length_take, HL.out]; omega) (by omega) (by rw [List.map_take]; exact hr.take k))
      have HRR := Lib.hid (hR.gr hg0)
      have HZ := Lib.hid hz
      clear hz hc
      rcases (lsc_tf z) with hl | hl
      · rcases hasI_tf (zs.take k) z with hm | hm
        · have HX := Lib.hid (arS_no (okS_bad HZ.out (.inr hm)))
          rw [hm] at HT
          have E := Lib.hid hl
          clear hm hl
          go_wp2_with (first | (go_at_call 153; refine (HS.out _ _).mono ?_; rw [E.out]; rintro e w' ⟨rfl, rfl⟩) | (go_at_call 152; refine (HT.out _ _ HRR.out).mono ?_; rintro e w' ⟨rfl, rfl⟩))
          go_ret
          exact ⟨ret_bool HX.out.symm, hg0⟩
        · have HX := Lib.hid (ok_next HZ.out ha.out hl hm)
          rw [hm] at HT
          have E := Lib.hid hl
          clear hm hl
          go_wp2_with (first | (go_at_call 153; refine (HS.out _ _).mono ?_; rw [E.out]; rintro e w' ⟨rfl, rfl⟩) | (go_at_call 152; refine (HT.out _ _ HRR.out).mono ?_; rintro e w' ⟨rfl, rfl⟩))
          go_roundw
          case rel => exact ⟨k + 1, by omega, by go_num, HX, hg0⟩
          case measure => simp [intOf]; omega
      · have HX := Lib.hid (arS_no (okS_bad HZ.out (.inl hl)))
        have E := Lib.hid hl
        clear hl
        go_wp2_with (go_at_call 153; refine (HS.out _ _).mono ?_; rw [E.out]; rintro e w' ⟨rfl, rfl⟩)
        go_ret
        exact ⟨ret_bool HX.out.symm, hg0⟩
    · obtain rfl : k = n := by omega
      have HX := Lib.hid ((arS_iff zs).2 ⟨by rw [HL.out]; omega, okS_to HL.out ha.out⟩)
      go_wp2
      go_ret
      exact ⟨ret_bool HX.out.symm, hg0⟩

set_option maxHeartbeats 1000000 in
theorem scales_spec (A : Option Addr) (n c : Nat) (zs : List Int) (w : World) (hn : zs.length = n) (hN : n ≤ 16777216) (hnc : n ≤ c) (hR : Reads w w.heap.size A (zs.map vi)) :
    Calls Tryz.prog 147 #[.slice A n c] w fun e w' => e = .returned (.bool (arS zs)) ∧ Gr w w' := by
  have HL := Lib.hid hn
  have HS := Lib.hid (fun s W => logScale_spec s W)
  have HI := Lib.hid (fun W => in_any n 1 6 W)
  clear hn
  go_enter Tryz.func147, Tryz.ntmps147
  go_wp2
  go_loopw [3] (fun i wr => ∃ k : Nat, k ≤ n ∧ i = .int .i64 k ∧ Hid (∀ i, i < k → okAt zs i = true) ∧ Gr w wr) (fun i _ => n - (intOf i).toNat)
  case atStart => exact ⟨0, by omega, rfl, Lib.hid (fun i hi => by omega), Gr.refl _⟩
  case round =>
    obtain ⟨k, hk, rfl, ha, hg0⟩ := hrel
    by_cases hlt : k < n
    · have hkc : k ≤ c := by omega
      obtain ⟨z, hz⟩ := some_at (l := zs) (k := k) (by rw [HL.out]; exact hlt)
      obtain ⟨g, o, rfl, hg, hc⟩ := hR.at_ (map_at hz)
      have hc' : wr.cell? ⟨g, o + k, none⟩ = some (vi z) := (hg0.below.cell (p := ⟨g, o + k, none⟩) hg).trans hc
      have HT0 := Lib.hid (fun cc W (hr : Reads W W.heap.size (some ⟨g, o, none⟩) (zs.map vi)) => has_spec (some ⟨g, o, none⟩) k cc (zs.take k) z W (by rw [List.length_take, HL.out]; omega) (by omega) (by rw [List.map_take]; exact hr.take k))
      have HRR := Lib.hid (hR.gr hg0)
      have HZ := Lib.hid hz
      clear hz hc
      rcases (lsc_tf z) with hl | hl
      · rcases hasI_tf (zs.take k) z with hm | hm
        · have HX := Lib.hid (arS_no (okS_bad HZ.out (.inr hm)))
          have HT := Lib.hid (fun cc W (hr : Reads W W.heap.size (some ⟨g, o, none⟩) (zs.map vi)) => (HT0.out cc W hr).mono (fun e w' h => show e = .returned (.bool true) ∧ w' = W from ⟨by rw [h.1, hm], h.2.symm⟩))
          have E := Lib.hid (fun W => (HS.out z W).mono (fun e w' h => show e = .returned (.bool true) ∧ w' = W from ⟨by rw [h.1, hl], h.2.symm⟩))
          clear hm hl HT0
          go_wp2
          go_quiet (first | exact Calls.quiet_of_same (E.out _) | exact Calls.quiet_of_same (HT.out _ _ (HRR.out.gr ((Gr.refl _).drewN _))))
          go_wp2
          go_ret
          exact ⟨ret_bool HX.out.symm, hg0.drewN _⟩
        · have HX := Lib.hid (ok_next HZ.out ha.out hl hm)
          have HT := Lib.hid (fun cc W (hr : Reads W W.heap.size (some ⟨g, o, none⟩) (zs.map vi)) => (HT0.out cc W hr).mono (fun e w' h => show e = .returned (.bool false) ∧ w' = W from ⟨by rw [h.1, hm], h.2.symm⟩))
          have E := Lib.hid (fun W => (HS.out z W).mono (fun e w' h => show e = .returned (.bool true) ∧ w' = W from ⟨by rw [h.1, hl], h.2.symm⟩))
          clear hm hl HT0
          go_wp2
          go_quiet (first | exact Calls.quiet_of_same (E.out _) | exact Calls.quiet_of_same (HT.out _ _ (HRR.out.gr ((Gr.refl _).drewN _))))
          go_wp2
          go_roundw
          case rel => exact ⟨k + 1, by omega, by go_num, HX, hg0.drewN _⟩
          case measure => simp [intOf]; omega
      · have HX := Lib.hid (arS_no (okS_bad HZ.out (.inl hl)))
        have E := Lib.hid (fun W => (HS.out z W).mono (fun e w' h => show e = .returned (.bool false) ∧ w' = W from ⟨by rw [h.1, hl], h.2.symm⟩))
        clear hl HT0
        go_wp2
        go_quiet (exact Calls.quiet_of_same (E.out _))
        go_wp2
        go_ret
        exact ⟨ret_bool HX.out.symm, hg0.drewN _⟩
    · obtain rfl : k = n := by omega
      have HX := Lib.hid (show arS zs = (decide (1 ≤ (k : Int)) && decide ((k : Int) ≤ 6)) by unfold arS; rw [okS_to HL.out ha.out, HL.out, Bool.and_true]; simp)
      go_wp2_with (go_at_call 144; refine (HI.out _).mono ?_; rintro e w' ⟨rfl, rfl⟩)
      go_ret
      exact ⟨ret_bool HX.out.symm, hg0⟩

set_option maxHeartbeats 1000000 in
theorem rule_impl (L : Int) (A B : Option Addr) (n c m d : Nat) (xs ys : List Int) (w : World) (hx : xs.length = n) (hy : ys.length = m) (hn : n ≤ 16777216) (hm : m ≤ 16777216) (hnc : n ≤ c) (hmd : m ≤ d) (hX : Reads w w.heap.size A (xs.map vi)) (hY : Reads w w.heap.size B (ys.map vi)) :
    Calls Tryz.prog 50 #[.agg #[.int .i64 L, .slice A n c, .slice B m d]] w fun e w' => e = .returned (.bool (rlB L xs ys)) ∧ Gr w w' := by
  have HLn := Lib.hid (fun W => isLength_impl L W)
  have HA := Lib.hid (fun W h => areScales_impl A n c xs W hx hn hnc h)
  have HB := Lib.hid (fun W h => areScales_impl B m d ys W hy hm hmd h)
  have HX := Lib.hid hX
  have HY := Lib.hid hY
  have HR := Lib.hid (show rlB L xs ys = (ln L && arS xs && arS ys) from rfl)
  clear hx hy hX hY
  generalize rlB L xs ys = R at *
  generalize ln L = x at *
  generalize arS xs = y at *
  generalize arS ys = z at *
  cases x
  · go_enter Tryz.func50, Tryz.ntmps50
    go_wp2_with (go_at_call 105; refine (HLn.out _).mono ?_; rintro e w' ⟨rfl, rfl⟩)
    go_ret
    exact ⟨ret_bool (by rw [HR.out]; rfl), (by repeat (first | with_reducible exact Gr.refl _ | with_reducible refine Gr.alloc ?_ _ | with_reducible refine Gr.gr ?_ _ _ | with_reducible refine Gr.drew ?_ | with_reducible refine Gr.drewN ?_ _))⟩
  · cases y
    · go_enter Tryz.func50, Tryz.ntmps50
      go_wp2_with (first | (go_at_call 105; refine (HLn.out _).mono ?_; rintro e w' ⟨rfl, rfl⟩) | (go_at_call 106; (with_reducible refine (HA.out _ (HX.out.gr (by repeat (first | with_reducible exact Gr.refl _ | with_reducible refine Gr.alloc ?_ _ | with_reducible refine Gr.gr ?_ _ _ | with_reducible refine Gr.drew ?_ | with_reducible refine Gr.drewN ?_ _)))).mono ?_); rintro e w' ⟨rfl, k, os, rfl⟩))
      go_ret
      exact ⟨ret_bool (by rw [HR.out]; rfl), (by repeat (first | with_reducible exact Gr.refl _ | with_reducible refine Gr.alloc ?_ _ | with_reducible refine Gr.gr ?_ _ _ | with_reducible refine Gr.drew ?_ | with_reducible refine Gr.drewN ?_ _))⟩
    · cases z
      all_goals
        go_enter Tryz.func50, Tryz.ntmps50
        go_wp2_with (first | (go_at_call 105; refine (HLn.out _).mono ?_; rintro e w' ⟨rfl, rfl⟩) | (go_at_call 106; (with_reducible refine (HA.out _ (HX.out.gr (by repeat (first | with_reducible exact Gr.refl _ | with_reducible refine Gr.alloc ?_ _ | with_reducible refine Gr.gr ?_ _ _ | with_reducible refine Gr.drew ?_ | with_reducible refine Gr.drewN ?_ _)))).mono ?_); rintro e w' ⟨rfl, k, os, rfl⟩) | (go_at_call 106; (with_reducible refine (HB.out _ (HY.out.gr (by repeat (first | with_reducible exact Gr.refl _ | with_reducible refine Gr.alloc ?_ _ | with_reducible refine Gr.gr ?_ _ _ | with_reducible refine Gr.drew ?_ | with_reducible refine Gr.drewN ?_ _)))).mono ?_); rintro e w' ⟨rfl, k2, os2, rfl⟩))
        go_ret
        exact ⟨ret_bool (by rw [HR.out]; rfl), (by repeat (first | with_reducible exact Gr.refl _ | with_reducible refine Gr.alloc ?_ _ | with_reducible refine Gr.gr ?_ _ _ | with_reducible refine Gr.drew ?_ | with_reducible refine Gr.drewN ?_ _))⟩
set_option maxHeartbeats 1000000 in
theorem rule_spec (L : Int) (A B : Option Addr) (n c m d : Nat) (xs ys : List Int) (w : World) (hx : xs.length = n) (hy : ys.length = m) (hn : n ≤ 16777216) (hm : m ≤ 16777216) (hnc : n ≤ c) (hmd : m ≤ d) (hX : Reads w w.heap.size A (xs.map vi)) (hY : Reads w w.heap.size B (ys.map vi)) :
    Calls Tryz.prog 92 #[.agg #[.int .i64 L, .slice A n c, .slice B m d]] w fun e w' => e = .returned (.bool (rlB L xs ys)) ∧ Gr w w' := by
  have HLn := Lib.hid (fun W => isLength_spec L W)
  have HA := Lib.hid (fun W h => scales_spec A n c xs W hx hn hnc h)
  have HB := Lib.hid (fun W h => scales_spec B m d ys W hy hm hmd h)
  have HX := Lib.hid hX
  have HY := Lib.hid hY
  have HR := Lib.hid (show rlB L xs ys = (ln L && arS xs && arS ys) from rfl)
  clear hx hy hX hY
  generalize rlB L xs ys = R at *
  generalize ln L = x at *
  generalize arS xs = y at *
  generalize arS ys = z at *
  cases x
  · go_enter Tryz.func92, Tryz.ntmps92
    go_wp2_with (go_at_call 146; refine (HLn.out _).mono ?_; rintro e w' ⟨rfl, rfl⟩)
    go_ret
    exact ⟨ret_bool (by rw [HR.out]; rfl), (by repeat (first | with_reducible exact Gr.refl _ | with_reducible refine Gr.alloc ?_ _ | with_reducible refine Gr.gr ?_ _ _ | with_reducible refine Gr.drew ?_ | with_reducible refine Gr.drewN ?_ _))⟩
  · cases y
    · go_enter Tryz.func92, Tryz.ntmps92
      go_wp2_with (first | (go_at_call 146; refine (HLn.out _).mono ?_; rintro e w' ⟨rfl, rfl⟩) | (go_at_call 147; (with_reducible refine (HA.out _ (HX.out.gr (by repeat (first | with_reducible exact Gr.refl _ | with_reducible refine Gr.alloc ?_ _ | with_reducible refine Gr.gr ?_ _ _ | with_reducible refine Gr.drew ?_ | with_reducible refine Gr.drewN ?_ _)))).mono ?_); rintro e w' ⟨rfl, k, os, rfl⟩))
      go_ret
      exact ⟨ret_bool (by rw [HR.out]; rfl), (by repeat (first | with_reducible exact Gr.refl _ | with_reducible refine Gr.alloc ?_ _ | with_reducible refine Gr.gr ?_ _ _ | with_reducible refine Gr.drew ?_ | with_reducible refine Gr.drewN ?_ _))⟩
    · cases z
      all_goals
        go_enter Tryz.func92, Tryz.ntmps92
        go_wp2_with (first | (go_at_call 146; refine (HLn.out _).mono ?_; rintro e w' ⟨rfl, rfl⟩) | (go_at_call 147; (with_reducible refine (HA.out _ (HX.out.gr (by repeat (first | with_reducible exact Gr.refl _ | with_reducible refine Gr.alloc ?_ _ | with_reducible refine Gr.gr ?_ _ _ | with_reducible refine Gr.drew ?_ | with_reducible refine Gr.drewN ?_ _)))).mono ?_); rintro e w' ⟨rfl, k, os, rfl⟩) | (go_at_call 147; (with_reducible refine (HB.out _ (HY.out.gr (by repeat (first | with_reducible exact Gr.refl _ | with_reducible refine Gr.alloc ?_ _ | with_reducible refine Gr.gr ?_ _ _ | with_reducible refine Gr.drew ?_ | with_reducible refine Gr.drewN ?_ _)))).mono ?_); rintro e w' ⟨rfl, k2, os2, rfl⟩))
        go_ret
        exact ⟨ret_bool (by rw [HR.out]; rfl), (by repeat (first | with_reducible exact Gr.refl _ | with_reducible refine Gr.alloc ?_ _ | with_reducible refine Gr.gr ?_ _ _ | with_reducible refine Gr.drew ?_ | with_reducible refine Gr.drewN ?_ _))⟩
end Go.Proofs.YtefhhigcplemaaaGreatDoor
