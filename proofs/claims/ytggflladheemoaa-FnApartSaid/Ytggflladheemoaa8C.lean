/- Plain mathematics, merged. -/
import Derived.Test.YtggflladheemoaaC08l
import Derived.BigQuiet
/- Contracts of chapter 8: which ticks stay, in the model. -/
namespace Go.Proofs.Ytggflladheemoaa
open Go.RowKit Go.Shelf
set_option linter.unusedVariables false
set_option linter.unusedSimpArgs false

theorem natI_snoc (L : List Nat) (m : Nat) : natI (L ++ [m]) = natI L ++ [(m : Int)] := List.map_append
theorem mkBools (n : Nat) (hn : n ≤ 16777216) (w : World) :
    (Instr.makeSlice 84 (.int .i64 (n : Int)) (.int .i64 (n : Int))).run Try.prog w = .ok (.slice (some ⟨w.heap.size, 0, none⟩) n n) (w.alloc (.cells (List.replicate n (.bool false)).toArray 4)) :=
  run_mk (b := 1) Try.underlying84 (by kernel_rfl) rfl (by omega) n hn w
/-- A row of flags. -/
def flS (n : Nat) (S : Nat → Bool) : List Value := (List.range n).map fun i => .bool (S i)
theorem flS_none (n : Nat) : flS n (fun _ => false) = List.replicate n (.bool false) := by unfold flS; rw [List.map_const', List.length_range]
theorem flS_at (n : Nat) (S : Nat → Bool) (k : Nat) (h : k < n) : (flS n S)[k]? = some (.bool (S k)) := by unfold flS; rw [List.getElem?_map, List.getElem?_range h]; rfl
theorem flS_set (n : Nat) (S : Nat → Bool) (i : Nat) (h : i < n) : (flS n S).set i (.bool true) = flS n (fun j => S j || j == i) := by
  apply List.ext_getElem?
  intro k
  rw [List.getElem?_set]
  have hl : (flS n S).length = n := by unfold flS; simp
  by_cases hk : i = k
  · subst hk
    rw [if_pos rfl, if_pos (by omega), flS_at _ _ _ h]
    simp
  · rw [if_neg hk]
    by_cases h2 : k < n
    · rw [flS_at _ _ _ h2, flS_at _ _ _ h2, show (k == i) = false by simp; omega, Bool.or_false]
    · rw [List.getElem?_eq_none (by omega), List.getElem?_eq_none (by unfold flS; simp; omega)]

set_option maxRecDepth 100000 in
set_option maxHeartbeats 8000000 in
theorem ka_spec1 (A : Option Addr) (n c : Nat) (zs : List P3) (d : Int) (w : World) (hn : zs.length = n) (hA : Reads w w.heap.size A (cells3 zs)) (h0 : tkE zs true = 0) (hH : allH zs = true) (hd : 0 ≤ d ∧ d ≤ 100000) :
    Calls Try.prog 34 #[.slice A n c, .int .i64 d] w fun e w' => (∃ v, e = .returned (.tuple #[v, .int .i64 0]) ∧ Lst w' w.heap.size v (natI (lsS n (kpS zs n (nrD zs d) (byH zs n))))) ∧ Below w.heap.size w w' := by
  obtain ⟨h150, -, hP, -⟩ := tkE_zero h0
  rw [hn] at h150
  have HC := Lib.hid (tkcode_spec A n c zs w hn (by omega) hA)
  rw [h0] at HC
  have HL := Lib.hid hn
  have HA := Lib.hid hA
  have HP := Lib.hid (tkP_bd hP)
  have HHB := Lib.hid (fun k => tkH_bd hH k)
  have HIN := Lib.hid (fun k W => in_any (tkH zs k) 0 4 W)
  have HID := Lib.hid (fun W => in_any d 0 100000 W)
  rw [decide_eq_true hd] at HID
  have HGA := Lib.hid (gH_all zs n)
  have hmk := mkBools n (by omega)
  obtain ⟨i0, hi, hz0, hz1, hz2⟩ := info_parts info_i7
  clear hA h0 hH hP hn
  go_enter Try.func34, Try.ntmps34
  go_wp2_with (go_at_call 56; refine (HC.out).mono ?_; rintro e w' ⟨rfl, rfl⟩)
  go_loop [6, 7] (fun e i => e = .int .i64 0 ∧ ∃ k : Nat, k ≤ n ∧ i = .int .i64 k) (fun _ i => n - (intOf i).toNat)
  case atStart => exact ⟨rfl, 0, by omega, rfl⟩
  case round =>
    obtain ⟨rfl, k, hk, rfl⟩ := hrel
    by_cases hlt : k < n
    · obtain ⟨za, zb, hz⟩ := th_at (zs := zs) (k := k) (by rw [HL.out]; exact hlt)
      obtain ⟨g, o, rfl, hg, -, -, x2⟩ := HA.out.at3 hz
      have hb := HHB.out k
      have HI := Lib.hid (HIN.out k)
      rw [decide_eq_true hb] at HI
      simp only at x2
      clear hz
      go_wp2_with (go_at_call 49; refine (HI.out _).mono ?_; rintro e w' ⟨rfl, rfl⟩)
      go_round
      case rel => exact ⟨rfl, k + 1, by omega, by go_num⟩
      case measure => simp [intOf]; omega
    · obtain rfl : k = n := by omega
      go_wp2_with (go_at_call 49; refine (HID.out _).mono ?_; rintro e w' ⟨rfl, rfl⟩)
      clear hmk
      have HR1 : Hid (Row (w.alloc (.cells (Array.replicate k (.bool false)) 4)) w.heap.size 4 (flS k (kpS zs k (nrD zs d) (gH zs k 0)))) := Lib.hid (by
        rw [show kpS zs k (nrD zs d) (gH zs k 0) = fun _ => false from rfl, flS_none]
        have := Row.new w 4 (List.replicate k (.bool false))
        rwa [List.toArray_replicate] at this)
      have HG1 : Hid (Below w.heap.size w (w.alloc (.cells (Array.replicate k (.bool false)) 4))) := Lib.hid (Gr.below (by repeat (first | with_reducible exact Gr.refl _ | with_reducible refine Gr.alloc ?_ _ | with_reducible refine Gr.gr ?_ _ _ | with_reducible refine Gr.drew ?_ | with_reducible refine Gr.drewN ?_ _)))
      generalize w.alloc (.cells (Array.replicate k (.bool false)) 4) = w1 at *
      generalize hbk : w.heap.size = bk at *
      have HHk := Lib.hid HHB.out
      go_loopw [9] (fun h wr => ∃ g : Nat, g ≤ 5 ∧ h = .int .i64 (4 - (g : Int)) ∧ Row wr bk 4 (flS k (kpS zs k (nrD zs d) (gH zs k g))) ∧ Below bk w wr) (fun h _ => (intOf h + 1).toNat)
      case atStart => exact ⟨0, by omega, rfl, HR1.out, HG1.out⟩
      case round =>
        obtain ⟨g, hg, rfl, hrow, hB⟩ := hrel
        by_cases hg5 : g < 5
        · have HE := Lib.hid (sL_end zs k (nrD zs d) g)
          have HS0 := Lib.hid (sL_zero zs k (nrD zs d) g)
          have HHit := Lib.hid (fun i => sL_hit zs k (nrD zs d) g i)
          have HMiss := Lib.hid (fun i => sL_miss zs k (nrD zs d) g i)
          have hge : (0 : Int) ≤ 4 - (g : Int) := by omega
          obtain ⟨hh, hhe⟩ : ∃ hh : Int, 4 - (g : Int) = hh := ⟨_, rfl⟩
          rw [hhe] at HHit HMiss hge ⊢
          have hh4 : hh ≤ 4 := by omega
          go_wp2
          go_loopw [10] (fun x wr => ∃ i : Nat, i ≤ k ∧ x = .int .i64 i ∧ Row wr bk 4 (flS k (sL zs k (nrD zs d) g i)) ∧ Below bk w wr) (fun x _ => k - (intOf x).toNat)
          case atStart => exact ⟨0, by omega, rfl, by rw [HS0.out]; exact hrow, hB⟩
          case round =>
            obtain ⟨i, hi2, rfl, hrow2, hB2⟩ := hrel
            by_cases hlt2 : i < k
            · obtain ⟨za, zb, hz⟩ := th_at (zs := zs) (k := i) (by rw [HL.out]; exact hlt2)
              have hAr : Reads wr wr.heap.size A (cells3 zs) := by
                have h1 := hB2.size
                exact HA.out.keep (show bk ≤ wr.heap.size by omega) hB2.block
              obtain ⟨ga, oa, eA, hga, x0, x1, x2⟩ := hAr.at3 hz
              have HAr := Lib.hid hAr
              have hsz2 := hB2.size
              have hbl := hrow2.lt
              have hbk2 : bk ≤ wr.heap.size := by omega
              have HROW := Lib.hid hrow2
              have HB2 := Lib.hid hB2
              simp only at x2
              have pbi := HP.out i
              have hpi : tkP zs i = zb := tkP_at hz
              rw [hpi] at pbi
              clear hz hAr x0 hrow2 hB2
              subst eA
              by_cases he : tkH zs i = hh
              · have HS := Lib.hid (HHit.out i he)
                have heq : (hh == hh) = true := by simp
                rw [he] at x2
                have HAP := Lib.hid (apP_succ zs (nrD zs d) (sL zs k (nrD zs d) g i) i)
                have HAZ := Lib.hid (apP_zero zs (nrD zs d) (sL zs k (nrD zs d) g i) i)
                have HST := Lib.hid (show stS zs k (nrD zs d) (sL zs k (nrD zs d) g i) i = if apP zs (nrD zs d) (sL zs k (nrD zs d) g i) i k = true then fun j => sL zs k (nrD zs d) g i j || j == i else sL zs k (nrD zs d) g i from rfl)
                generalize sL zs k (nrD zs d) g i = S at *
                go_wp2
                go_loopw [11, 12] (fun b x wr4 => ∃ m : Nat, m ≤ k ∧ x = .int .i64 m ∧ b = .bool (apP zs (nrD zs d) S i m) ∧ Gr wr wr4) (fun _ x _ => k - (intOf x).toNat)
                case atStart => exact ⟨0, by omega, rfl, by rw [HAZ.out], Gr.refl _⟩
                case round =>
                  obtain ⟨m, hm, rfl, rfl, hG4⟩ := hrel
                  obtain ⟨k0, os0, rfl⟩ := hG4
                  by_cases hlt3 : m < k
                  · have HS1 := Lib.hid (HAP.out m)
                    rw [show nrD zs d i m = decide (Dp zs m i < d) from rfl] at HS1
                    obtain ⟨ya, yc, hy⟩ := tk_at (zs := zs) (k := m) (by rw [HL.out]; exact hlt3)
                    obtain ⟨g2, o2, e2, -, -, y1, -⟩ := HAr.out.at3 hy
                    injection e2 with e2
                    injection e2 with e2a e2b
                    subst e2a e2b
                    have pbm := HP.out m
                    have HDp := Lib.hid (Dp_is zs m i)
                    rw [hpi] at HDp
                    simp only at y1
                    have c0 := HROW.out.cell m
                    rw [flS_at _ _ _ hlt3] at c0
                    generalize tkP zs m = pm at *
                    have hw1 : IntKind.i64.wrap (pm - zb) = pm - zb := IntWalk.i64_in _ (by omega)
                    have HAB := Lib.hid (fun W => abs_any (pm - zb) W (by omega) (by omega))
                    rw [← HDp.out] at HAB
                    generalize Dp zs m i = dp at *
                    clear hy
                    cases hs0 : apP zs (nrD zs d) S i m
                    · rw [hs0] at HS1
                      clear hs0
                      go_wp2
                      go_quiet (fail)
                      go_wp2
                      go_roundw
                      case rel => exact ⟨m + 1, by omega, by go_num, by rw [HS1.out]; rfl, (by repeat (first | with_reducible exact Gr.refl _ | with_reducible refine Gr.alloc ?_ _ | with_reducible refine Gr.gr ?_ _ _ | with_reducible refine Gr.drew ?_ | with_reducible refine Gr.drewN ?_ _))⟩
                      case measure => simp [intOf]; omega
                    · rw [hs0] at HS1
                      clear hs0
                      cases hs1 : S m
                      · rw [hs1] at HS1 c0
                        clear hs1
                        go_wp2
                        go_quiet (fail)
                        go_wp2
                        go_roundw
                        case rel => exact ⟨m + 1, by omega, by go_num, by rw [HS1.out]; rfl, (by repeat (first | with_reducible exact Gr.refl _ | with_reducible refine Gr.alloc ?_ _ | with_reducible refine Gr.gr ?_ _ _ | with_reducible refine Gr.drew ?_ | with_reducible refine Gr.drewN ?_ _))⟩
                        case measure => simp [intOf]; omega
                      · rw [hs1] at HS1 c0
                        clear hs1
                        go_wp2
                        ((first | refine region_gr_on (by kernel_rfl) (by kernel_rfl) ?_ | refine region_gr (by kernel_rfl) (by kernel_rfl) ?_); (repeat (quiet_step (with_reducible exact Calls.gr_same (HAB.out _)))); refine wpQuiet_nil ?_; intro _ hw'; obtain ⟨⟨kq, oq⟩, hw''⟩ := hw'; subst hw'')
                        go_wp2
                        go_roundw
                        case rel => exact ⟨m + 1, by omega, by go_num, by rw [HS1.out]; simp, (by repeat (first | with_reducible exact Gr.refl _ | with_reducible refine Gr.alloc ?_ _ | with_reducible refine Gr.gr ?_ _ _ | with_reducible refine Gr.drew ?_ | with_reducible refine Gr.drewN ?_ _))⟩
                        case measure => simp [intOf]; omega
                  · obtain rfl : m = k := by omega
                    have HRG := Lib.hid (HROW.out.gr ⟨k0, os0, rfl⟩)
                    have hb3 : Below bk w (gr wr k0 os0) := HB2.out.trans ((Gr.below ⟨k0, os0, rfl⟩).mono hbk2)
                    cases hs0 : apP zs (nrD zs d) S i m
                    · rw [hs0, if_neg (by simp)] at HST
                      clear hs0
                      go_wp2
                      go_roundw
                      case rel => exact ⟨i + 1, by omega, by go_num, by rw [HS.out, HST.out]; exact HRG.out, hb3⟩
                      case measure => simp [intOf]; omega
                    · rw [hs0, if_pos rfl] at HST
                      have c0 := HRG.out.cell i
                      rw [flS_at _ _ _ hlt2] at c0
                      have f0 := HRG.out.free i
                      have hl0 := HRG.out.lt
                      have HFS := Lib.hid (flS_set m S i hlt2)
                      clear hs0
                      go_wp2
                      go_roundw
                      case rel => exact ⟨i + 1, by omega, by go_num, by rw [HS.out, HST.out, ← HFS.out]; exact (HROW.out.set i _).gr ⟨k0, os0, rfl⟩, (HB2.out.setCell (p := ⟨bk, i, none⟩) (Nat.le_refl _) _).trans ((Gr.below ⟨k0, os0, rfl⟩).mono (by simp [World.setCell]; exact hbk2))⟩
                      case measure => simp [intOf]; omega
              · have HS := Lib.hid (HMiss.out i he)
                have heq : (tkH zs i == hh) = false := by simpa using he
                generalize tkH zs i = hi' at *
                generalize sL zs k (nrD zs d) g i = S at *
                go_wp2
                go_loopw [11, 12] (fun b x wr4 => ∃ m : Nat, m ≤ k ∧ x = .int .i64 m ∧ b = .bool false ∧ Gr wr wr4) (fun _ x _ => k - (intOf x).toNat)
                case atStart => exact ⟨0, by omega, rfl, rfl, Gr.refl _⟩
                case round =>
                  obtain ⟨m, hm, rfl, rfl, hG4⟩ := hrel
                  obtain ⟨k0, os0, rfl⟩ := hG4
                  by_cases hlt3 : m < k
                  · go_wp2
                    go_quiet (fail)
                    go_wp2
                    go_roundw
                    case rel => exact ⟨m + 1, by omega, by go_num, rfl, (by repeat (first | with_reducible exact Gr.refl _ | with_reducible refine Gr.alloc ?_ _ | with_reducible refine Gr.gr ?_ _ _ | with_reducible refine Gr.drew ?_ | with_reducible refine Gr.drewN ?_ _))⟩
                    case measure => simp [intOf]; omega
                  · obtain rfl : m = k := by omega
                    have HRG := Lib.hid (HROW.out.gr ⟨k0, os0, rfl⟩)
                    have hb3 : Below bk w (gr wr k0 os0) := HB2.out.trans ((Gr.below ⟨k0, os0, rfl⟩).mono hbk2)
                    go_wp2
                    go_roundw
                    case rel => exact ⟨i + 1, by omega, by go_num, by rw [HS.out]; exact HRG.out, hb3⟩
                    case measure => simp [intOf]; omega
            · obtain rfl : i = k := by omega
              go_wp2
              go_roundw
              case rel => exact ⟨g + 1, by omega, by congr 1; omega, by rw [← HE.out]; exact hrow2, hB2⟩
              case measure => simp [intOf]; omega
        · obtain rfl : g = 5 := by omega
          rw [HGA.out] at hrow
          generalize hSe : kpS zs k (nrD zs d) (byH zs k) = S at *
          have HSE := Lib.hid hSe
          clear hSe
          have hsz2 : bk ≤ wr.heap.size := by have := hB.size; omega
          have HO1 : Hid (Lst (wr.alloc (.cells #[] 2)) wr.heap.size (.slice (some ⟨wr.heap.size, 0, none⟩) 0 0) []) := Lib.hid (World.ownsRow_made wr #[] 0 (Nat.le_refl _) (Nat.zero_le _) rfl)
          have HB1 : Hid (Below wr.heap.size wr (wr.alloc (.cells #[] 2))) := Lib.hid ((Below.refl _ _).alloc (Nat.le_refl _) _)
          have HROW := Lib.hid hrow
          have HBW := Lib.hid hB
          have hbl := hrow.lt
          clear hrow hB
          go_wp2
          generalize wr.alloc (.cells #[] 2) = w2 at *
          generalize hsr : wr.heap.size = sr at *
          go_loopw [13, 14] (fun v x wr5 => ∃ m : Nat, m ≤ k ∧ x = .int .i64 m ∧ Lst wr5 sr v (natI (lsS m S)) ∧ Below sr wr wr5) (fun _ x _ => k - (intOf x).toNat)
          case atStart => exact ⟨0, by omega, rfl, HO1.out, HB1.out⟩
          case round =>
            obtain ⟨m, hm, rfl, hO, hB5⟩ := hrel
            have hsz5 : sr ≤ wr.heap.size := by have := hB5.size; omega
            by_cases hlt3 : m < k
            · have HLS := Lib.hid (lsS_succ S m)
              have hrow5 := HROW.out.below hB5 (by omega)
              have c0 := hrow5.cell m
              rw [flS_at _ _ _ hlt3] at c0
              have hml := lsS_len m S
              have hml2 : (natI (lsS m S)).length = (lsS m S).length := List.length_map _
              have HO := Lib.hid hO
              have HB5 := Lib.hid hB5
              clear hO hB5
              cases hs1 : S m
              · rw [hs1] at HLS c0
                clear hs1
                go_wp2
                go_roundw
                case rel => exact ⟨m + 1, by omega, by go_num, by rw [HLS.out, if_neg (by simp), List.append_nil]; exact HO.out, HB5.out⟩
                case measure => simp [intOf]; omega
              · rw [hs1] at HLS c0
                clear hs1
                go_wp2_with (at_builtin; refine wpList_append_own _ rfl _ _ 30 rfl sr 2 i0 (.int .i64 0) 1 8 Try.underlying30 hi hz0 hz1 hz2 rfl (by decide) _ _ _ rfl (HO.out.alloc _) ⟨wr.heap.size, 0, none⟩ 1 1 [.int .i64 m] rfl rfl (one_cell_new _ _ _) (by simp [Value.oneCell']) (by unfold maxLen; omega) (by omega) (by simp; omega) ?_; intro v' w6 hown' hgrow _; obtain ⟨hA1, hA2⟩ := Lst.app (xs := natI (lsS m S)) (x := (m : Int)) HB5.out hsz5 (HO.out.alloc _) hown' hgrow; have HA1 : Hid (Lst w6 sr v' (natI (lsS m S) ++ [(m : Int)])) := Lib.hid hA1; have HA2 : Hid (Below sr _ w6) := Lib.hid hA2; clear hA1 hA2; clear hgrow hown')
                go_roundw
                case rel => exact ⟨m + 1, by omega, by go_num, by rw [HLS.out]; simp only [if_true]; rw [natI_snoc]; exact HA1.out, HA2.out⟩
                case measure => simp [intOf]; omega
            · obtain rfl : m = k := by omega
              go_wp2
              ((try simp only [Exit.inBlock, Exit.then]); refine bodyPost_ret (v := .tuple #[u13, .int .i64 0]) (by simp [results, Try.results34, go_sem]) rfl ?_)
              exact ⟨⟨_, rfl, by rw [HSE.out]; exact hO.mono (by omega)⟩, by rw [hbk]; exact HBW.out.trans (hB5.mono hsz2)⟩
end Go.Proofs.Ytggflladheemoaa

/- Contracts of chapter 8: which ticks stay, in the model: every case. -/
namespace Go.Proofs.Ytggflladheemoaa
open Go.RowKit Go.Shelf
set_option linter.unusedVariables false
set_option linter.unusedSimpArgs false

set_option maxRecDepth 100000 in
set_option maxHeartbeats 2000000 in
theorem ka_spec (A : Option Addr) (n c : Nat) (zs : List P3) (d : Int) (w : World) (hn : zs.length = n) (hN : n ≤ 16777216) (hA : Reads w w.heap.size A (cells3 zs)) :
    Calls Try.prog 34 #[.slice A n c, .int .i64 d] w fun e w' => (∃ v, e = .returned (.tuple #[v, .int .i64 (kaE zs d)]) ∧ Lst w' w.heap.size v (kaL zs d)) ∧ Below w.heap.size w w' := by
  have HC := Lib.hid (tkcode_spec A n c zs w hn hN hA)
  have HNIL := Lib.hid (fun W => World.ownsRow_nil W w.heap.size 2 1)
  have HL := Lib.hid hn
  have HA := Lib.hid hA
  rcases ka_cases zs d with ⟨h1, h2, h3⟩ | ⟨h1, hno, h2, h3⟩ | ⟨h1, hH, hd, h2, h3⟩
  · rw [h2, h3]
    clear h2 h3 hn hA
    generalize tkE zs true = cd at *
    have hc0 : (cd == 0) = false := by simpa using h1
    go_enter Try.func34, Try.ntmps34
    go_wp2_with (go_at_call 56; refine (HC.out).mono ?_; rintro e w' ⟨rfl, rfl⟩)
    go_loop [6, 7] (fun e i => e = .int .i64 cd ∧ i = .int .i64 0) (fun _ _ => 0)
    case atStart => exact ⟨rfl, rfl⟩
    case round =>
      obtain ⟨rfl, rfl⟩ := hrel
      go_wp2
      ((try simp only [Exit.inBlock, Exit.then]); refine bodyPost_ret (v := .tuple #[.slice none 0 0, .int .i64 cd]) (by simp [results, Try.results34, go_sem]) rfl ?_)
      exact ⟨⟨_, rfl, HNIL.out _⟩, Below.refl _ _⟩
  · rw [h2, h3]
    rw [h1] at HC
    cases hh : allH zs
    · have HH0 := Lib.hid hh
      have HIN := Lib.hid (fun z W => in_any z 0 4 W)
      clear h1 h2 h3 hno hn hA hh
      go_enter Try.func34, Try.ntmps34
      go_wp2_with (go_at_call 56; refine (HC.out).mono ?_; rintro e w' ⟨rfl, rfl⟩)
      go_loop [6, 7] (fun e i => ∃ k : Nat, k ≤ n ∧ i = .int .i64 k ∧ ((e = .int .i64 0 ∧ Hid (allH (zs.take k) = true)) ∨ e = .int .i64 2)) (fun e i => 2 * (n - (intOf i).toNat) + (2 - intOf e).toNat)
      case atStart => exact ⟨0, by omega, rfl, .inl ⟨rfl, Lib.hid (by simp [allH])⟩⟩
      case round =>
        obtain ⟨k, hk, rfl, ⟨rfl, ha⟩ | rfl⟩ := hrel
        · by_cases hlt : k < n
          · obtain ⟨z, hz⟩ := some_at (l := zs) (k := k) (by rw [HL.out]; exact hlt)
            obtain ⟨g, o, rfl, hg, -, -, x2⟩ := HA.out.at3 hz
            have HZ := Lib.hid hz
            have HI := Lib.hid (HIN.out z.2.2)
            clear hz
            by_cases hb : 0 ≤ z.2.2 ∧ z.2.2 ≤ 4
            · have HQ := Lib.hid (allH_take HZ.out ha.out hb)
              rw [decide_eq_true hb] at HI
              clear hb
              go_wp2_with (go_at_call 49; refine (HI.out _).mono ?_; rintro e w' ⟨rfl, rfl⟩)
              go_round
              case rel => exact ⟨k + 1, by omega, by go_num, .inl ⟨rfl, HQ⟩⟩
              case measure => simp [intOf]; omega
            · rw [decide_eq_false hb] at HI
              clear hb
              go_wp2_with (go_at_call 49; refine (HI.out _).mono ?_; rintro e w' ⟨rfl, rfl⟩)
              go_round
              case rel => exact ⟨k + 1, by omega, by go_num, .inr rfl⟩
              case measure => simp [intOf]; omega
          · exfalso
            have h4 : zs.take k = zs := List.take_of_length_le (by rw [HL.out]; omega)
            have h5 := ha.out
            rw [h4, HH0.out] at h5
            cases h5
        · go_wp2
          ((try simp only [Exit.inBlock, Exit.then]); refine bodyPost_ret (v := .tuple #[.slice none 0 0, .int .i64 2]) (by simp [results, Try.results34, go_sem]) rfl ?_)
          exact ⟨⟨_, rfl, HNIL.out _⟩, Below.refl _ _⟩
    · have hd : ¬ (0 ≤ d ∧ d ≤ 100000) := fun h => hno ⟨hh, h⟩
      have HHB := Lib.hid (fun k => tkH_bd hh k)
      have HIN := Lib.hid (fun k W => in_any (tkH zs k) 0 4 W)
      have HID := Lib.hid (fun W => in_any d 0 100000 W)
      rw [decide_eq_false hd] at HID
      clear h1 h2 h3 hno hn hA hh hd
      go_enter Try.func34, Try.ntmps34
      go_wp2_with (go_at_call 56; refine (HC.out).mono ?_; rintro e w' ⟨rfl, rfl⟩)
      go_loop [6, 7] (fun e i => e = .int .i64 0 ∧ ∃ k : Nat, k ≤ n ∧ i = .int .i64 k) (fun _ i => n - (intOf i).toNat)
      case atStart => exact ⟨rfl, 0, by omega, rfl⟩
      case round =>
        obtain ⟨rfl, k, hk, rfl⟩ := hrel
        by_cases hlt : k < n
        · obtain ⟨za, zb, hz⟩ := th_at (zs := zs) (k := k) (by rw [HL.out]; exact hlt)
          obtain ⟨g, o, rfl, hg, -, -, x2⟩ := HA.out.at3 hz
          have hb := HHB.out k
          have HI := Lib.hid (HIN.out k)
          rw [decide_eq_true hb] at HI
          simp only at x2
          clear hz
          go_wp2_with (go_at_call 49; refine (HI.out _).mono ?_; rintro e w' ⟨rfl, rfl⟩)
          go_round
          case rel => exact ⟨rfl, k + 1, by omega, by go_num⟩
          case measure => simp [intOf]; omega
        · obtain rfl : k = n := by omega
          go_wp2_with (go_at_call 49; refine (HID.out _).mono ?_; rintro e w' ⟨rfl, rfl⟩)
          ((try simp only [Exit.inBlock, Exit.then]); refine bodyPost_ret (v := .tuple #[.slice none 0 0, .int .i64 2]) (by simp [results, Try.results34, go_sem]) rfl ?_)
          exact ⟨⟨_, rfl, HNIL.out _⟩, Below.refl _ _⟩
  · rw [h2, h3, hn]
    exact ka_spec1 A n c zs d w hn hA h1 hH hd
end Go.Proofs.Ytggflladheemoaa

/- Contracts of chapter 8: which ticks stay, in the program: every case. -/
namespace Go.Proofs.Ytggflladheemoaa
open Go.RowKit Go.Shelf
set_option linter.unusedVariables false
set_option linter.unusedSimpArgs false

theorem enters_nearD (args : Array Value) (w : World) : (callFunc 61 args).run Try.prog w = .ok (.enter 61 args) w := by kernel_rfl
/-- Two ticks are nearer than the distance: the closure. -/
theorem nearD_any (b : Nat) (zs : List P3) (d : Int) (i k : Nat) (x y : P3) (hP : allP zs = true) (hx : zs[i]? = some x) (hy : zs[k]? = some y) (w : World) (hb : w.cell? ⟨b, 0, none⟩ = some (.int .i64 d)) :
    Calls Try.prog 61 (#[.agg #[.int .i64 x.1, .int .i64 x.2.1, .int .i64 x.2.2], .agg #[.int .i64 y.1, .int .i64 y.2.1, .int .i64 y.2.2]] ++ #[.pointer (some ⟨b, 0, none⟩)]) w fun e w' => e = .returned (.bool (nrD zs d i k)) ∧ Gr w w' := by
  rw [show (#[Value.agg #[.int .i64 x.1, .int .i64 x.2.1, .int .i64 x.2.2], .agg #[.int .i64 y.1, .int .i64 y.2.1, .int .i64 y.2.2]] ++ #[.pointer (some ⟨b, 0, none⟩)] : Array Value) = #[.agg #[.int .i64 x.1, .int .i64 x.2.1, .int .i64 x.2.2], .agg #[.int .i64 y.1, .int .i64 y.2.1, .int .i64 y.2.2], .pointer (some ⟨b, 0, none⟩)] from rfl]
  have b0 := tkP_bd hP i
  have b1 := tkP_bd hP k
  rw [tkP_at hx] at b0
  rw [tkP_at hy] at b1
  have HN := Lib.hid (show nrD zs d i k = decide (((x.2.1 - y.2.1).natAbs : Int) < d) by
    rw [← nrD_sym]
    unfold Dp
    rw [tkP_at hx, tkP_at hy])
  obtain ⟨xa, xb, xc⟩ := x
  obtain ⟨ya, yb, yc⟩ := y
  simp only at b0 b1 HN
  have HF := Lib.hid (fun W => distT_any xa xb xc ya yb yc W b0 b1)
  have hbl := World.block_lt_of_cell? w _ hb
  have hc2 : ∀ (o1 o2 : Obj) (k : Nat) (os : Array Obj), (gr ((w.alloc o1).alloc o2) k os).cell? ⟨b, 0, none⟩ = some (.int .i64 d) := fun o1 o2 k os => ((Gr.below (show Gr w (gr ((w.alloc o1).alloc o2) k os) from (by repeat (first | with_reducible exact Gr.refl _ | with_reducible refine Gr.alloc ?_ _ | with_reducible refine Gr.gr ?_ _ _ | with_reducible refine Gr.drew ?_ | with_reducible refine Gr.drewN ?_ _)))).cell (p := ⟨b, 0, none⟩) hbl).trans hb
  generalize nrD zs d i k = r at *
  generalize ((xb - yb).natAbs : Int) = q at *
  clear hx hy
  go_enter Try.func61, Try.ntmps61
  go_wp2
  ((first | refine region_gr_on (by kernel_rfl) (by kernel_rfl) ?_ | refine region_gr (by kernel_rfl) (by kernel_rfl) ?_); (repeat (quiet_step (exact Calls.gr_of (HF.out _)))); refine wpQuiet_nil ?_; intro _ hw'; obtain ⟨⟨kq, oq⟩, hw''⟩ := hw'; subst hw'')
  go_wp2
  go_ret
  exact ⟨ret_bool HN.out.symm, (by repeat (first | with_reducible exact Gr.refl _ | with_reducible refine Gr.alloc ?_ _ | with_reducible refine Gr.gr ?_ _ _ | with_reducible refine Gr.drew ?_ | with_reducible refine Gr.drewN ?_ _))⟩

set_option maxRecDepth 100000 in
set_option maxHeartbeats 2000000 in
theorem ka_impl (A : Option Addr) (n c : Nat) (zs : List P3) (d : Int) (w : World) (hn : zs.length = n) (hN : n ≤ 16777216) (hA : Reads w w.heap.size A (cells3 zs)) :
    Calls Try.prog 33 #[.slice A n c, .int .i64 d] w fun e w' => (∃ v, e = .returned (.tuple #[v, .int .i64 (kaE zs d)]) ∧ Lst w' w.heap.size v (kaL zs d)) ∧ Below w.heap.size w w' := by
  have HC := Lib.hid (fun W (h : Gr w W) => tkcode_impl A none n c 0 0 zs [] W hn hN (hA.gr h) rfl (by omega) (Reads.nil _ _ _))
  rw [show allv [] = true from rfl] at HC
  have HHH := Lib.hid (fun W (h : Gr w W) => haveHeights_any A n c zs W hn hN (hA.gr h))
  have HNIL := Lib.hid (fun W => World.ownsRow_nil W w.heap.size 2 1)
  have hG1 : Gr w (w.alloc (.cells #[.int .i64 d] 2)) := (by repeat (first | with_reducible exact Gr.refl _ | with_reducible refine Gr.alloc ?_ _ | with_reducible refine Gr.gr ?_ _ _ | with_reducible refine Gr.drew ?_ | with_reducible refine Gr.drewN ?_ _))
  have HG1 := Lib.hid hG1
  have hcell : (w.alloc (.cells #[.int .i64 d] 2)).cell? ⟨w.heap.size, 0, none⟩ = some (.int .i64 d) := by simp
  have HCELL := Lib.hid hcell
  clear hG1 hcell
  rcases ka_cases zs d with ⟨h1, h2, h3⟩ | ⟨h1, hno, h2, h3⟩ | ⟨h1, hH, hd, h2, h3⟩
  · rw [h2, h3]
    clear h2 h3 hn hA HHH
    generalize tkE zs true = cd at *
    have hc0 : (cd == 0) = false := by simpa using h1
    go_enter Try.func33, Try.ntmps33
    go_wp2_with fail
    refine (HC.out _ HG1.out).mono ?_
    rintro e w' ⟨rfl, hg2⟩
    go_wp2_with fail
    ((try simp only [Exit.inBlock, Exit.then]); refine bodyPost_ret (v := .tuple #[.slice none 0 0, .int .i64 cd]) (by simp [results, Try.results33, go_sem]) rfl ?_)
    exact ⟨⟨_, rfl, HNIL.out _⟩, (HG1.out.trans hg2).below⟩
  · rw [h2, h3]
    rw [h1] at HC
    have hor : d < 0 ∨ (0 ≤ d ∧ 100000 < d) ∨ (0 ≤ d ∧ d ≤ 100000 ∧ allH zs = false) := by
      by_cases a : d < 0
      · exact .inl a
      by_cases b : 100000 < d
      · exact .inr (.inl ⟨by omega, b⟩)
      · refine .inr (.inr ⟨by omega, by omega, ?_⟩)
        cases hh : allH zs
        · rfl
        · exact absurd ⟨hh, by omega, by omega⟩ hno
    clear h1 h2 h3 hno hn hA
    rcases hor with h | ⟨h, h'⟩ | ⟨h, h', h''⟩
    · go_enter Try.func33, Try.ntmps33
      go_wp2_with fail
      refine (HC.out _ HG1.out).mono ?_
      rintro e w' ⟨rfl, kk, os, rfl⟩
      go_wp2_with fail
      ((try simp only [Exit.inBlock, Exit.then]); refine bodyPost_ret (v := .tuple #[.slice none 0 0, .int .i64 2]) (by simp [results, Try.results33, go_sem]) rfl ?_)
      exact ⟨⟨_, rfl, HNIL.out _⟩, Gr.below (by repeat (first | with_reducible exact Gr.refl _ | with_reducible refine Gr.alloc ?_ _ | with_reducible refine Gr.gr ?_ _ _ | with_reducible refine Gr.drew ?_ | with_reducible refine Gr.drewN ?_ _))⟩
    · go_enter Try.func33, Try.ntmps33
      go_wp2_with fail
      refine (HC.out _ HG1.out).mono ?_
      rintro e w' ⟨rfl, kk, os, rfl⟩
      go_wp2_with fail
      ((try simp only [Exit.inBlock, Exit.then]); refine bodyPost_ret (v := .tuple #[.slice none 0 0, .int .i64 2]) (by simp [results, Try.results33, go_sem]) rfl ?_)
      exact ⟨⟨_, rfl, HNIL.out _⟩, Gr.below (by repeat (first | with_reducible exact Gr.refl _ | with_reducible refine Gr.alloc ?_ _ | with_reducible refine Gr.gr ?_ _ _ | with_reducible refine Gr.drew ?_ | with_reducible refine Gr.drewN ?_ _))⟩
    · rw [h''] at HHH
      have d1 : decide (d < 0) = false := decide_eq_false (by omega)
      have d2 : decide (100000 < d) = false := decide_eq_false (by omega)
      go_enter Try.func33, Try.ntmps33
      go_wp2_with fail
      refine (HC.out _ HG1.out).mono ?_
      rintro e w' ⟨rfl, kk, os, rfl⟩
      go_wp2_with fail
      refine (HHH.out _ (by repeat (first | with_reducible exact Gr.refl _ | with_reducible refine Gr.alloc ?_ _ | with_reducible refine Gr.gr ?_ _ _ | with_reducible refine Gr.drew ?_ | with_reducible refine Gr.drewN ?_ _))).mono ?_
      rintro e w' ⟨rfl, kk2, os2, rfl⟩
      go_wp2_with fail
      ((try simp only [Exit.inBlock, Exit.then]); refine bodyPost_ret (v := .tuple #[.slice none 0 0, .int .i64 2]) (by simp [results, Try.results33, go_sem]) rfl ?_)
      exact ⟨⟨_, rfl, HNIL.out _⟩, Gr.below (by repeat (first | with_reducible exact Gr.refl _ | with_reducible refine Gr.alloc ?_ _ | with_reducible refine Gr.gr ?_ _ _ | with_reducible refine Gr.drew ?_ | with_reducible refine Gr.drewN ?_ _))⟩
  · rw [h2, h3, hn]
    obtain ⟨h150, -, hP, -⟩ := tkE_zero h1
    rw [h1] at HC
    rw [hH] at HHH
    have HKH := Lib.hid (fun W (hg : Gr w W) (hc : W.cell? ⟨w.heap.size, 0, none⟩ = some (.int .i64 d)) => keepHighest_any A n c zs 61 #[.pointer (some ⟨w.heap.size, 0, none⟩)] (nrD zs d) W hn (by omega) (hA.gr hg) hH enters_nearD (fun W' hb i k x y hx hy => nearD_any w.heap.size zs d i k x y hP hx hy W' ((hb.cell (p := ⟨w.heap.size, 0, none⟩) (World.block_lt_of_cell? W _ hc)).trans hc)))
    have d1 : decide (d < 0) = false := decide_eq_false (by omega)
    have d2 : decide (100000 < d) = false := decide_eq_false (by omega)
    generalize natI (lsS n (kpS zs n (nrD zs d) (byH zs n))) = L at *
    clear h1 h2 h3 hn hA h150 hP hH
    go_enter Try.func33, Try.ntmps33
    go_wp2_with fail
    refine (HC.out _ HG1.out).mono ?_
    rintro e w' ⟨rfl, kk, os, rfl⟩
    go_wp2_with fail
    refine (HHH.out _ (by repeat (first | with_reducible exact Gr.refl _ | with_reducible refine Gr.alloc ?_ _ | with_reducible refine Gr.gr ?_ _ _ | with_reducible refine Gr.drew ?_ | with_reducible refine Gr.drewN ?_ _))).mono ?_
    rintro e w' ⟨rfl, kk2, os2, rfl⟩
    go_wp2_with fail
    refine (HKH.out _ (by repeat (first | with_reducible exact Gr.refl _ | with_reducible refine Gr.alloc ?_ _ | with_reducible refine Gr.gr ?_ _ _ | with_reducible refine Gr.drew ?_ | with_reducible refine Gr.drewN ?_ _)) (by first | (simp; done) | (rw [gr_cell _ _ _ _ _ (by simp)]; simp))).mono ?_
    rintro e w5 ⟨⟨v, rfl, hv⟩, hb5⟩
    go_wp2_with fail
    have hsz : w.heap.size ≤ (gr (w.alloc (.cells #[.int .i64 d] 2)) kk2 (os ++ os2)).heap.size := by rw [gr_size]; simp; omega
    ((try simp only [Exit.inBlock, Exit.then]); refine bodyPost_ret (v := .tuple #[v, .int .i64 0]) (by simp [results, Try.results33, go_sem]) rfl ?_)
    exact ⟨⟨_, rfl, hv.mono hsz⟩, (Gr.below (by repeat (first | with_reducible exact Gr.refl _ | with_reducible refine Gr.alloc ?_ _ | with_reducible refine Gr.gr ?_ _ _ | with_reducible refine Gr.drew ?_ | with_reducible refine Gr.drewN ?_ _))).trans (hb5.mono hsz)⟩
end Go.Proofs.Ytggflladheemoaa
