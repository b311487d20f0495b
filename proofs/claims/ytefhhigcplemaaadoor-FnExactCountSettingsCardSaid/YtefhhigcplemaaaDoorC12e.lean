/- Contracts of chapter 12: the model's RunMoves, ApplyMove, FirstImpossible, TravelOf, CountSettings. -/
import Derived.Test.YtefhhigcplemaaaDoorC12d
import Derived.Test.YtefhhigcplemaaaDoorC11c
import Derived.Test.YtefhhigcplemaaaDoorM37
import Derived.Test.YtefhhigcplemaaaDoor1A
namespace Go.Proofs.YtefhhigcplemaaaDoor
open Go.RowKit
set_option linter.unusedVariables false
set_option linter.unusedSimpArgs false

theorem jy_end {xs ys : List Int} {a q : Int} {ms : List Mv} {J : Jy} (h : jyRun xs ys (jy0 a q) ms = (J, false)) : 0 ≤ J.n := by
  obtain ⟨k, -, h2, -⟩ := jy_stop xs ys ms _ J h
  rw [h2]; show 0 ≤ (0 : Int) + k; omega
set_option maxHeartbeats 4000000 in
theorem runMoves_spec (a q : Int) (L : Int) (A B : Option Addr) (n c m d : Nat) (xs ys : List Int) (M : Option Addr) (p cp : Nat) (ms : List Mv) (w : World) (hx : xs.length = n) (hy : ys.length = m) (hn : n ≤ 16777216) (hm : m ≤ 16777216) (hnc : n ≤ c) (hmd : m ≤ d) (hX : Reads w w.heap.size A (xs.map vi)) (hY : Reads w w.heap.size B (ys.map vi)) (hml : ms.length = p) (hp : p ≤ 16777216) (hM : Reads w w.heap.size M (mcells ms)) :
    Calls Tryd.prog 24 #[.agg #[.int .i64 L, .slice A n c, .slice B m d], .agg #[.int .i64 (a), .int .i64 (q)], .slice M p cp] w fun e w' => e = .returned (.tuple #[.agg #[.int .i64 ((rmR L xs ys a q ms).1.1), .int .i64 ((rmR L xs ys a q ms).1.2)], .int .i64 (rmR L xs ys a q ms).2]) ∧ Gr w w' := by
  have HSt := Lib.hid (fun W h1 h2 h3 => start12_spec a q L A B n c m d xs ys M p cp ms W hx hy hn hm hnc hmd h1 h2 hml hp h3)
  have HRn := Lib.hid (fun W h1 h2 h3 => run12_spec a q L A B n c m d xs ys M p cp ms W hx hy hn hm hnc hmd h1 h2 hml hp h3)
  have RX := Lib.hid hX
  have RY := Lib.hid hY
  have RM := Lib.hid hM
  obtain ⟨B0, B1, B2, G0⟩ := boxes3 w 42 39 39 #[.int .i64 L, .slice A n c, .slice B m d] #[.int .i64 a, .int .i64 q] #[.int .i64 0, .int .i64 0]
  by_cases h : mvS L xs ys a q ms = 0
  rotate_left
  · have HR := Lib.hid (rmR_code h)
    have hb : (mvS L xs ys a q ms == 0) = false := by simpa using h
    generalize rmR L xs ys a q ms = R at *
    generalize mvS L xs ys a q ms = z at *
    clear hx hy hX hY hM hml h HRn
    go_enter Tryd.func24, Tryd.ntmps24
    go_wp2_with fail
    generalize ((w.alloc (.cells #[.int .i64 L, .slice A n c, .slice B m d] 42)).alloc (.cells #[.int .i64 a, .int .i64 q] 39)).alloc (.cells #[.int .i64 0, .int .i64 0] 39) = v at *
    refine (HSt.out _ (RX.out.gr G0) (RY.out.gr G0) (RM.out.gr G0)).mono ?_
    rintro e w1 ⟨rfl, hg1⟩
    have hG := G0.trans hg1
    replace B2 := B2.gr hg1
    obtain ⟨c0, c1, cf⟩ := B2.two
    have cl := B2.lt
    obtain ⟨r0, r1, -⟩ := ((B2.set 0 (.int .i64 0)).set 1 (.int .i64 0)).two
    go_wp2_with fail
    ((try simp only [Exit.inBlock, Exit.then]); refine bodyPost_ret (v := .tuple #[.agg #[.int .i64 (0), .int .i64 (0)], .int .i64 z]) (by simp [results, Tryd.results24, go_sem, r0, r1, World.cell?_setCell_same']) rfl ?_)
    rw [HR.out]
    exact ⟨rfl, Gr.of_below ((hG.below.setCell (p := ⟨w.heap.size + 1 + 1, 0, none⟩) (by show w.heap.size ≤ w.heap.size + 1 + 1; omega) _).setCell (p := ⟨w.heap.size + 1 + 1, 1, none⟩) (by show w.heap.size ≤ w.heap.size + 1 + 1; omega) _)⟩
  obtain ⟨h1, h2, h3⟩ := mvS_zero h
  have HRn := Lib.hid (fun W a1 a2 a3 => HRn.out W a1 a2 a3 (mvC_zero h3).1 h2)
  have HRun := Lib.hid (fun (J : Jy) (e : jyRun xs ys (jy0 a q) ms = (J, true)) => rmR_run h e)
  have HStop := Lib.hid (fun (J : Jy) (e : jyRun xs ys (jy0 a q) ms = (J, false)) => And.intro (rmR_stop h e) (jy_end e))
  rw [h] at HSt
  generalize rmR L xs ys a q ms = R at *
  generalize jyRun xs ys (jy0 a q) ms = JR at *
  clear hx hy hX hY hM hml h h1 h2 h3
  obtain ⟨J, b⟩ := JR
  cases b
  · obtain ⟨hR, hJ⟩ := HStop.out J rfl
    have HR := Lib.hid hR
    rw [rnV_f] at HRn
    clear hR HStop HRun
    go_enter Tryd.func24, Tryd.ntmps24
    go_wp2_with fail
    generalize ((w.alloc (.cells #[.int .i64 L, .slice A n c, .slice B m d] 42)).alloc (.cells #[.int .i64 a, .int .i64 q] 39)).alloc (.cells #[.int .i64 0, .int .i64 0] 39) = v at *
    refine (HSt.out _ (RX.out.gr G0) (RY.out.gr G0) (RM.out.gr G0)).mono ?_
    rintro e w1 ⟨rfl, hg1⟩
    have hG := G0.trans hg1
    replace B0 := B0.gr hg1
    replace B1 := B1.gr hg1
    replace B2 := B2.gr hg1
    obtain ⟨b0, b1, b2, -⟩ := B0.trio
    obtain ⟨d0, d1, -⟩ := B1.two
    go_wp2_with fail
    refine (HRn.out w1 (RX.out.gr hG) (RY.out.gr hG) (RM.out.gr hG)).mono ?_
    rintro e w2 ⟨rfl, hg2⟩
    have hG2 := hG.trans hg2
    replace B2 := B2.gr hg2
    obtain ⟨c0, c1, cf⟩ := B2.two
    have cl := B2.lt
    obtain ⟨r0, r1, -⟩ := (((B2.set 0 (.int .i64 0)).set 1 (.int .i64 0)).alloc (.cells #[.int .i64 J.a, .int .i64 J.c] 39)).two
    clear b0 b1 b2 d0 d1
    go_wp2_with fail
    ((try simp only [Exit.inBlock, Exit.then]); refine bodyPost_ret (v := .tuple #[.agg #[.int .i64 (0), .int .i64 (0)], .int .i64 5]) (by simp [results, Tryd.results24, go_sem, r0, r1, World.cell?_setCell_same']) rfl ?_)
    rw [HR.out]
    exact ⟨rfl, (Gr.of_below ((hG2.below.setCell (p := ⟨w.heap.size + 1 + 1, 0, none⟩) (by show w.heap.size ≤ w.heap.size + 1 + 1; omega) _).setCell (p := ⟨w.heap.size + 1 + 1, 1, none⟩) (by show w.heap.size ≤ w.heap.size + 1 + 1; omega) _)).alloc _⟩
  · have HR := Lib.hid (HRun.out J rfl)
    rw [rnV_t] at HRn
    clear HStop HRun
    go_enter Tryd.func24, Tryd.ntmps24
    go_wp2_with fail
    generalize ((w.alloc (.cells #[.int .i64 L, .slice A n c, .slice B m d] 42)).alloc (.cells #[.int .i64 a, .int .i64 q] 39)).alloc (.cells #[.int .i64 0, .int .i64 0] 39) = v at *
    refine (HSt.out _ (RX.out.gr G0) (RY.out.gr G0) (RM.out.gr G0)).mono ?_
    rintro e w1 ⟨rfl, hg1⟩
    have hG := G0.trans hg1
    replace B0 := B0.gr hg1
    replace B1 := B1.gr hg1
    replace B2 := B2.gr hg1
    obtain ⟨b0, b1, b2, -⟩ := B0.trio
    obtain ⟨d0, d1, -⟩ := B1.two
    go_wp2_with fail
    refine (HRn.out w1 (RX.out.gr hG) (RY.out.gr hG) (RM.out.gr hG)).mono ?_
    rintro e w2 ⟨rfl, hg2⟩
    have hG2 := hG.trans hg2
    replace B2 := B2.gr hg2
    obtain ⟨c0, c1, cf⟩ := B2.two
    have cl := B2.lt
    obtain ⟨r0, r1, -⟩ := (((B2.set 0 (.int .i64 J.a)).set 1 (.int .i64 J.c)).alloc (.cells #[.int .i64 J.a, .int .i64 J.c] 39)).two
    clear b0 b1 b2 d0 d1
    go_wp2_with fail
    ((try simp only [Exit.inBlock, Exit.then]); refine bodyPost_ret (v := .tuple #[.agg #[.int .i64 (J.a), .int .i64 (J.c)], .int .i64 0]) (by simp [results, Tryd.results24, go_sem, r0, r1, World.cell?_setCell_same']) rfl ?_)
    rw [HR.out]
    exact ⟨rfl, (Gr.of_below ((hG2.below.setCell (p := ⟨w.heap.size + 1 + 1, 0, none⟩) (by show w.heap.size ≤ w.heap.size + 1 + 1; omega) _).setCell (p := ⟨w.heap.size + 1 + 1, 1, none⟩) (by show w.heap.size ≤ w.heap.size + 1 + 1; omega) _)).alloc _⟩

theorem boxes2 (w : World) (T U : TypeId) (a b : Array Value) : Blk ((w.alloc (.cells a T)).alloc (.cells b U)) w.heap.size T a ∧ Blk ((w.alloc (.cells a T)).alloc (.cells b U)) (w.heap.size + 1) U b ∧ Gr w ((w.alloc (.cells a T)).alloc (.cells b U)) := two_boxes w T U a b
set_option maxHeartbeats 4000000 in
theorem firstImp_spec (a q : Int) (L : Int) (A B : Option Addr) (n c m d : Nat) (xs ys : List Int) (M : Option Addr) (p cp : Nat) (ms : List Mv) (w : World) (hx : xs.length = n) (hy : ys.length = m) (hn : n ≤ 16777216) (hm : m ≤ 16777216) (hnc : n ≤ c) (hmd : m ≤ d) (hX : Reads w w.heap.size A (xs.map vi)) (hY : Reads w w.heap.size B (ys.map vi)) (hml : ms.length = p) (hp : p ≤ 16777216) (hM : Reads w w.heap.size M (mcells ms)) :
    Calls Tryd.prog 26 #[.agg #[.int .i64 L, .slice A n c, .slice B m d], .agg #[.int .i64 (a), .int .i64 (q)], .slice M p cp] w fun e w' => e = .returned (.tuple #[.int .i64 (fiR L xs ys a q ms).1, .int .i64 (fiR L xs ys a q ms).2]) ∧ Gr w w' := by
  have HSt := Lib.hid (fun W h1 h2 h3 => start12_spec a q L A B n c m d xs ys M p cp ms W hx hy hn hm hnc hmd h1 h2 hml hp h3)
  have HRn := Lib.hid (fun W h1 h2 h3 => run12_spec a q L A B n c m d xs ys M p cp ms W hx hy hn hm hnc hmd h1 h2 hml hp h3)
  have RX := Lib.hid hX
  have RY := Lib.hid hY
  have RM := Lib.hid hM
  obtain ⟨B0, B1, G0⟩ := boxes2 w 42 39 #[.int .i64 L, .slice A n c, .slice B m d] #[.int .i64 a, .int .i64 q]
  by_cases h : mvS L xs ys a q ms = 0
  rotate_left
  · have HR := Lib.hid (fiR_code h)
    have hb : (mvS L xs ys a q ms == 0) = false := by simpa using h
    generalize fiR L xs ys a q ms = R at *
    generalize mvS L xs ys a q ms = z at *
    clear hx hy hX hY hM hml h HRn
    go_enter Tryd.func26, Tryd.ntmps26
    go_wp2_with fail
    refine (HSt.out _ (RX.out.gr G0) (RY.out.gr G0) (RM.out.gr G0)).mono ?_
    rintro e w1 ⟨rfl, hg1⟩
    have hG := G0.trans hg1
    go_wp2_with fail
    go_ret2
    rw [HR.out]
    exact ⟨rfl, hG⟩
  obtain ⟨h1, h2, h3⟩ := mvS_zero h
  have HRn := Lib.hid (fun W a1 a2 a3 => HRn.out W a1 a2 a3 (mvC_zero h3).1 h2)
  have HRun := Lib.hid (fun (J : Jy) (e : jyRun xs ys (jy0 a q) ms = (J, true)) => fiR_run h e)
  have HStop := Lib.hid (fun (J : Jy) (e : jyRun xs ys (jy0 a q) ms = (J, false)) => And.intro (fiR_stop h e) (jy_end e))
  rw [h] at HSt
  generalize fiR L xs ys a q ms = R at *
  generalize jyRun xs ys (jy0 a q) ms = JR at *
  clear hx hy hX hY hM hml h h1 h2 h3
  obtain ⟨J, b⟩ := JR
  cases b
  · obtain ⟨hR, hJ⟩ := HStop.out J rfl
    have HR := Lib.hid hR
    rw [rnV_f] at HRn
    clear hR HStop HRun
    go_enter Tryd.func26, Tryd.ntmps26
    go_wp2_with fail
    generalize (w.alloc (.cells #[.int .i64 L, .slice A n c, .slice B m d] 42)).alloc (.cells #[.int .i64 a, .int .i64 q] 39) = v at *
    refine (HSt.out _ (RX.out.gr G0) (RY.out.gr G0) (RM.out.gr G0)).mono ?_
    rintro e w1 ⟨rfl, hg1⟩
    have hG := G0.trans hg1
    obtain ⟨b0, b1, b2, -⟩ := (B0.gr hg1).trio
    obtain ⟨d0, d1, -⟩ := (B1.gr hg1).two
    go_wp2_with fail
    refine (HRn.out w1 (RX.out.gr hG) (RY.out.gr hG) (RM.out.gr hG)).mono ?_
    rintro e w2 ⟨rfl, hg2⟩
    have hG2 := hG.trans hg2
    clear b0 b1 b2 d0 d1
    go_wp2_with fail
    go_ret2
    rw [HR.out]
    exact ⟨rfl, hG2.alloc _⟩
  · have HR := Lib.hid (HRun.out J rfl)
    rw [rnV_t] at HRn
    clear HStop HRun
    go_enter Tryd.func26, Tryd.ntmps26
    go_wp2_with fail
    generalize (w.alloc (.cells #[.int .i64 L, .slice A n c, .slice B m d] 42)).alloc (.cells #[.int .i64 a, .int .i64 q] 39) = v at *
    refine (HSt.out _ (RX.out.gr G0) (RY.out.gr G0) (RM.out.gr G0)).mono ?_
    rintro e w1 ⟨rfl, hg1⟩
    have hG := G0.trans hg1
    obtain ⟨b0, b1, b2, -⟩ := (B0.gr hg1).trio
    obtain ⟨d0, d1, -⟩ := (B1.gr hg1).two
    go_wp2_with fail
    refine (HRn.out w1 (RX.out.gr hG) (RY.out.gr hG) (RM.out.gr hG)).mono ?_
    rintro e w2 ⟨rfl, hg2⟩
    have hG2 := hG.trans hg2
    clear b0 b1 b2 d0 d1
    go_wp2_with fail
    go_ret2
    rw [HR.out]
    exact ⟨rfl, hG2.alloc _⟩

theorem count_spec (M : Option Addr) (p cp : Nat) (ms : List Mv) (w : World) (hml : ms.length = p) (hp : p ≤ 16777216) (hM : Reads w w.heap.size M (mcells ms)) :
    Calls Tryd.prog 30 #[.slice M p cp] w fun e w' => e = .returned (.tuple #[.int .i64 (csR ms).1, .int .i64 (csR ms).2]) ∧ Gr w w' := by
  have HC := Lib.hid (mcode_spec M p cp ms w hml hp hM)
  by_cases h : mvC ms = 0
  rotate_left
  · have HR := Lib.hid (csR_code h)
    have hb : (mvC ms == 0) = false := by simpa using h
    generalize csR ms = R at *
    generalize mvC ms = z at *
    clear h hml hM
    go_enter Tryd.func30, Tryd.ntmps30
    go_wp2_with (go_at_call 38; (with_reducible refine (HC.out).mono ?_); rintro e w' ⟨rfl, hg⟩)
    go_ret2
    rw [HR.out]
    exact ⟨rfl, hg⟩
  have HR := Lib.hid (csR_ok h)
  have HV := Lib.hid (mvC_zero h).1
  have HL := Lib.hid hml
  have RM := Lib.hid hM
  have HK := Lib.hid (fun k => mvCt_bd ms k)
  rw [h] at HC
  clear h hml hM
  go_enter Tryd.func30, Tryd.ntmps30
  go_wp2_with (go_at_call 38; (with_reducible refine (HC.out).mono ?_); rintro e w1 ⟨rfl, hg1⟩)
  go_loopw [5, 6] (fun x i wr => ∃ k : Nat, k ≤ p ∧ x = .int .i64 (mvCt (ms.take k)) ∧ i = .int .i64 k ∧ Gr w wr) (fun _ i _ => p - (intOf i).toNat)
  case atStart => exact ⟨0, by omega, rfl, rfl, hg1⟩
  case round =>
    obtain ⟨k, hk, rfl, rfl, hG⟩ := hrel
    by_cases hlt : k < p
    · obtain ⟨mv, hmv⟩ := some_at (l := ms) (k := k) (by rw [HL.out]; exact hlt)
      obtain ⟨g, o, rfl, hg, x0, x1, x2, x3⟩ := (RM.out.gr hG).at4 hmv
      have hval := all_at HV.out hmv
      have HN := Lib.hid (mvCt_snoc hmv)
      have hb := HK.out k
      obtain ⟨mk, s, u, t⟩ := mv
      simp only at x0
      generalize mvCt (ms.take k) = z at *
      rcases mvB_cases hval with ⟨hk2, -, -⟩ | ⟨hk2, -⟩
      · have HN2 := Lib.hid (show mvCt (ms.take (k + 1)) = z + 1 by rw [HN.out, if_pos ((mvF_iff mk).2 (by omega))])
        have hle : mk ≤ 2 := by omega
        clear hmv HN hval hk2
        go_wp2
        go_roundw
        case rel => exact ⟨k + 1, by omega, by rw [HN2.out], by go_num, hG⟩
        case measure => simp [intOf]; omega
      · have HN2 := Lib.hid (show mvCt (ms.take (k + 1)) = z by rw [HN.out, if_neg (by intro h; have := (mvF_iff mk).1 h; omega), Int.add_zero])
        have hle : ¬ (mk ≤ 2) := by omega
        clear hmv HN hval hk2
        go_wp2
        go_roundw
        case rel => exact ⟨k + 1, by omega, by rw [HN2.out], by go_num, hG⟩
        case measure => simp [intOf]; omega
    · obtain rfl : k = p := by omega
      have HE := Lib.hid (show ms.take k = ms from List.take_of_length_le (by rw [HL.out]; omega))
      rw [HE.out]
      generalize mvCt ms = z at *
      go_wp2
      go_ret2
      rw [HR.out]
      exact ⟨rfl, hG⟩
end Go.Proofs.YtefhhigcplemaaaDoor
