/- Contracts of chapter 13: chains joined. -/
import Derived.Test.YtphebmbapllinaaC13c
import Derived.Test.YtphebmbapllinaaLX
import Derived.Deep.RegionLaw
import Derived.Laws.AppendOwn
namespace Go.Proofs.Ytphebmbapllinaa
open Go.RowKit Go.Shelf Go.ChangeShapes Go.WideShapes Go.ChangeAt
set_option linter.unusedVariables false
set_option linter.unusedSimpArgs false

theorem LstG.appT {T : TypeId} {w wr w1 : World} {B : Nat} {v v' : Value} {xs : List Tm} {m : Tm} {o : Obj} (hb : Below B w wr) (hB : B ≤ wr.heap.size) (hx : (wr.alloc o).ownsRow B T 3 v xs.length (xs.flatMap tcl)) (h' : w1.ownsRow B T 3 v' (xs.length + 1) (xs.flatMap tcl ++ [vi m.1, vi m.2.1, .bool m.2.2])) (hg : (wr.alloc o).grownBy w1 v.ownBlock) :
    LstG tcl 3 T w1 B v' (xs ++ [m]) ∧ Below B w w1 := by
  refine ⟨?_, (hb.alloc hB o).grown hg (by simp; omega) (fun k hk => (hx.lt k hk).1)⟩
  unfold LstG
  rw [List.flatMap_append, List.length_append]
  exact h'
theorem joL_take {cs ds : List Tm} {b : Bool} {k : Nat} {m : Tm} (h : ds[k]? = some m) : joL cs (ds.take (k + 1)) b = joL cs (ds.take k) b ++ [flp b m] := by
  obtain ⟨h1, e⟩ := List.getElem?_eq_some_iff.1 h
  unfold joL
  rw [List.take_succ_eq_append_getElem h1, e, List.map_append, List.append_assoc]
  rfl
theorem joL_nil (cs : List Tm) (b : Bool) : joL cs [] b = cs := by unfold joL; simp

set_option maxRecDepth 100000 in
set_option maxHeartbeats 8000000 in
theorem jo_impl (A : Option Addr) (n c : Nat) (B : Option Addr) (m d : Nat) (cs ds : List Tm) (b : Bool) (w : World) (hn : cs.length = n) (hN : n ≤ 1048576) (hm : ds.length = m) (hM : m ≤ 1048576) (hA : Reads w w.heap.size A (tcells cs)) (hB : Reads w w.heap.size B (tcells ds)) :
    Calls Try.prog 30 #[.slice A n c, .slice B m d, .bool b] w (LsT (joR cs ds b) w) := by
  have HI := Lib.hid (fun W h => isChain_impl A n c cs W hn (by omega) h)
  have HJ := Lib.hid (fun W h => isChain_impl B m d ds W hm (by omega) h)
  have RA := Lib.hid hA
  have RB := Lib.hid hB
  rcases chnB_tf cs with h1 | h1
  rotate_left
  · have HR := Lib.hid (joR_inv (cs := cs) (ds := ds) b (.inl h1))
    rw [h1] at HI
    clear h1 hn hm hA hB
    go_enter Try.func30, Try.ntmps30
    go_wp2_with (go_at_call 23; (with_reducible refine (HI.out _ RA.out).mono ?_); rintro e w' ⟨rfl, k, os, rfl⟩)
    go_ret2
    exact LsT.none (Gr.below (by repeat (first | with_reducible exact Gr.refl _ | with_reducible refine Gr.alloc ?_ _ | with_reducible refine Gr.gr ?_ _ _ | with_reducible refine Gr.drew ?_ | with_reducible refine Gr.drewN ?_ _))) HR.out
  rcases chnB_tf ds with h2 | h2
  rotate_left
  · have HR := Lib.hid (joR_inv (cs := cs) (ds := ds) b (.inr h2))
    rw [h1] at HI
    rw [h2] at HJ
    clear h1 h2 hn hm hA hB
    go_enter Try.func30, Try.ntmps30
    go_wp2_with (first | (go_at_call 23; (with_reducible refine (HI.out _ RA.out).mono ?_); rintro e w' ⟨rfl, k, os, rfl⟩) | (go_at_call 23; (with_reducible refine (HJ.out _ (RB.out.gr (by repeat (first | with_reducible exact Gr.refl _ | with_reducible refine Gr.alloc ?_ _ | with_reducible refine Gr.gr ?_ _ _ | with_reducible refine Gr.drew ?_ | with_reducible refine Gr.drewN ?_ _)))).mono ?_); rintro e w' ⟨rfl, k2, os2, rfl⟩))
    go_ret2
    exact LsT.none (Gr.below (by repeat (first | with_reducible exact Gr.refl _ | with_reducible refine Gr.alloc ?_ _ | with_reducible refine Gr.gr ?_ _ _ | with_reducible refine Gr.drew ?_ | with_reducible refine Gr.drewN ?_ _))) HR.out
  by_cases hl : 6 < n + m
  · have HR := Lib.hid (joR_long b h1 h2 (by rw [hn, hm]; exact hl))
    rw [h1] at HI
    rw [h2] at HJ
    have hl6 : (6 : Int) < (n : Int) + m := by omega
    clear h1 h2 hn hm hA hB hl
    go_enter Try.func30, Try.ntmps30
    go_wp2_with (first | (go_at_call 23; (with_reducible refine (HI.out _ RA.out).mono ?_); rintro e w' ⟨rfl, k, os, rfl⟩) | (go_at_call 23; (with_reducible refine (HJ.out _ (RB.out.gr (by repeat (first | with_reducible exact Gr.refl _ | with_reducible refine Gr.alloc ?_ _ | with_reducible refine Gr.gr ?_ _ _ | with_reducible refine Gr.drew ?_ | with_reducible refine Gr.drewN ?_ _)))).mono ?_); rintro e w' ⟨rfl, k2, os2, rfl⟩))
    go_ret2
    exact LsT.none (Gr.below (by repeat (first | with_reducible exact Gr.refl _ | with_reducible refine Gr.alloc ?_ _ | with_reducible refine Gr.gr ?_ _ _ | with_reducible refine Gr.drew ?_ | with_reducible refine Gr.drewN ?_ _))) HR.out
  have HR := Lib.hid (joR_ok b h1 h2 (by rw [hn, hm]; omega))
  obtain ⟨⟨l1, l6⟩, -, -⟩ := (chnB_iff cs).1 h1
  obtain ⟨⟨k1, k6⟩, -, -⟩ := (chnB_iff ds).1 h2
  rw [hn] at l1 l6
  rw [hm] at k1 k6
  rw [h1] at HI
  rw [h2] at HJ
  have hl6 : ¬ ((6 : Int) < (n : Int) + m) := by omega
  obtain ⟨x, hx⟩ := some_at (l := cs) (k := 0) (by omega)
  obtain ⟨ga, oa, rfl, -, -, -, -⟩ := hA.att hx
  have HCL := Lib.hid (fun W h => cloneT_any ⟨ga, oa, none⟩ n c cs W hn hN h)
  have HLn := Lib.hid hn
  have HLm := Lib.hid hm
  have HJL := Lib.hid (fun k => show (joL cs (ds.take k) b).length ≤ n + m by rw [joL_len, hn, List.length_take, hm]; omega)
  obtain ⟨i0, hinf, hz0, hz1, hz2⟩ := info_parts info_term
  clear h1 h2 hn hm hA hB hl hx
  go_enter Try.func30, Try.ntmps30
  go_wp2_with (first | (go_at_call 23; (with_reducible refine (HI.out _ RA.out).mono ?_); rintro e w0 ⟨rfl, hg0⟩) | (go_at_call 23; (with_reducible refine (HJ.out _ (RB.out.gr hg0)).mono ?_); rintro e w1 ⟨rfl, hg1⟩))
  have hG1 := hg0.trans hg1
  clear hg0 hg1
  refine (HCL.out w1 (RA.out.gr hG1)).mono ?_
  rintro e w2 ⟨⟨v, rfl, hv⟩, hb2⟩
  have hs1 := hG1.below.size
  have hW2 := hG1.below.trans (hb2.mono hs1)
  have HV := Lib.hid (hv.mono (B' := w.heap.size) hs1)
  clear hv hb2 hG1
  go_wp2_with fail
  go_loopw [8, 31] (fun u i wr => ∃ k : Nat, k ≤ m ∧ i = .int .i64 k ∧ LstG tcl 3 64 wr w.heap.size u (joL cs (ds.take k) b) ∧ Below w.heap.size w wr) (fun _ i _ => m - (intOf i).toNat)
  case atStart => exact ⟨0, by omega, rfl, by rw [List.take_zero, joL_nil]; exact HV.out, hW2⟩
  case round =>
    clear hW2
    obtain ⟨k, hk, rfl, hO, hW⟩ := hrel
    have hws := hW.size
    by_cases hlt : k < m
    · obtain ⟨q, hq⟩ := some_at (l := ds) (k := k) (by rw [HLm.out]; exact hlt)
      obtain ⟨g, o, rfl, hg, x0, x1, x2⟩ := (RB.out.below hW).att hq
      have HT := Lib.hid (joL_take (cs := cs) (b := b) hq)
      have hjl := HJL.out k
      obtain ⟨qd, qt, qb⟩ := q
      simp only at x0 x1 x2
      clear hq
      have HO := Lib.hid hO
      have HW := Lib.hid hW
      clear hO hW
      generalize joL cs (ds.take k) b = xs at *
      cases b <;> cases qb
      all_goals
        go_wp2_with (at_builtin; refine wpList_append_own _ rfl _ _ 24 rfl w.heap.size 64 i0 (.agg #[vi 0, vi 0, .bool false]) 3 24 Try.underlying24 hinf hz0 hz1 hz2 rfl (by decide) _ _ _ rfl ((HO.out.alloc _).alloc _) ⟨wr.heap.size + 1, 0, none⟩ 1 1 [vi qd, vi qt, .bool _] rfl rfl (by simpa using three_cells_new (wr.alloc (.cells #[vi qd, vi qt, .bool _] 64)) _ _ _ _) (by simp [Value.oneCell']) (by unfold maxLen; omega) (by omega) (by simp; omega) ?_; intro v' w4 hown' hgrow _; obtain ⟨hA1, hA2⟩ := LstG.appT (m := (qd, qt, _)) (HW.out.alloc hws _) (by simp; omega) ((HO.out.alloc _).alloc _) hown' hgrow; have HA1 := Lib.hid hA1; have HA2 := Lib.hid hA2; clear hA1 hA2 hown' hgrow)
        go_roundw
        case rel => exact ⟨k + 1, by omega, by go_num, by rw [HT.out]; exact HA1.out, HA2.out⟩
        case measure => simp [intOf]; omega
    · obtain rfl : k = m := by omega
      have HE := Lib.hid (show ds.take k = ds from List.take_of_length_le (by rw [HLm.out]; omega))
      rw [HE.out] at hO
      go_wp2
      go_ret2
      unfold LsT
      rw [HR.out]
      exact ⟨⟨_, rfl, hO⟩, hW⟩
set_option maxRecDepth 100000 in
set_option maxHeartbeats 8000000 in
theorem jo_spec (A : Option Addr) (n c : Nat) (B : Option Addr) (m d : Nat) (cs ds : List Tm) (b : Bool) (w : World) (hn : cs.length = n) (hN : n ≤ 1048576) (hm : ds.length = m) (hM : m ≤ 1048576) (hA : Reads w w.heap.size A (tcells cs)) (hB : Reads w w.heap.size B (tcells ds)) :
    Calls Try.prog 31 #[.slice A n c, .slice B m d, .bool b] w (LsT (joR cs ds b) w) := by
  have HI := Lib.hid (fun W h => isChain_spec A n c cs W hn (by omega) h)
  have HJ := Lib.hid (fun W h => isChain_spec B m d ds W hm (by omega) h)
  have RA := Lib.hid hA
  have RB := Lib.hid hB
  rcases chnB_tf cs with h1 | h1
  rotate_left
  · have HR := Lib.hid (joR_inv (cs := cs) (ds := ds) b (.inl h1))
    rw [h1] at HI
    clear h1 hn hm hA hB
    go_enter Try.func31, Try.ntmps31
    go_wp2_with (go_at_call 36; (with_reducible refine (HI.out _ RA.out).mono ?_); rintro e w' ⟨rfl, k, os, rfl⟩)
    go_ret2
    exact LsT.none (Gr.below (by repeat (first | with_reducible exact Gr.refl _ | with_reducible refine Gr.alloc ?_ _ | with_reducible refine Gr.gr ?_ _ _ | with_reducible refine Gr.drew ?_ | with_reducible refine Gr.drewN ?_ _))) HR.out
  rcases chnB_tf ds with h2 | h2
  rotate_left
  · have HR := Lib.hid (joR_inv (cs := cs) (ds := ds) b (.inr h2))
    rw [h1] at HI
    rw [h2] at HJ
    clear h1 h2 hn hm hA hB
    go_enter Try.func31, Try.ntmps31
    go_wp2_with (first | (go_at_call 36; (with_reducible refine (HI.out _ RA.out).mono ?_); rintro e w' ⟨rfl, k, os, rfl⟩) | (go_at_call 36; (with_reducible refine (HJ.out _ (RB.out.gr (by repeat (first | with_reducible exact Gr.refl _ | with_reducible refine Gr.alloc ?_ _ | with_reducible refine Gr.gr ?_ _ _ | with_reducible refine Gr.drew ?_ | with_reducible refine Gr.drewN ?_ _)))).mono ?_); rintro e w' ⟨rfl, k2, os2, rfl⟩))
    go_ret2
    exact LsT.none (Gr.below (by repeat (first | with_reducible exact Gr.refl _ | with_reducible refine Gr.alloc ?_ _ | with_reducible refine Gr.gr ?_ _ _ | with_reducible refine Gr.drew ?_ | with_reducible refine Gr.drewN ?_ _))) HR.out
  have HRL := Lib.hid (fun (hl : 6 < n + m) => joR_long b h1 h2 (by rw [hn, hm]; exact hl))
  have HRO := Lib.hid (fun (hl : n + m ≤ 6) => joR_ok b h1 h2 (by rw [hn, hm]; exact hl))
  obtain ⟨⟨l1, l6⟩, -, -⟩ := (chnB_iff cs).1 h1
  obtain ⟨⟨k1, k6⟩, -, -⟩ := (chnB_iff ds).1 h2
  rw [hn] at l1 l6
  rw [hm] at k1 k6
  rw [h1] at HI
  rw [h2] at HJ
  obtain ⟨x, hx⟩ := some_at (l := cs) (k := 0) (by omega)
  obtain ⟨ga, oa, rfl, -, -, -, -⟩ := hA.att hx
  have HLn := Lib.hid hn
  have HLm := Lib.hid hm
  have HJL := Lib.hid (fun k => show (joL cs (ds.take k) b).length ≤ n + m by rw [joL_len, hn, List.length_take, hm]; omega)
  have HJE := Lib.hid (show (joL cs ds b).length = n + m by rw [joL_len, hn, hm])
  have HML := Lib.hid (show (tcells cs).length = n * 3 by rw [tcells_len, hn])
  have HON := Lib.hid (tone cs)
  obtain ⟨i0, hinf, hz0, hz1, hz2⟩ := info_parts info_term
  clear h1 h2 hn hm hA hB hx
  go_enter Try.func31, Try.ntmps31
  go_wp2_with (first | (go_at_call 36; (with_reducible refine (HI.out _ RA.out).mono ?_); rintro e w0 ⟨rfl, hg0⟩) | (go_at_call 36; (with_reducible refine (HJ.out _ (RB.out.gr hg0)).mono ?_); rintro e w1 ⟨rfl, hg1⟩; have hG1 := hg0.trans hg1; have hs1 := hG1.below.size; have HO : Hid (LstG tcl 3 64 (w1.alloc (.cells #[] 64)) w1.heap.size (.slice (some ⟨w1.heap.size, 0, none⟩) 0 0) []) := Lib.hid (LstG.new _ w1 w1.heap.size (Nat.le_refl _)); have HNA := Lib.hid (fun (h : 0 < n) => show ∃ a, some (⟨ga, oa, none⟩ : Addr) = some a ∧ ∀ j u, (tcells cs)[j]? = some u → (w1.alloc (.cells #[] 64)).cell? (a.add j) = some u from ⟨_, rfl, news_of ((RA.out.gr hG1).gr (show Gr w1 (w1.alloc (.cells #[] 64)) from (by repeat (first | with_reducible exact Gr.refl _ | with_reducible refine Gr.alloc ?_ _ | with_reducible refine Gr.gr ?_ _ _ | with_reducible refine Gr.drew ?_ | with_reducible refine Gr.drewN ?_ _))))⟩); have HG0 := Lib.hid hG1; clear hg0 hg1 hG1) | (at_builtin; refine wpList_append_ownA _ rfl _ _ 24 rfl w1.heap.size 64 i0 (.agg #[vi 0, vi 0, .bool false]) 3 24 Try.underlying24 hinf hz0 hz1 hz2 rfl (by decide) _ _ _ rfl HO.out (some ⟨ga, oa, none⟩) n c (tcells cs) rfl (fun h => by cases h) HML.out HNA.out HON.out (by simp [maxLen]; omega) (by simp; omega) (by simp) ?_; intro v' w4 hown' hgrow; have hv := own_rowT HLn.out hown'; have hb4 := ((Below.refl w1.heap.size w1).alloc (Nat.le_refl _) (.cells #[] 64)).grown hgrow (by simp) (fun k hk => (World.ownsRow.lt HO.out k hk).1); have HW2 := Lib.hid (HG0.out.below.trans (hb4.mono hs1)); have HV := Lib.hid (LstG.mono (B' := w.heap.size) hv hs1); clear hown' hgrow hv hb4))
  go_loopw [8, 9] (fun u i wr => ∃ k : Nat, k ≤ m ∧ i = .int .i64 k ∧ LstG tcl 3 64 wr w.heap.size u (joL cs (ds.take k) b) ∧ Below w.heap.size w wr) (fun _ i _ => m - (intOf i).toNat)
  case atStart => exact ⟨0, by omega, rfl, by rw [List.take_zero, joL_nil]; exact HV.out, HW2.out⟩
  case round =>
    clear HW2 HV
    obtain ⟨k, hk, rfl, hO, hW⟩ := hrel
    by_cases hlt : k < m
    · obtain ⟨q, hq⟩ := some_at (l := ds) (k := k) (by rw [HLm.out]; exact hlt)
      obtain ⟨g, o, rfl, hg, x0, x1, x2⟩ := (RB.out.below hW).att hq
      have HT := Lib.hid (joL_take (cs := cs) (b := b) hq)
      have hjl := HJL.out k
      obtain ⟨qd, qt, qb⟩ := q
      simp only at x0 x1 x2
      clear hq
      have hws0 := hW.size
      have hws : w.heap.size ≤ wr.drew.heap.size := hW.size
      have HO := Lib.hid (LstG.below hO (Gr.below ((Gr.refl wr).drew)))
      have HW := Lib.hid (hW.trans ((Gr.below ((Gr.refl wr).drew)).mono hW.size))
      clear hO hW
      generalize joL cs (ds.take k) b = xs at *
      cases b <;> cases qb
      all_goals
        go_wp2
        go_region_law (refine step_append_own9 rfl _ _ 24 rfl w.heap.size 64 i0 (.agg #[vi 0, vi 0, .bool false]) 3 24 Try.underlying24 hinf hz0 hz1 hz2 rfl (by decide) _ _ _ rfl (HO.out.alloc _) _ 1 1 [vi qd, vi qt, .bool _] rfl rfl (fun _ => three_cells_new _ _ _ _ _) (by simp [Value.oneCell']) (by unfold maxLen; omega) (by omega) (by simp; omega) ?_; intro v' w5 hown' hgrow; obtain ⟨hA1, hA2⟩ := LstG.appT (m := (qd, qt, _)) HW.out hws (HO.out.alloc _) hown' hgrow; have HA1 := Lib.hid hA1; have HA2 := Lib.hid hA2; clear hA1 hA2 hown' hgrow)
        all_goals
          go_wp2
          go_roundw
          case rel => exact ⟨k + 1, by omega, by go_num, by rw [HT.out]; exact HA1.out, HA2.out⟩
          case measure => simp [intOf]; omega
    · obtain rfl : k = m := by omega
      have HE := Lib.hid (show ds.take k = ds from List.take_of_length_le (by rw [HLm.out]; omega))
      rw [HE.out] at hO
      obtain ⟨A2, c2, rfl, -⟩ := LstG.slice hO
      have HL3 := HJE.out
      rw [HL3] at hO ⊢
      by_cases hl : 6 < n + k
      · have HR := Lib.hid (HRL.out hl)
        have hl6 : (6 : Int) < ((n + k : Nat) : Int) := by omega
        go_wp2
        go_ret2
        exact LsT.none hW HR.out
      · have HR := Lib.hid (HRO.out (by omega))
        have hl6 : ¬ ((6 : Int) < ((n + k : Nat) : Int)) := by omega
        go_wp2
        go_ret2
        unfold LsT
        rw [HR.out]
        exact ⟨⟨_, rfl, hO⟩, hW⟩
end Go.Proofs.Ytphebmbapllinaa
