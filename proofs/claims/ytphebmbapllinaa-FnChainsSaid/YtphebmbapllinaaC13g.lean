/- Contracts of chapter 13: chains sorted, in the model. -/
import Derived.Test.YtphebmbapllinaaC13f
import Derived.Test.YtphebmbapllinaaCT
namespace Go.Proofs.Ytphebmbapllinaa
open Go.RowKit Go.Shelf Go.ChangeShapes Go.WideShapes Go.ChangeAt
set_option linter.unusedVariables false
set_option linter.unusedSimpArgs false

theorem tk_drop {cs : List Tm} {k : Nat} {m : Tm} (h : cs[k]? = some m) (hk : 1 ≤ k) : (cs.take (k + 1)).drop 1 = (cs.take k).drop 1 ++ [m] := by
  obtain ⟨h1, e⟩ := List.getElem?_eq_some_iff.1 h
  rw [List.take_succ_eq_append_getElem h1, e, List.drop_append_of_le_length (by rw [List.length_take]; omega)]
/-- Two lists in blocks apart. -/
def Aprt (u v : Value) : Prop := ∀ g, u.ownBlock = some g → v.ownBlock = some g → False
theorem Aprt.left {w : World} {B : Nat} {u u' v : Value} {T : TypeId} {xs : List Tm} (h : Aprt u v) (ho : OldOrNew w u u') (hv : LstG tcl 3 T w B v xs) : Aprt u' v := by
  intro g h1 h2
  rcases ho with h3 | ⟨g3, h3, h4⟩
  · exact h g (h3 ▸ h1) h2
  · rw [h1] at h3
    injection h3 with h3
    subst h3
    have := (World.ownsRow.lt hv g h2).2
    omega
theorem Aprt.right {w : World} {B : Nat} {u v v' : Value} {T : TypeId} {xs : List Tm} (h : Aprt u v) (ho : OldOrNew w v v') (hu : LstG tcl 3 T w B u xs) : Aprt u v' := by
  intro g h1 h2
  rcases ho with h3 | ⟨g3, h3, h4⟩
  · exact h g h1 (h3 ▸ h2)
  · rw [h2] at h3
    injection h3 with h3
    subst h3
    have := (World.ownsRow.lt hu g h1).2
    omega
theorem Aprt.keep {w w' : World} {B : Nat} {u v : Value} {T : TypeId} {xs : List Tm} (h : Aprt u v) (hg : w.grownBy w' u.ownBlock) (hv : LstG tcl 3 T w B v xs) : LstG tcl 3 T w' B v xs :=
  LstG.keepT hv (fun g e hl => hg.block g hl (fun e2 => h g e2.symm e))
theorem Aprt.keep' {w w' : World} {B : Nat} {u v : Value} {T : TypeId} {xs : List Tm} (h : Aprt u v) (hg : w.grownBy w' v.ownBlock) (hu : LstG tcl 3 T w B u xs) : LstG tcl 3 T w' B u xs :=
  LstG.keepT hu (fun g e hl => hg.block g hl (fun e2 => h g e e2.symm))
theorem rnd_at (xs ys : List Tm) (k : Nat) : rnds xs ys (k + 1) = rnds xs ys k ++ (xs[k]?.toList ++ ys[k]?.toList) := rfl

set_option maxRecDepth 100000 in
set_option maxHeartbeats 16000000 in
theorem so_spec (A : Option Addr) (n c : Nat) (cs : List Tm) (w : World) (hn : cs.length = n) (hN : n ≤ 1048576) (hA : Reads w w.heap.size A (tcells cs)) :
    Calls Try.prog 18 #[.slice A n c] w (LsT (soR cs) w) := by
  have HI := Lib.hid (fun W h => isChain_spec A n c cs W hn (by omega) h)
  have RA := Lib.hid hA
  rcases chnB_tf cs with h1 | h1
  rotate_left
  · have HR := Lib.hid (soR_no h1)
    rw [h1] at HI
    clear h1 hn hA
    go_enter Try.func18, Try.ntmps18
    go_wp2_with (go_at_call 36; (with_reducible refine (HI.out _ RA.out).mono ?_); rintro e w' ⟨rfl, k, os, rfl⟩)
    go_ret2
    exact LsT.none (Gr.below (by repeat (first | with_reducible exact Gr.refl _ | with_reducible refine Gr.alloc ?_ _ | with_reducible refine Gr.gr ?_ _ _ | with_reducible refine Gr.drew ?_ | with_reducible refine Gr.drewN ?_ _))) HR.out
  have HR := Lib.hid (soR_ok h1)
  obtain ⟨⟨l1, l6⟩, -, -⟩ := (chnB_iff cs).1 h1
  rw [hn] at l1 l6
  rw [h1] at HI
  obtain ⟨x, hx⟩ := some_at (l := cs) (k := 0) (by omega)
  have HL := Lib.hid hn
  have HX := Lib.hid (fun W (h : Below w.heap.size w W) => (hA.below h).att hx)
  have HT1 := Lib.hid (take_one hx)
  have HFL := Lib.hid (flt_bd cs)
  have HSO := Lib.hid (show soL cs = cs.take 1 ++ rnds (dvs cs) (mls cs) n by unfold soL; rw [ilv_rnds (dvs cs) (mls cs) n (by rw [← hn]; exact (flt_bd cs).1) (by rw [← hn]; exact (flt_bd cs).2)])
  have HWD := Lib.hid (wth_div cs)
  have HWM := Lib.hid (wth_mul cs)
  have hd6 := HFL.out.1
  have hm6 := HFL.out.2
  rw [hn] at hd6 hm6
  have HWL := Lib.hid (fun b k => show (wth b ((cs.take k).drop 1)).length ≤ n from Nat.le_trans (wth_len b _) (by rw [List.length_drop, List.length_take, hn]; omega))
  obtain ⟨i0, hinf, hz0, hz1, hz2⟩ := info_parts info_term
  clear h1 hn hA hx
  obtain ⟨xd, xt, xb⟩ := x
  simp only at HX HT1
  go_enter Try.func18, Try.ntmps18
  go_wp2_with (go_at_call 36; (with_reducible refine (HI.out _ RA.out).mono ?_); rintro e w1 ⟨rfl, hg1⟩)
  have hs1 := hg1.below.size
  have hU : LstG tcl 3 64 ((w1.alloc (.cells #[] 64)).alloc (.cells #[] 64)) w.heap.size (.slice (some ⟨w1.heap.size, 0, none⟩) 0 0) [] := LstG.below (LstG.new 64 w1 w.heap.size hs1) ((Below.refl _ _).alloc (Nat.le_refl _) _)
  have hV : LstG tcl 3 64 ((w1.alloc (.cells #[] 64)).alloc (.cells #[] 64)) w.heap.size (.slice (some ⟨w1.heap.size + 1, 0, none⟩) 0 0) [] := by
    have := LstG.new (cl := tcl) (m := 3) 64 (w1.alloc (.cells #[] 64)) w.heap.size (by simp; omega)
    simpa using this
  have hAp : Aprt (.slice (some ⟨w1.heap.size, 0, none⟩) 0 0) (.slice (some ⟨w1.heap.size + 1, 0, none⟩) 0 0) := by
    intro g h1 h2
    simp [Value.ownBlock] at h1 h2
    omega
  have hB0 : Below w.heap.size w ((w1.alloc (.cells #[] 64)).alloc (.cells #[] 64)) := ((hg1.alloc _).alloc _).below
  clear hg1
  generalize (w1.alloc (.cells #[] 64)).alloc (.cells #[] 64) = v1 at *
  go_loopw [4, 5, 6] (fun u v i wr => ∃ k : Nat, 1 ≤ k ∧ k ≤ n ∧ i = .int .i64 k ∧ LstG tcl 3 64 wr w.heap.size u (wth true ((cs.take k).drop 1)) ∧ LstG tcl 3 64 wr w.heap.size v (wth false ((cs.take k).drop 1)) ∧ Aprt u v ∧ Below w.heap.size w wr) (fun _ _ i _ => n - (intOf i).toNat)
  case atStart =>
    have e1 : (cs.take 1).drop 1 = [] := by rw [HT1.out]; rfl
    exact ⟨1, by omega, by omega, rfl, by rw [e1]; exact hU, by rw [e1]; exact hV, hAp, hB0⟩
  case round =>
    clear hU hV hAp hB0
    obtain ⟨k, hk1, hk, rfl, hU, hV, hAp, hW⟩ := hrel
    have hws := hW.size
    by_cases hlt : k < n
    · obtain ⟨q, hq⟩ := some_at (l := cs) (k := k) (by rw [HL.out]; exact hlt)
      obtain ⟨g, o, rfl, hg, x0, x1, x2⟩ := (RA.out.below hW).att hq
      have HTd := Lib.hid (fun b => (show wth b ((cs.take (k + 1)).drop 1) = _ by rw [tk_drop hq hk1, wth_app]))
      have hl1 := HWL.out true k
      have hl2 := HWL.out false k
      obtain ⟨qd, qt, qb⟩ := q
      simp only at x0 x1 x2 HTd
      have HU := Lib.hid hU
      have HV := Lib.hid hV
      have HW := Lib.hid hW
      have HAp := Lib.hid hAp
      clear hq hU hV hW hAp
      cases qb
      · have HTt := Lib.hid (HTd.out true)
        have HTf := Lib.hid (HTd.out false)
        rw [if_neg (by simp), List.append_nil] at HTt
        rw [if_pos (by simp)] at HTf
        clear HTd
        generalize wth true ((cs.take k).drop 1) = us at *
        generalize wth false ((cs.take k).drop 1) = vs at *
        go_wp2_with (at_builtin; refine wpList_append_ownB _ rfl _ _ 24 rfl w.heap.size 64 i0 (.agg #[vi 0, vi 0, .bool false]) 3 24 Try.underlying24 hinf hz0 hz1 hz2 rfl (by decide) _ _ _ rfl (HV.out.alloc _) ⟨wr.heap.size, 0, none⟩ 1 1 [vi qd, vi qt, .bool false] rfl rfl (three_cells_new _ _ _ _ _) (by simp [Value.oneCell']) (by omega) (by unfold maxLen; omega) (by omega) (by simp; omega) ?_; intro v' w4 hown' hgrow hblk; obtain ⟨hA1, hA2⟩ := LstG.appT (m := (qd, qt, false)) HW.out hws (HV.out.alloc _) hown' hgrow; have HA1 := Lib.hid hA1; have HA2 := Lib.hid hA2; have HA3 := Lib.hid (HAp.out.right hblk (LstG.below HU.out ((Below.refl _ _).alloc (Nat.le_refl _) _))); have HA4 := Lib.hid (HAp.out.keep' hgrow (LstG.below HU.out ((Below.refl _ _).alloc (Nat.le_refl _) _))); clear hA1 hA2 hown' hgrow hblk)
        go_roundw
        case rel => exact ⟨k + 1, by omega, by omega, by go_num, by rw [HTt.out]; exact HA4.out, by rw [HTf.out]; exact HA1.out, HA3.out, HA2.out⟩
        case measure => simp [intOf]; omega
      · have HTt := Lib.hid (HTd.out true)
        have HTf := Lib.hid (HTd.out false)
        rw [if_pos (by simp)] at HTt
        rw [if_neg (by simp), List.append_nil] at HTf
        clear HTd
        generalize wth true ((cs.take k).drop 1) = us at *
        generalize wth false ((cs.take k).drop 1) = vs at *
        go_wp2_with (at_builtin; refine wpList_append_ownB _ rfl _ _ 24 rfl w.heap.size 64 i0 (.agg #[vi 0, vi 0, .bool false]) 3 24 Try.underlying24 hinf hz0 hz1 hz2 rfl (by decide) _ _ _ rfl (HU.out.alloc _) ⟨wr.heap.size, 0, none⟩ 1 1 [vi qd, vi qt, .bool true] rfl rfl (three_cells_new _ _ _ _ _) (by simp [Value.oneCell']) (by omega) (by unfold maxLen; omega) (by omega) (by simp; omega) ?_; intro v' w4 hown' hgrow hblk; obtain ⟨hA1, hA2⟩ := LstG.appT (m := (qd, qt, true)) HW.out hws (HU.out.alloc _) hown' hgrow; have HA1 := Lib.hid hA1; have HA2 := Lib.hid hA2; have HA3 := Lib.hid (HAp.out.left hblk (LstG.below HV.out ((Below.refl _ _).alloc (Nat.le_refl _) _))); have HA4 := Lib.hid (HAp.out.keep hgrow (LstG.below HV.out ((Below.refl _ _).alloc (Nat.le_refl _) _))); clear hA1 hA2 hown' hgrow hblk)
        go_roundw
        case rel => exact ⟨k + 1, by omega, by omega, by go_num, by rw [HTt.out]; exact HA1.out, by rw [HTf.out]; exact HA4.out, HA3.out, HA2.out⟩
        case measure => simp [intOf]; omega
    · obtain rfl : k = n := by omega
      generalize wr = wo at *
      have HE := Lib.hid (show cs.take k = cs from List.take_of_length_le (by rw [HL.out]; omega))
      rw [HE.out, HWD.out] at hU
      rw [HE.out, HWM.out] at hV
      obtain ⟨ga, o, rfl, hga, x0, x1, x2⟩ := HX.out wo hW
      simp only [Nat.zero_mul, Nat.add_zero] at x0 x1 x2
      have hO1 := LstG.oneT wo wo.heap.size (Nat.le_refl _) xd xt xb
      have hB1 : Below wo.heap.size wo (wo.alloc (.cells #[vi xd, vi xt, .bool xb] 64)) := (Below.refl _ _).alloc (Nat.le_refl _) _
      have HSO2 := Lib.hid (show soL cs = (xd, xt, xb) :: rnds (dvs cs) (mls cs) k by rw [HSO.out, HT1.out]; rfl)
      obtain ⟨Au, cu, rfl, hru⟩ := LstG.slice hU
      obtain ⟨Av, cv, rfl, hrv⟩ := LstG.slice hV
      have HRU := Lib.hid hru
      have HRV := Lib.hid hrv
      have HW := Lib.hid hW
      clear hU hV hAp HSO HWL HWD HWM HFL hru hrv hW
      generalize dvs cs = dv at *
      generalize mls cs = ml at *
      go_wp2
      clear x0 x1 x2
      go_loopw [7, 8] (fun z i wr => ∃ j : Nat, j ≤ k ∧ i = .int .i64 j ∧ LstG tcl 3 64 wr wo.heap.size z ((xd, xt, xb) :: rnds dv ml j) ∧ Below wo.heap.size wo wr) (fun _ i _ => k - (intOf i).toNat)
      case atStart => exact ⟨0, by omega, rfl, hO1, hB1⟩
      case round =>
        clear hO1 hB1
        obtain ⟨j, hj, rfl, hO, hT⟩ := hrel
        have hws2 := hT.size
        have hpl : ((xd, xt, xb) :: rnds dv ml j).length ≤ 13 := by have := rnds_len dv ml j; rw [List.length_cons]; omega
        by_cases hlt : j < k
        · have HS := Lib.hid (show (xd, xt, xb) :: rnds dv ml (j + 1) = ((xd, xt, xb) :: rnds dv ml j) ++ (dv[j]?.toList ++ ml[j]?.toList) from rfl)
          have HO := Lib.hid hO
          have HT := Lib.hid hT
          clear hO hT
          generalize (xd, xt, xb) :: rnds dv ml j = xs at *
          by_cases hd : j < dv.length
          · obtain ⟨p, hp⟩ := some_at hd
            obtain ⟨gu, ou, rfl, hgu, p0, p1, p2⟩ := (HRU.out.below HT.out).att hp
            rw [hp] at HS
            obtain ⟨pd, pt, pb⟩ := p
            simp only at p0 p1 p2
            clear hp
            by_cases hm : j < ml.length
            · obtain ⟨q, hq⟩ := some_at hm
              have HQ := Lib.hid (fun W (h : Below wo.heap.size wo W) => (HRV.out.below h).att hq)
              rw [hq] at HS
              obtain ⟨qd, qt, qb⟩ := q
              simp only at HQ
              clear hq
              have HS2 := Lib.hid (HS.out.trans (show xs ++ ([(pd, pt, pb)] ++ [(qd, qt, qb)]) = (xs ++ [(pd, pt, pb)]) ++ [(qd, qt, qb)] by simp))
              go_wp2_with (first
                | (at_builtin; refine wpList_append_own _ rfl _ _ 24 rfl wo.heap.size 64 i0 (.agg #[vi 0, vi 0, .bool false]) 3 24 Try.underlying24 hinf hz0 hz1 hz2 rfl (by decide) _ _ _ rfl (HO.out.alloc _) ⟨wr.heap.size, 0, none⟩ 1 1 [vi pd, vi pt, .bool pb] rfl rfl (three_cells_new _ _ _ _ _) (by simp [Value.oneCell']) (by unfold maxLen; omega) (by omega) (by simp; omega) ?_; intro v' w4 hown' hgrow _; obtain ⟨hA1, hA2⟩ := LstG.appT (m := (pd, pt, pb)) HT.out hws2 (HO.out.alloc _) hown' hgrow; have HA1 := Lib.hid hA1; have HA2 := Lib.hid hA2; have hws4 := hA2.size; have hl4 : (xs ++ [(pd, pt, pb)]).length ≤ 14 := (by rw [List.length_append]; simp; omega); obtain ⟨gv, ov, ev, hgv, q0, q1, q2⟩ := HQ.out w4 hA2; subst ev; clear hA1 hA2 hown' hgrow)
                | (at_builtin; refine wpList_append_own _ rfl _ _ 24 rfl wo.heap.size 64 i0 (.agg #[vi 0, vi 0, .bool false]) 3 24 Try.underlying24 hinf hz0 hz1 hz2 rfl (by decide) _ _ _ rfl (HA1.out.alloc _) ⟨w4.heap.size, 0, none⟩ 1 1 [vi qd, vi qt, .bool qb] rfl rfl (three_cells_new _ _ _ _ _) (by simp [Value.oneCell']) (by unfold maxLen; omega) (by omega) (by simp; omega) ?_; intro v2 w5 hown2 hgrow2 _; obtain ⟨hC1, hC2⟩ := LstG.appT (m := (qd, qt, qb)) HA2.out hws4 (HA1.out.alloc _) hown2 hgrow2; have HC1 := Lib.hid hC1; have HC2 := Lib.hid hC2; clear hC1 hC2 hown2 hgrow2))
              go_roundw
              case rel => exact ⟨j + 1, by omega, by go_num, by rw [HS2.out]; exact HC1.out, HC2.out⟩
              case measure => simp [intOf]; omega
            · rw [List.getElem?_eq_none (by omega : ml.length ≤ j)] at HS
              have HS2 := Lib.hid (HS.out.trans (show xs ++ ([(pd, pt, pb)] ++ []) = xs ++ [(pd, pt, pb)] by simp))
              go_wp2_with (at_builtin; refine wpList_append_own _ rfl _ _ 24 rfl wo.heap.size 64 i0 (.agg #[vi 0, vi 0, .bool false]) 3 24 Try.underlying24 hinf hz0 hz1 hz2 rfl (by decide) _ _ _ rfl (HO.out.alloc _) ⟨wr.heap.size, 0, none⟩ 1 1 [vi pd, vi pt, .bool pb] rfl rfl (three_cells_new _ _ _ _ _) (by simp [Value.oneCell']) (by unfold maxLen; omega) (by omega) (by simp; omega) ?_; intro v' w4 hown' hgrow _; obtain ⟨hA1, hA2⟩ := LstG.appT (m := (pd, pt, pb)) HT.out hws2 (HO.out.alloc _) hown' hgrow; have HA1 := Lib.hid hA1; have HA2 := Lib.hid hA2; clear hA1 hA2 hown' hgrow)
              go_roundw
              case rel => exact ⟨j + 1, by omega, by go_num, by rw [HS2.out]; exact HA1.out, HA2.out⟩
              case measure => simp [intOf]; omega
          · rw [List.getElem?_eq_none (by omega : dv.length ≤ j)] at HS
            by_cases hm : j < ml.length
            · obtain ⟨q, hq⟩ := some_at hm
              obtain ⟨gv, ov, rfl, hgv, q0, q1, q2⟩ := (HRV.out.below HT.out).att hq
              rw [hq] at HS
              obtain ⟨qd, qt, qb⟩ := q
              simp only at q0 q1 q2
              clear hq
              have HS2 := Lib.hid (HS.out.trans (show xs ++ ([] ++ [(qd, qt, qb)]) = xs ++ [(qd, qt, qb)] by simp))
              go_wp2_with (at_builtin; refine wpList_append_own _ rfl _ _ 24 rfl wo.heap.size 64 i0 (.agg #[vi 0, vi 0, .bool false]) 3 24 Try.underlying24 hinf hz0 hz1 hz2 rfl (by decide) _ _ _ rfl (HO.out.alloc _) ⟨wr.heap.size, 0, none⟩ 1 1 [vi qd, vi qt, .bool qb] rfl rfl (three_cells_new _ _ _ _ _) (by simp [Value.oneCell']) (by unfold maxLen; omega) (by omega) (by simp; omega) ?_; intro v' w4 hown' hgrow _; obtain ⟨hA1, hA2⟩ := LstG.appT (m := (qd, qt, qb)) HT.out hws2 (HO.out.alloc _) hown' hgrow; have HA1 := Lib.hid hA1; have HA2 := Lib.hid hA2; clear hA1 hA2 hown' hgrow)
              go_roundw
              case rel => exact ⟨j + 1, by omega, by go_num, by rw [HS2.out]; exact HA1.out, HA2.out⟩
              case measure => simp [intOf]; omega
            · rw [List.getElem?_eq_none (by omega : ml.length ≤ j)] at HS
              have HS2 := Lib.hid (HS.out.trans (show xs ++ ([] ++ []) = xs by simp))
              go_wp2
              go_roundw
              case rel => exact ⟨j + 1, by omega, by go_num, by rw [HS2.out]; exact HO.out, HT.out⟩
              case measure => simp [intOf]; omega
        · obtain rfl : j = k := by omega
          rw [← HSO2.out] at hO
          have hfin := HW.out.trans (hT.mono hws)
          go_wp2
          go_ret2
          unfold LsT
          rw [HR.out]
          exact ⟨⟨_, rfl, LstG.mono hO hws⟩, hfin⟩
end Go.Proofs.Ytphebmbapllinaa
