/- Contracts of chapter 13: chains sorted. -/
import Derived.Test.YtphebmbapllinaaC13e
namespace Go.Proofs.Ytphebmbapllinaa
open Go.RowKit Go.Shelf Go.ChangeShapes Go.WideShapes Go.ChangeAt
set_option linter.unusedVariables false
set_option linter.unusedSimpArgs false

theorem flt_bd (cs : List Tm) : (dvs cs).length ≤ cs.length ∧ (mls cs).length ≤ cs.length := by
  have := fltT_len cs
  omega
/-- A list of terms of the call's own that is not nil. -/
def TwF (xs : List Tm) (B : Nat) (v : Value) (w : World) : Prop := ∃ g cap : Nat, v = .slice (some ⟨g, 0, none⟩) xs.length cap ∧ xs.length ≤ cap ∧ LstG tcl 3 64 w B v xs
theorem TwF.gr {xs : List Tm} {B : Nat} (v : Value) (w w' : World) (hg : Gr w w') (h : TwF xs B v w) : TwF xs B v w' := by
  obtain ⟨g, cap, e, h1, h2⟩ := h
  exact ⟨g, cap, e, h1, LstG.below h2 hg.below⟩
theorem TwF.of {xs : List Tm} {B : Nat} {v : Value} {w : World} (hn : v ≠ .slice none 0 0) (h : LstG tcl 3 64 w B v xs) : TwF xs B v w := by
  rcases LstG.row h with ⟨e, -⟩ | ⟨g, cap, rest, e, hg, hr, h1, -⟩
  · exact absurd e hn
  · exact ⟨g, cap, e, h1, h⟩
theorem with_ever (B : Nat) (A : Option Addr) (n c : Nat) (ls : List Tm) (b : Bool) (w : World) (hB : B ≤ w.heap.size) (hn : ls.length = n) (hN : n ≤ 1048576) (hA : Reads w w.heap.size A (tcells ls)) :
    Calls Try.prog 49 #[.slice A n c, .bool b] w fun e w' => ∃ v, e = .returned v ∧ TwF (wth b ls) B v w' ∧ Gr w w' :=
  (with_any A n c ls b w hn hN hA).mono fun e w' ⟨⟨v, he, hn, hl⟩, hb⟩ => ⟨v, he, TwF.of hn (LstG.mono hl hB), Gr.of_below hb⟩
theorem LstG.appT2 {T : TypeId} {w wr w1 : World} {B : Nat} {v v' : Value} {xs : List Tm} {m q : Tm} {o : Obj} (hb : Below B w wr) (hB : B ≤ wr.heap.size) (hx : (wr.alloc o).ownsRow B T 3 v xs.length (xs.flatMap tcl)) (h' : w1.ownsRow B T 3 v' (xs.length + 2) (xs.flatMap tcl ++ [vi m.1, vi m.2.1, .bool m.2.2, vi q.1, vi q.2.1, .bool q.2.2])) (hg : (wr.alloc o).grownBy w1 v.ownBlock) :
    LstG tcl 3 T w1 B v' (xs ++ [m, q]) ∧ Below B w w1 := by
  refine ⟨?_, (hb.alloc hB o).grown hg (by simp; omega) (fun k hk => (hx.lt k hk).1)⟩
  unfold LstG
  rw [List.flatMap_append, List.length_append]
  exact h'
theorem six_cells_new (w : World) (a b c d e f : Value) (t : TypeId) : ∀ j u, [a, b, c, d, e, f][j]? = some u → (w.alloc (.cells #[a, b, c, d, e, f] t)).cell? ((⟨w.heap.size, 0, none⟩ : Addr).add j) = some u := by
  intro j u hj
  match j, hj with
  | 0, hj => simp at hj; subst hj; simp [Addr.add]
  | 1, hj => simp at hj; subst hj; simp [Addr.add]
  | 2, hj => simp at hj; subst hj; simp [Addr.add]
  | 3, hj => simp at hj; subst hj; simp [Addr.add]
  | 4, hj => simp at hj; subst hj; simp [Addr.add]
  | 5, hj => simp at hj; subst hj; simp [Addr.add]
/-- A list of one term, just made. -/
theorem LstG.oneT (w : World) (B : Nat) (hB : B ≤ w.heap.size) (a b : Int) (c : Bool) : LstG tcl 3 64 (w.alloc (.cells #[vi a, vi b, .bool c] 64)) B (.slice (some ⟨w.heap.size, 0, none⟩) 1 1) [(a, b, c)] :=
  LstG.of_rowT (rest := []) hB (by have := Blk.new w 64 #[vi a, vi b, .bool c]; simpa [Row, Blk, tcells, tcl] using this) rfl (by unfold maxLen; omega) (Nat.le_refl _) rfl
theorem prs_at {xs ys : List Tm} {k : Nat} {x y : Tm} (hx : xs[k]? = some x) (hy : ys[k]? = some y) : prs xs ys (k + 1) = prs xs ys k ++ [x, y] := by
  show prs xs ys k ++ [xs.getD k _, ys.getD k _] = _
  rw [getD_at hx, getD_at hy]
theorem take_one {cs : List Tm} {x : Tm} (h : cs[0]? = some x) : cs.take 1 = [x] := by
  cases cs with
  | nil => cases h
  | cons a r => simp at h; subst h; rfl
theorem readsT_of {T : TypeId} {w : World} {B g n cap : Nat} {xs : List Tm} (h : LstG tcl 3 T w B (.slice (some ⟨g, 0, none⟩) n cap) xs) {i : Nat} {p : Tm} (hp : xs[i]? = some p) :
    g < w.heap.size ∧ w.cell? ⟨g, i * 3, none⟩ = some (vi p.1) ∧ w.cell? ⟨g, i * 3 + 1, none⟩ = some (vi p.2.1) ∧ w.cell? ⟨g, i * 3 + 2, none⟩ = some (.bool p.2.2) := by
  obtain ⟨g', o, e, h1, x0, x1, x2⟩ := (LstG.readsT h).att hp
  injection e with e
  injection e with ea eb
  subst ea eb
  simp only [Nat.zero_add] at x0 x1 x2
  exact ⟨h1, x0, x1, x2⟩

set_option maxRecDepth 100000 in
set_option maxHeartbeats 16000000 in
theorem so_impl (A : Option Addr) (n c : Nat) (cs : List Tm) (w : World) (hn : cs.length = n) (hN : n ≤ 1048576) (hc : n ≤ c) (hA : Reads w w.heap.size A (tcells cs)) :
    Calls Try.prog 17 #[.slice A n c] w (LsT (soR cs) w) := by
  have HI := Lib.hid (fun W h => isChain_impl A n c cs W hn (by omega) h)
  have RA := Lib.hid hA
  rcases chnB_tf cs with h1 | h1
  rotate_left
  · have HR := Lib.hid (soR_no h1)
    rw [h1] at HI
    clear h1 hn hA
    go_enter Try.func17, Try.ntmps17
    go_wp2_with (go_at_call 23; (with_reducible refine (HI.out _ RA.out).mono ?_); rintro e w' ⟨rfl, k, os, rfl⟩)
    go_ret2
    exact LsT.none (Gr.below (by repeat (first | with_reducible exact Gr.refl _ | with_reducible refine Gr.alloc ?_ _ | with_reducible refine Gr.gr ?_ _ _ | with_reducible refine Gr.drew ?_ | with_reducible refine Gr.drewN ?_ _))) HR.out
  have HR := Lib.hid (soR_ok h1)
  obtain ⟨⟨l1, l6⟩, -, -⟩ := (chnB_iff cs).1 h1
  rw [hn] at l1 l6
  rw [h1] at HI
  obtain ⟨x, hx⟩ := some_at (l := cs) (k := 0) (by omega)
  obtain ⟨g, o, rfl, hg0, -, -, -⟩ := hA.att hx
  obtain ⟨o', E, hcut, hrd, hE⟩ := cut_terms g o n c 1 cs hn l1 hc
  have hcut1 : ∀ W, (Instr.sliceAt 24 (.slice (some ⟨g, o, none⟩) n c) (some (.int .i64 1)) none none).run Try.prog W = .ok (.slice (some ⟨g, o', none⟩) (n - 1) E) W := hcut
  have HRD := Lib.hid (fun W (h : Gr w W) => hrd W W.heap.size (hA.gr h))
  have HLT := Lib.hid (show (cs.drop 1).length = n - 1 by rw [List.length_drop, hn])
  have HX := Lib.hid (fun W (h : Gr w W) => (hA.gr h).att hx)
  have HT1 := Lib.hid (take_one hx)
  have HFL := Lib.hid (flt_bd cs)
  have HSO := Lib.hid (show soL cs = cs.take 1 ++ (prs (dvs cs) (mls cs) (min (dvs cs).length (mls cs).length) ++ ((dvs cs).drop (min (dvs cs).length (mls cs).length) ++ (mls cs).drop (min (dvs cs).length (mls cs).length))) by unfold soL; rw [ilv_prs])
  have HWD := Lib.hid (wth_div cs)
  have HWM := Lib.hid (wth_mul cs)
  have hd6 := HFL.out.1
  have hm6 := HFL.out.2
  rw [hn] at hd6 hm6
  obtain ⟨i0, hinf, hz0, hz1, hz2⟩ := info_parts info_term
  clear h1 hn hA hx hcut hrd
  obtain ⟨xd, xt, xb⟩ := x
  simp only at HX HT1
  go_enter Try.func17, Try.ntmps17
  go_wp2_with (go_at_call 23; (with_reducible refine (HI.out _ RA.out).mono ?_); rintro e w1 ⟨rfl, hg1⟩)
  have HG1 := Lib.hid hg1
  clear hg1
  refine region_grows [(2, .ever (TwF (dvs cs) w1.heap.size) TwF.gr), (5, .ever (TwF (mls cs) w1.heap.size) TwF.gr)] (by kernel_rfl) (by kernel_rfl) ?_
  (refine lz_one rfl (fun K hK => ?_); refine ⟨rfl, ?_⟩; apply Exists.intro; refine ⟨fun wz hz => ?_, ?_⟩; (focus (skip; go_simp; (first | done | exact ⟨rfl, rfl⟩ | trivial))); (go_simp; refine hK _ _ ?_; clear hK K))
  (refine lz_one rfl (fun K hK => ?_); refine ⟨rfl, ?_⟩; apply Exists.intro; refine ⟨fun wz hz => ?_, ?_⟩; (focus (skip; go_simp; (first | done | exact ⟨rfl, rfl⟩ | trivial))); (go_simp; refine hK _ _ ?_; clear hK K))
  (refine lz_many _ rfl (fun K hK => ?_); refine ⟨rfl, fun wz hz ha => ?_, fun vz wz hz hf => ?_⟩; (focus (go_simp; exact lg_ever hz (HWD.out ▸ with_ever w1.heap.size (some ⟨g, o', none⟩) (n - 1) E (cs.drop 1) true _ hz.below.size HLT.out (by omega) (HRD.out _ (HG1.out.trans hz))))); (obtain ⟨gd, cd, rfl, -, -⟩ := hf; clear hz wz; go_simp; refine hK _ _ ?_; clear hK K))
  (refine lz_one rfl (fun K hK => ?_); refine ⟨rfl, ?_⟩; apply Exists.intro; refine ⟨fun wz hz => ?_, ?_⟩; (focus (skip; go_simp; (first | done | exact ⟨rfl, rfl⟩ | trivial))); (go_simp; refine hK _ _ ?_; clear hK K))
  (refine lz_one rfl (fun K hK => ?_); refine ⟨rfl, ?_⟩; apply Exists.intro; refine ⟨fun wz hz => ?_, ?_⟩; (focus (skip; go_simp; (first | done | exact ⟨rfl, rfl⟩ | trivial))); (go_simp; refine hK _ _ ?_; clear hK K))
  (refine lz_many _ rfl (fun K hK => ?_); refine ⟨rfl, fun wz hz ha => ?_, fun vz wz hz hf => ?_⟩; (focus (go_simp; exact lg_ever hz (HWM.out ▸ with_ever w1.heap.size (some ⟨g, o', none⟩) (n - 1) E (cs.drop 1) false _ hz.below.size HLT.out (by omega) (HRD.out _ (HG1.out.trans hz))))); (obtain ⟨gm, cm, rfl, -, -⟩ := hf; clear hz wz; go_simp; refine hK _ _ ?_; clear hK K))
  (refine lz_one rfl (fun K hK => ?_); refine ⟨rfl, ?_⟩; apply Exists.intro; refine ⟨fun wz hz => ?_, ?_⟩; (focus (skip; go_simp; (first | done | exact ⟨rfl, rfl⟩ | trivial))); (go_simp; refine hK _ _ ?_; clear hK K))
  (refine lz_one rfl (fun K hK => ?_); refine ⟨rfl, ?_⟩; apply Exists.intro; refine ⟨fun wz hz => ?_, ?_⟩; (focus (skip; go_simp; (first | done | exact ⟨rfl, rfl⟩ | trivial))); (go_simp; refine hK _ _ ?_; clear hK K))
  refine lz_nil ?_
  intro w2 hz hgn
  obtain ⟨gd', cd', ed, hcd, hLd⟩ := hgn 2
  cases ed
  obtain ⟨gm', cm', em, hcm, hLm⟩ := hgn 5
  cases em
  have hG2 := HG1.out.trans hz
  have hs2 := hG2.below.size
  clear hgn hz HWD HWM HRD
  obtain ⟨g', o2, e', hgl, x0, x1, x2⟩ := HX.out w2 hG2
  injection e' with e'
  injection e' with ea eb
  subst ea eb
  simp only [Nat.zero_mul, Nat.add_zero] at x0 x1 x2
  generalize dvs cs = dv at *
  generalize mls cs = ml at *
  have HMN := Lib.hid (fun W => minN_any dv.length ml.length W (by omega) (by omega))
  have hmd : min dv.length ml.length ≤ dv.length := Nat.min_le_left _ _
  have hmm : min dv.length ml.length ≤ ml.length := Nat.min_le_right _ _
  generalize min dv.length ml.length = mn at *
  have HLd := Lib.hid hLd
  have HLm := Lib.hid hLm
  have hO1 := LstG.oneT w2 w2.heap.size (Nat.le_refl _) xd xt xb
  have hB1 : Below w2.heap.size w2 (w2.alloc (.cells #[vi xd, vi xt, .bool xb] 64)) := (Below.refl _ _).alloc (Nat.le_refl _) _
  have HG2 := Lib.hid hG2
  clear hLd hLm hG2
  go_wp2_with (go_at_call 50; (with_reducible refine (HMN.out _).mono ?_); rintro e w' ⟨rfl, rfl⟩)
  clear x0 x1 x2
  go_loopw [7, 28] (fun u i wr => ∃ k : Nat, k ≤ mn ∧ i = .int .i64 k ∧ LstG tcl 3 64 wr w2.heap.size u ((xd, xt, xb) :: prs dv ml k) ∧ Below w2.heap.size w2 wr) (fun _ i _ => mn - (intOf i).toNat)
  case atStart => exact ⟨0, by omega, rfl, hO1, hB1⟩
  case round =>
    clear hO1 hB1
    obtain ⟨k, hk, rfl, hO, hW⟩ := hrel
    by_cases hlt : k < mn
    · obtain ⟨p, hp⟩ := some_at (l := dv) (k := k) (by omega)
      obtain ⟨q, hq⟩ := some_at (l := ml) (k := k) (by omega)
      obtain ⟨gdl, p0, p1, p2⟩ := readsT_of (LstG.below HLd.out hW) hp
      obtain ⟨gml, q0, q1, q2⟩ := readsT_of (LstG.below HLm.out hW) hq
      have HT := Lib.hid (prs_at hp hq)
      have hpl : ((xd, xt, xb) :: prs dv ml k).length ≤ 13 := by rw [List.length_cons, prs_len]; omega
      obtain ⟨pd, pt, pb⟩ := p
      obtain ⟨qd, qt, qb⟩ := q
      simp only at p0 p1 p2 q0 q1 q2
      have hkd : k < dv.length := by omega
      have hkm : k < ml.length := by omega
      have hws0 := hW.size
      have hws : w2.heap.size ≤ wr.drew.heap.size := hW.size
      have HO := Lib.hid (LstG.below hO (Gr.below ((Gr.refl wr).drew)))
      have HW := Lib.hid (hW.trans ((Gr.below ((Gr.refl wr).drew)).mono hW.size))
      clear hO hW hp hq
      have HXS := Lib.hid (show (xd, xt, xb) :: prs dv ml (k + 1) = ((xd, xt, xb) :: prs dv ml k) ++ [(pd, pt, pb), (qd, qt, qb)] by rw [HT.out]; rfl)
      generalize (xd, xt, xb) :: prs dv ml k = xs at *
      go_wp2
      go_region_law (refine step_append_own9 rfl _ _ 24 rfl w2.heap.size 64 i0 (.agg #[vi 0, vi 0, .bool false]) 3 24 Try.underlying24 hinf hz0 hz1 hz2 rfl (by decide) _ _ _ rfl (HO.out.alloc _) _ 2 2 [vi pd, vi pt, .bool pb, vi qd, vi qt, .bool qb] rfl rfl (fun _ => six_cells_new _ _ _ _ _ _ _ _) (by simp [Value.oneCell']) (by unfold maxLen; omega) (by omega) (by simp; omega) ?_; intro v' w5 hown' hgrow; obtain ⟨hA1, hA2⟩ := LstG.appT2 (m := (pd, pt, pb)) (q := (qd, qt, qb)) HW.out hws (HO.out.alloc _) hown' hgrow; have HA1 := Lib.hid hA1; have HA2 := Lib.hid hA2; clear hA1 hA2 hown' hgrow)
      all_goals
        go_wp2
        go_roundw
        case rel => exact ⟨k + 1, by omega, by go_num, by rw [HXS.out]; exact HA1.out, HA2.out⟩
        case measure => simp [intOf]; omega
    · obtain rfl : k = mn := by omega
      have hSO := HSO.out
      rw [HT1.out] at hSO
      obtain ⟨gu, cu, ru, rfl, hgu, hru, hcu1, hcu2, hcu3⟩ := LstG.rowT hO (by simp)
      obtain ⟨od, Ed, hcutd, hrdd, hEd⟩ := cut_terms gd 0 dv.length cd k dv rfl hmd hcd
      obtain ⟨om, Em, hcutm, hrdm, hEm⟩ := cut_terms gm 0 ml.length cm k ml rfl hmm hcm
      have hpl : ((xd, xt, xb) :: prs dv ml k).length ≤ 13 := by rw [List.length_cons, prs_len]; omega
      have HU := Lib.hid hO.readsT
      have HD := Lib.hid (hrdd wr wr.heap.size (LstG.below HLd.out hW).readsT)
      have HM := Lib.hid (hrdm wr wr.heap.size (LstG.below HLm.out hW).readsT)
      have HSE := Lib.hid (show soL cs = catT [((some ⟨gu, 0, none⟩, ((xd, xt, xb) :: prs dv ml k).length, cu), (xd, xt, xb) :: prs dv ml k), ((some ⟨gd, od, none⟩, dv.length - k, Ed), dv.drop k), ((some ⟨gm, om, none⟩, ml.length - k, Em), ml.drop k)] by rw [hSO]; simp [catT])
      have HC := Lib.hid (fun W g0 (hG : Gr wr W) (hK : Blk W g0 24 #[.slice (some ⟨gu, 0, none⟩) ((xd, xt, xb) :: prs dv ml k).length cu, .slice (some ⟨gd, od, none⟩) (dv.length - k) Ed, .slice (some ⟨gm, om, none⟩) (ml.length - k) Em]) => by
        obtain ⟨c0, c1, c2, -⟩ := hK.trioT
        have h := concat_any g0 3 3 [((some ⟨gu, 0, none⟩, ((xd, xt, xb) :: prs dv ml k).length, cu), (xd, xt, xb) :: prs dv ml k), ((some ⟨gd, od, none⟩, dv.length - k, Ed), dv.drop k), ((some ⟨gm, om, none⟩, ml.length - k, Em), ml.drop k)] W rfl (by omega) hK.lt
          (fun j p hj => by
            match j, hj with
            | 0, hj => simp at hj; subst hj; exact c0
            | 1, hj => simp at hj; subst hj; exact c1
            | 2, hj => simp at hj; subst hj; exact c2)
          (fun p hp => by
            rcases List.mem_cons.1 hp with rfl | hp
            · exact ⟨rfl, HU.out.gr hG, fun h => by cases h⟩
            rcases List.mem_cons.1 hp with rfl | hp
            · exact ⟨by simp, HD.out.gr hG, fun h => by cases h⟩
            rcases List.mem_cons.1 hp with rfl | hp
            · exact ⟨by simp, HM.out.gr hG, fun h => by cases h⟩
            cases hp)
          (by simp [catT]) (by simp only [catT, List.flatMap_cons, List.flatMap_nil, List.append_nil, List.length_append, List.length_drop]; omega)
        rw [← HSE.out] at h
        exact h)
      have HW := Lib.hid (HG2.out.below.trans (hW.mono hs2))
      have hws := HW.out.size
      clear hO hru hSO HU HD HM HSE hrdd hrdm HLd HLm HSO hW
      generalize ((xd, xt, xb) :: prs dv ml k).length = nu at *
      go_wp2
      go_region_law (go_simp; go_at_call 51; refine (HC.out _ _ (by repeat (first | with_reducible exact Gr.refl _ | with_reducible refine Gr.alloc ?_ _ | with_reducible refine Gr.gr ?_ _ _ | with_reducible refine Gr.drew ?_ | with_reducible refine Gr.drewN ?_ _)) ((Blk.new wr _ _).gr ((Gr.refl _).drew))).mono ?_; rintro e w5 ⟨⟨v, rfl, hv⟩, hb5⟩; have HV := Lib.hid (LstG.mono (B' := w.heap.size) hv (by simp; omega)); have HB := Lib.hid (HW.out.trans (((((Gr.refl wr).alloc _).drew).below.trans (hb5.mono ((((Gr.refl wr).alloc _).drew).below.size))).mono hws)); clear hv hb5)
      all_goals
        go_wp2
        go_ret2
        unfold LsT
        rw [HR.out]
        exact ⟨⟨_, rfl, HV.out⟩, HB.out⟩
end Go.Proofs.Ytphebmbapllinaa
