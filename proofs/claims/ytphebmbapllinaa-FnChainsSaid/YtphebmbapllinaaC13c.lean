/- Contracts of chapter 13: lists of terms copied, two terms exchanged. -/
import Derived.Test.YtphebmbapllinaaC13a
import Derived.Test.YtphebmbapllinaaLs
import Derived.Test.YtphebmbapllinaaLX
import Derived.Test.YtphebmbapllinaaMH
import Derived.Lib.SliceRun
namespace Go.Proofs.Ytphebmbapllinaa
open Go.RowKit Go.Shelf Go.ChangeShapes Go.WideShapes Go.ChangeAt
set_option linter.unusedVariables false
set_option linter.unusedSimpArgs false

theorem info_term : (Try.prog.info? 64).map (fun i => (i.zero, i.size, i.bytes)) = some (some (.agg #[vi 0, vi 0, .bool false]), 3, 24) := by kernel_rfl
/-- Terms and a code are returned, the terms in memory of the call's own. -/
def LsT (r : List Tm × Int) (w : World) (e : Ending) (w' : World) : Prop := (∃ v, e = .returned (.tuple #[v, .int .i64 r.2]) ∧ LstG tcl 3 64 w' w.heap.size v r.1) ∧ Below w.heap.size w w'
theorem LsT.none {w w' : World} {cd : Int} {r : List Tm × Int} (h : Below w.heap.size w w') (e : r = ([], cd)) : LsT r w (.returned (.tuple #[.slice none 0 0, .int .i64 cd])) w' := by
  rw [e]
  exact ⟨⟨_, rfl, World.ownsRow_nil _ _ _ _⟩, h⟩
theorem news_of {w : World} {B : Nat} {ad : Addr} {vs : List Value} (hR : Reads w B (some ad) vs) : ∀ j u, vs[j]? = some u → w.cell? (ad.add j) = some u := by
  intro j u hj
  obtain ⟨hl, e⟩ := List.getElem?_eq_some_iff.1 hj
  obtain ⟨g, o, e2, -, h2⟩ := hR j hl
  injection e2 with e2
  subst e2
  rw [add_plain, h2, e]
theorem tone (cs : List Tm) : ∀ u ∈ tcells cs, u.oneCell' = true := by
  intro u hu
  unfold tcells at hu
  obtain ⟨m, -, hm⟩ := List.mem_flatMap.1 hu
  rcases List.mem_cons.1 hm with rfl | hm
  · rfl
  rcases List.mem_cons.1 hm with rfl | hm
  · rfl
  rcases List.mem_cons.1 hm with rfl | hm
  · rfl
  cases hm
theorem flat_tcl (cs : List Tm) : cs.flatMap tcl = tcells cs := rfl
theorem cloneT_any (ad : Addr) (n c : Nat) (cs : List Tm) (w : World) (hn : cs.length = n) (hN : n ≤ 1048576) (hA : Reads w w.heap.size (some ad) (tcells cs)) :
    Calls Try.prog 47 #[.slice (some ad) n c] w fun e w' => (∃ v, e = .returned v ∧ LstG tcl 3 64 w' w.heap.size v cs) ∧ Below w.heap.size w w' := by
  have HO : Hid (LstG tcl 3 64 (w.alloc (.cells #[] 64)) w.heap.size (.slice (some ⟨w.heap.size, 0, none⟩) 0 0) []) := Lib.hid (LstG.new _ w w.heap.size (Nat.le_refl _))
  have HN := Lib.hid hn
  have HA := Lib.hid (fun (h : 0 < n) => show ∃ a, some ad = some a ∧ ∀ j u, (tcells cs)[j]? = some u → (w.alloc (.cells #[] 64)).cell? (a.add j) = some u from ⟨ad, rfl, news_of (hA.gr (show Gr w (w.alloc (.cells #[] 64)) from (by repeat (first | with_reducible exact Gr.refl _ | with_reducible refine Gr.alloc ?_ _ | with_reducible refine Gr.gr ?_ _ _ | with_reducible refine Gr.drew ?_ | with_reducible refine Gr.drewN ?_ _))))⟩)
  have HML := Lib.hid (show (tcells cs).length = n * 3 by rw [tcells_len, hn])
  have HON := Lib.hid (tone cs)
  obtain ⟨i0, hi, hz0, hz1, hz2⟩ := info_parts info_term
  have q22 : ∀ (w : World) (a : Option Addr) (n c n' c' : Nat), (binOp .eql 24 (.slice a n c) (.slice none n' c')).run Try.prog w = .ok (.bool a.isNone) w := fun w a n c n' c' => Lib.run_eql_slice_nil w _ _ a n c n' c' Try.underlying24
  clear hA hn
  go_enter Try.func47, Try.ntmps47
  go_wp2_with (at_builtin; refine wpList_append_ownA _ rfl _ _ 24 rfl w.heap.size 64 i0 (.agg #[vi 0, vi 0, .bool false]) 3 24 Try.underlying24 hi hz0 hz1 hz2 rfl (by decide) _ _ _ rfl HO.out (some ad) n c (tcells cs) rfl (fun h => by cases h) HML.out HA.out HON.out (by simp [maxLen]; omega) (by simp; omega) (by simp) ?_; intro v' w4 hown' hgrow; have HV := Lib.hid hown'; have HGW := Lib.hid (((Below.refl _ w).alloc (Nat.le_refl _) (.cells #[] 64)).grown hgrow (by simp) (fun k hk => (World.ownsRow.lt HO.out k hk).1)); clear hown' hgrow)
  go_ret
  refine ⟨⟨_, rfl, ?_⟩, HGW.out⟩
  have h9 := HV.out
  show World.ownsRow _ _ _ _ _ _ _
  rw [HN.out]
  simpa [flat_tcl] using h9
theorem isIndex_any (i : Int) (A : Option Addr) (n c : Nat) (w : World) (hN : n ≤ 16777216) :
    Calls Try.prog 46 #[.int .i64 i, .slice A n c] w fun e w' => e = .returned (.bool (decide (0 ≤ i ∧ i < n))) ∧ w = w' := by
  by_cases h : 0 ≤ i
  · go_enter Try.func46, Try.ntmps46
    go_wp2
    go_ret
    exact ⟨ret_bool (by simp [h]), rfl⟩
  · go_enter Try.func46, Try.ntmps46
    go_wp2
    go_ret
    exact ⟨ret_bool (by simp; omega), rfl⟩
/-- The reads of a list's row. -/
theorem LstG.readsT {T : TypeId} {w : World} {B g n cap : Nat} {xs : List Tm} (h : LstG tcl 3 T w B (.slice (some ⟨g, 0, none⟩) n cap) xs) : Reads w w.heap.size (some ⟨g, 0, none⟩) (tcells xs) := by
  obtain ⟨A, c, e, hr⟩ := LstG.slice h
  injection e with e1 e2 e3
  subst e1
  exact hr
/-- A row that begins with terms, as a list of the call's own. -/
theorem LstG.of_rowT {T : TypeId} {w : World} {B g n cap : Nat} {xs : List Tm} {rest : List Value} (hB : B ≤ g) (h : Row w g T (tcells xs ++ rest)) (hn : xs.length = n) (hc : cap ≤ maxLen) (h1 : n ≤ cap) (hl : n * 3 + rest.length = cap * 3) : LstG tcl 3 T w B (.slice (some ⟨g, 0, none⟩) n cap) xs := by
  subst hn
  exact LstG.of_row tcl_len hB h hc h1 hl
/-- What the stores do. -/
def stT (k : Nat) (m : Tm) (vs : List Value) : List Value := ((vs.set (k * 3) (vi m.1)).set (k * 3 + 1) (vi m.2.1)).set (k * 3 + 2) (.bool m.2.2)
theorem stT_set (L : List Tm) (rest : List Value) (k : Nat) (m : Tm) (h : k < L.length) : stT k m (tcells L ++ rest) = tcells (L.set k m) ++ rest := tcells_set L rest k m h
theorem ls_st1 {w wz w' : World} {k1 k2 g : Nat} {T : TypeId} {f1 f2 : List Value → List Value} {v0 v1 v2 : List Value} (hz : CTwo g T v0 v1 v2 w wz) (e01 : f1 v0 = v1) (e11 : f1 v1 = v1) (e21 : f1 v2 = v2) (hg : Gx g wz w') (hf : ∀ vs, Row wz g T vs → Row w' g T (f1 vs)) :
    CTwo g T v0 v1 v2 w w' ∧ rTwo k1 k2 g T f1 f2 k1 wz w' ∧ (Row w' g T v1 ∨ Row w' g T v2) := by
  obtain ⟨vs, hr, he⟩ := hz.at'
  have h := hf vs hr
  rw [rTwo_1]
  rcases he with rfl | rfl | rfl
  · rw [e01] at h; exact ⟨⟨hz.gx.trans hg, _, h, .inr (.inl rfl)⟩, ⟨hg, hf⟩, .inl h⟩
  · rw [e11] at h; exact ⟨⟨hz.gx.trans hg, _, h, .inr (.inl rfl)⟩, ⟨hg, hf⟩, .inl h⟩
  · rw [e21] at h; exact ⟨⟨hz.gx.trans hg, _, h, .inr (.inr rfl)⟩, ⟨hg, hf⟩, .inr h⟩
theorem ls_st2 {w wz w' : World} {k1 k2 g : Nat} {T : TypeId} {f1 f2 : List Value → List Value} {v0 v1 v2 : List Value} (hk : k2 ≠ k1) (hz : CTwo g T v0 v1 v2 w wz) (ha : Row wz g T v1 ∨ Row wz g T v2) (e12 : f2 v1 = v2) (e22 : f2 v2 = v2) (hg : Gx g wz w') (hf : ∀ vs, Row wz g T vs → Row w' g T (f2 vs)) :
    CTwo g T v0 v1 v2 w w' ∧ rTwo k1 k2 g T f1 f2 k2 wz w' ∧ Row w' g T v2 := by
  have h : Row w' g T v2 := by
    rcases ha with ha | ha
    · have := hf _ ha; rwa [e12] at this
    · have := hf _ ha; rwa [e22] at this
  rw [rTwo_2 g T f1 f2 hk]
  exact ⟨⟨hz.gx.trans hg, _, h, .inr (.inr rfl)⟩, ⟨hg, hf⟩, h⟩
theorem CTwo.has3 {g k : Nat} {T : TypeId} {v0 v1 v2 : List Value} {w wz : World} (hz : CTwo g T v0 v1 v2 w wz) (h0 : k + 2 < v0.length) (h1 : v1.length = v0.length) (h2 : v2.length = v0.length) : Has3 wz g k := by
  obtain ⟨vs, hr, he⟩ := hz.at'
  rcases he with rfl | rfl | rfl
  · exact hr.has3 h0
  · exact hr.has3 (by omega)
  · exact hr.has3 (by omega)
theorem set_self {cs : List Tm} {i : Nat} {x : Tm} (h : cs[i]? = some x) : cs.set i x = cs := by
  apply List.ext_getElem?
  intro k
  by_cases hk : i = k
  · subst hk
    obtain ⟨h1, -⟩ := List.getElem?_eq_some_iff.1 h
    rw [List.getElem?_set_self h1, h]
  · rw [List.getElem?_set_ne hk]
theorem sw_21 {cs : List Tm} {i j : Nat} {x y : Tm} (hi : cs[i]? = some x) (hj : cs[j]? = some y) : ((cs.set i y).set j x).set i y = (cs.set i y).set j x := by
  obtain ⟨h1, -⟩ := List.getElem?_eq_some_iff.1 hi
  refine set_self ?_
  by_cases h : i = j
  · subst h
    rw [hi] at hj
    injection hj with hj
    subst hj
    rw [List.getElem?_set_self (by simpa using h1)]
  · rw [List.getElem?_set_ne (fun e => h e.symm), List.getElem?_set_self h1]

section
attribute [local go_sem high] storeCells3
set_option maxRecDepth 100000 in
set_option maxHeartbeats 4000000 in
theorem sw_impl (A : Option Addr) (n c : Nat) (cs : List Tm) (a b : Int) (w : World) (hn : cs.length = n) (hN : n ≤ 1048576) (hA : Reads w w.heap.size A (tcells cs)) :
    Calls Try.prog 14 #[.slice A n c, .int .i64 a, .int .i64 b] w (LsT (swR cs a b) w) := by
  have HI := Lib.hid (fun W h => isChain_impl A n c cs W hn (by omega) h)
  have HM := Lib.hid hA
  rcases chnB_tf cs with hb | hb
  rotate_left
  · rw [hb] at HI
    have HR := Lib.hid (swR_inv (a := a) (b := b) hb)
    clear hb hn hA
    go_enter Try.func14, Try.ntmps14
    go_wp2_with (go_at_call 23; (with_reducible refine (HI.out _ HM.out).mono ?_); rintro e w' ⟨rfl, k, os, rfl⟩)
    go_ret2
    exact LsT.none (Gr.below (by repeat (first | with_reducible exact Gr.refl _ | with_reducible refine Gr.alloc ?_ _ | with_reducible refine Gr.gr ?_ _ _ | with_reducible refine Gr.drew ?_ | with_reducible refine Gr.drewN ?_ _))) HR.out
  rw [hb] at HI
  have HA := Lib.hid (fun W => isIndex_any a A n c W (by omega))
  have HB := Lib.hid (fun W => isIndex_any b A n c W (by omega))
  by_cases hr : (0 ≤ a ∧ a < n) ∧ (0 ≤ b ∧ b < n)
  rotate_left
  · have HR := Lib.hid (swR_rng (a := a) (b := b) hb (by rw [hn]; exact hr))
    clear hb hn hA
    by_cases h1 : 0 ≤ a ∧ a < n
    · have h2 : ¬ (0 ≤ b ∧ b < n) := fun h => hr ⟨h1, h⟩
      rw [decide_eq_true h1] at HA
      rw [decide_eq_false h2] at HB
      clear h1 h2 hr
      go_enter Try.func14, Try.ntmps14
      go_wp2_with (first | (go_at_call 23; (with_reducible refine (HI.out _ HM.out).mono ?_); rintro e w' ⟨rfl, k, os, rfl⟩) | (go_at_call 46; (with_reducible refine (HA.out _).mono ?_); rintro e w' ⟨rfl, rfl⟩) | (go_at_call 46; (with_reducible refine (HB.out _).mono ?_); rintro e w' ⟨rfl, rfl⟩))
      go_ret2
      exact LsT.none (Gr.below (by repeat (first | with_reducible exact Gr.refl _ | with_reducible refine Gr.alloc ?_ _ | with_reducible refine Gr.gr ?_ _ _ | with_reducible refine Gr.drew ?_ | with_reducible refine Gr.drewN ?_ _))) HR.out
    · rw [decide_eq_false h1] at HA
      clear h1 hr
      go_enter Try.func14, Try.ntmps14
      go_wp2_with (first | (go_at_call 23; (with_reducible refine (HI.out _ HM.out).mono ?_); rintro e w' ⟨rfl, k, os, rfl⟩) | (go_at_call 46; (with_reducible refine (HA.out _).mono ?_); rintro e w' ⟨rfl, rfl⟩))
      go_ret2
      exact LsT.none (Gr.below (by repeat (first | with_reducible exact Gr.refl _ | with_reducible refine Gr.alloc ?_ _ | with_reducible refine Gr.gr ?_ _ _ | with_reducible refine Gr.drew ?_ | with_reducible refine Gr.drewN ?_ _))) HR.out
  rw [decide_eq_true hr.1] at HA
  rw [decide_eq_true hr.2] at HB
  obtain ⟨⟨a0, a1⟩, b0, b1⟩ := hr
  obtain ⟨i, rfl⟩ := Int.eq_ofNat_of_zero_le a0
  obtain ⟨j, rfl⟩ := Int.eq_ofNat_of_zero_le b0
  have hi : i < n := by omega
  have hj : j < n := by omega
  obtain ⟨x, hx⟩ := some_at (l := cs) (k := i) (by omega)
  obtain ⟨y, hy⟩ := some_at (l := cs) (k := j) (by omega)
  obtain ⟨g0, o0, rfl, hg0, x0, x1, x2⟩ := hA.att hx
  have HCL := Lib.hid (fun W h => cloneT_any ⟨g0, o0, none⟩ n c cs W hn hN h)
  have HX := Lib.hid (fun W (h : Below w.heap.size w W) => (hA.below h).att hx)
  have HY := Lib.hid (fun W (h : Below w.heap.size w W) => (hA.below h).att hy)
  have E01 := Lib.hid (fun rest => stT_set cs rest i y (by omega))
  have E11 := Lib.hid (fun rest => (stT_set (cs.set i y) rest i y (by simp; omega)).trans (by rw [List.set_set]))
  have E12 := Lib.hid (fun rest => stT_set (cs.set i y) rest j x (by simp; omega))
  have E22 := Lib.hid (fun rest => (stT_set ((cs.set i y).set j x) rest j x (by simp; omega)).trans (by rw [List.set_set]))
  have E21 := Lib.hid (fun rest => (stT_set ((cs.set i y).set j x) rest i y (by simp; omega)).trans (by rw [sw_21 hx hy]))
  have HSW := Lib.hid (swL_at hx hy)
  have HL1 := Lib.hid (show (cs.set i y).length = n by simp [hn])
  have HL2 := Lib.hid (show ((cs.set i y).set j x).length = n by simp [hn])
  have HL := Lib.hid hn
  have HBC := Lib.hid hb
  obtain ⟨xd, xt, xb⟩ := x
  obtain ⟨yd, yt, yb⟩ := y
  simp only at x0 x1 x2 HX HY
  clear hb hn hA hx hy x0 x1 x2 a0 b0 a1 b1
  go_enter Try.func14, Try.ntmps14
  go_wp2_with (first | (go_at_call 23; (with_reducible refine (HI.out _ HM.out).mono ?_); rintro e w0 ⟨rfl, hw0⟩) | (go_at_call 46; (with_reducible refine (HA.out _).mono ?_); rintro e w' ⟨rfl, rfl⟩) | (go_at_call 46; (with_reducible refine (HB.out _).mono ?_); rintro e w' ⟨rfl, rfl⟩))
  refine (HCL.out w0 (HM.out.gr hw0)).mono ?_
  rintro e w1 ⟨⟨v, rfl, hv⟩, hb1⟩
  have hW1 := hw0.below.trans (hb1.mono hw0.below.size)
  have hs0 := hw0.below.size
  rcases LstG.row hv with ⟨-, h0⟩ | ⟨g, cap, rest, rfl, hg, hrow, h1, h2, h3⟩
  · exfalso; have := HL.out; rw [h0] at this; simp at this; omega
  rw [HL.out] at h1 h3
  rw [HL.out]
  have hne : g0 ≠ g := by omega
  have hgl := hrow.lt
  have hLR : (tcells cs ++ rest).length = n * 3 + rest.length := by rw [List.length_append, tcells_len, HL.out]
  have hLR1 : (tcells (cs.set i (yd, yt, yb)) ++ rest).length = (tcells cs ++ rest).length := by rw [List.length_append, tcells_len, HL1.out, hLR]
  have hLR2 : (tcells ((cs.set i (yd, yt, yb)).set j (xd, xt, xb)) ++ rest).length = (tcells cs ++ rest).length := by rw [List.length_append, tcells_len, HL2.out, hLR]
  have HH := Lib.hid (fun wz k (hz : CTwo g 64 (tcells cs ++ rest) (tcells (cs.set i (yd, yt, yb)) ++ rest) (tcells ((cs.set i (yd, yt, yb)).set j (xd, xt, xb)) ++ rest) w1 wz) (hk : k < n) => hz.has3 (k := k * 3) (by rw [hLR]; omega) hLR1 hLR2)
  have HW1 := Lib.hid hW1
  have HRW := Lib.hid hrow
  clear hv hrow hb1 hLR hLR1 hLR2
  go_wp2_with fail
  refine region_two 13 15 g 64 (stT i (yd, yt, yb)) (stT j (xd, xt, xb)) (tcells cs ++ rest) (tcells (cs.set i (yd, yt, yb)) ++ rest) (tcells ((cs.set i (yd, yt, yb)).set j (xd, xt, xb)) ++ rest) [] (by decide) (E12.out rest) (E22.out rest) (E21.out rest) HRW.out (by kernel_rfl) (by kernel_rfl) ?_
  (refine lz_one rfl (fun K hK => ?_); refine ⟨rfl, ?_⟩; apply Exists.intro; refine ⟨fun wz hz => ?_, ?_⟩; (focus (skip; go_simp; (first | done | exact ⟨rfl, rfl⟩ | trivial))); (go_simp; refine hK _ _ ?_; clear hK K))
  (refine lz_one rfl (fun K hK => ?_); refine ⟨rfl, ?_⟩; apply Exists.intro; refine ⟨fun wz hz => ?_, ?_⟩; (focus (skip; go_simp; (first | done | exact ⟨rfl, rfl⟩ | trivial))); (go_simp; refine hK _ _ ?_; clear hK K))
  (refine lz_one rfl (fun K hK => ?_); refine ⟨rfl, ?_⟩; apply Exists.intro; refine ⟨fun wz hz => ?_, ?_⟩; (focus (skip; go_simp; (first | done | exact ⟨rfl, rfl⟩ | trivial))); (go_simp; refine hK _ _ ?_; clear hK K))
  (refine lz_one rfl (fun K hK => ?_); refine ⟨rfl, ?_⟩; apply Exists.intro; refine ⟨fun wz hz => ?_, ?_⟩; (focus (skip; go_simp; (first | done | exact ⟨rfl, rfl⟩ | trivial))); (go_simp; refine hK _ _ ?_; clear hK K))
  (refine lz_one rfl (fun K hK => ?_); refine ⟨rfl, ?_⟩; apply Exists.intro; refine ⟨fun wz hz => ?_, ?_⟩; (focus (skip; go_simp; (first | done | exact ⟨rfl, rfl⟩ | trivial))); (go_simp; refine hK _ _ ?_; clear hK K))
  (refine lz_one rfl (fun K hK => ?_); refine ⟨rfl, ?_⟩; apply Exists.intro; refine ⟨fun wz hz => ?_, ?_⟩; (focus (skip; go_simp; (first | done | exact ⟨rfl, rfl⟩ | trivial))); (go_simp; refine hK _ _ ?_; clear hK K))
  (refine lz_one rfl (fun K hK => ?_); refine ⟨rfl, ?_⟩; apply Exists.intro; refine ⟨fun wz hz => ?_, ?_⟩; (focus (skip; go_simp; (first | done | exact ⟨rfl, rfl⟩ | trivial))); (go_simp; refine hK _ _ ?_; clear hK K))
  (refine lz_one rfl (fun K hK => ?_); refine ⟨rfl, ?_⟩; apply Exists.intro; refine ⟨fun wz hz => ?_, ?_⟩; (focus (obtain ⟨g', o', e', -, y0, y1, y2⟩ := HY.out w1 HW1.out; injection e' with e'; injection e' with ea eb; subst ea eb; replace y0 := hz.gx.cell y0 hne; replace y1 := hz.gx.cell y1 hne; replace y2 := hz.gx.cell y2 hne; go_simp; (first | done | exact ⟨rfl, rfl⟩ | trivial))); (go_simp; refine hK _ _ ?_; clear hK K))
  (refine lz_one rfl (fun K hK => ?_); refine ⟨rfl, ?_⟩; apply Exists.intro; refine ⟨fun wz hz => ?_, ?_⟩; (focus (skip; go_simp; (first | done | exact ⟨rfl, rfl⟩ | trivial))); (go_simp; refine hK _ _ ?_; clear hK K))
  (refine lz_one rfl (fun K hK => ?_); refine ⟨rfl, ?_⟩; apply Exists.intro; refine ⟨fun wz hz => ?_, ?_⟩; (focus (skip; go_simp; (first | done | exact ⟨rfl, rfl⟩ | trivial))); (go_simp; refine hK _ _ ?_; clear hK K))
  (refine lz_one rfl (fun K hK => ?_); refine ⟨rfl, ?_⟩; apply Exists.intro; refine ⟨fun wz hz => ?_, ?_⟩; (focus (skip; go_simp; (first | done | exact ⟨rfl, rfl⟩ | trivial))); (go_simp; refine hK _ _ ?_; clear hK K))
  (refine lz_one rfl (fun K hK => ?_); refine ⟨rfl, ?_⟩; apply Exists.intro; refine ⟨fun wz hz => ?_, ?_⟩; (focus (obtain ⟨g', o', e', -, y0, y1, y2⟩ := HX.out w1 HW1.out; injection e' with e'; injection e' with ea eb; subst ea eb; replace y0 := hz.gx.cell y0 hne; replace y1 := hz.gx.cell y1 hne; replace y2 := hz.gx.cell y2 hne; go_simp; (first | done | exact ⟨rfl, rfl⟩ | trivial))); (go_simp; refine hK _ _ ?_; clear hK K))
  (refine lz_one rfl (fun K hK => ?_); refine ⟨rfl, ?_⟩; apply Exists.intro; refine ⟨fun wz hz => ?_, ?_⟩; (focus (skip; go_simp; (first | done | exact ⟨rfl, rfl⟩ | trivial))); (go_simp; refine hK _ _ ?_; clear hK K))
  (refine lz_many _ rfl (fun K hK => ?_); refine ⟨rfl, fun wz hz ha => ?_, fun vz wz hz hf => ?_⟩; (focus (have hst := run_st3 (P := Try.prog) (vi yd) (vi yt) (.bool yb) (HH.out wz i hz hi) rfl rfl rfl; go_simp; exact ls_st1 hz (E01.out rest) (E11.out rest) (E21.out rest) ((Gx.of (Gr.refl _)).put3 _ _ _ _) (fun vs h => h.put3 _ _ _))); (obtain - := hf; clear hz wz; go_simp; refine hK _ _ ?_; clear hK K))
  (refine lz_one rfl (fun K hK => ?_); refine ⟨rfl, ?_⟩; apply Exists.intro; refine ⟨fun wz hz => ?_, ?_⟩; (focus (skip; go_simp; (first | done | exact ⟨rfl, rfl⟩ | trivial))); (go_simp; refine hK _ _ ?_; clear hK K))
  (refine lz_many _ rfl (fun K hK => ?_); refine ⟨rfl, fun wz hz ha => ?_, fun vz wz hz hf => ?_⟩; (focus (have ha2 := ha ⟨13, .chain⟩ (by simp) rfl; have hst := run_st3 (P := Try.prog) (vi xd) (vi xt) (.bool xb) (HH.out wz j hz hj) rfl rfl rfl; go_simp; exact ls_st2 (by decide) hz ha2 (E12.out rest) (E22.out rest) ((Gx.of (Gr.refl _)).put3 _ _ _ _) (fun vs h => h.put3 _ _ _))); (obtain - := hf; clear hz wz; go_simp; refine hK _ _ ?_; clear hK K))
  refine lz_nil ?_
  intro w2 hz hgn
  have hrow2 : Row w2 g 64 (tcells ((cs.set i (yd, yt, yb)).set j (xd, xt, xb)) ++ rest) := hgn 15
  have hW2 := HW1.out.trans (hz.gx.below (B := w.heap.size) (by omega) HW1.out.size)
  clear hgn hz
  rw [← HSW.out] at hrow2
  have hl2 := HL2.out
  rw [← HSW.out] at hl2
  have HO := Lib.hid (fun W (h : Row W g 64 (tcells (swL cs i j) ++ rest)) => LstG.of_rowT (B := w.heap.size) (T := 64) (by omega) h hl2 h2 h1 h3)
  have HI2 := Lib.hid (isChain_impl (some ⟨g, 0, none⟩) n cap (swL cs i j) w2 hl2 (by omega) (HO.out w2 hrow2).readsT)
  rcases chnB_tf (swL cs i j) with hb2 | hb2
  · rw [hb2] at HI2
    have HR := Lib.hid (swR_ok HBC.out (by rw [HL.out]; exact hi) (by rw [HL.out]; exact hj) hb2)
    clear hb2
    go_wp2_with (go_at_call 23; (with_reducible refine (HI2.out).mono ?_); rintro e w3 ⟨rfl, hg3⟩)
    go_ret2
    unfold LsT
    rw [HR.out]
    exact ⟨⟨_, rfl, HO.out w3 (hrow2.gr hg3)⟩, hW2.trans (hg3.below.mono hW2.size)⟩
  · rw [hb2] at HI2
    have HR := Lib.hid (swR_st HBC.out (by rw [HL.out]; exact hi) (by rw [HL.out]; exact hj) hb2)
    clear hb2
    go_wp2_with (go_at_call 23; (with_reducible refine (HI2.out).mono ?_); rintro e w3 ⟨rfl, hg3⟩)
    go_ret2
    exact LsT.none (hW2.trans (hg3.below.mono hW2.size)) HR.out
theorem own_rowT {W : World} {B : Nat} {T : TypeId} {v : Value} {n : Nat} {cs : List Tm} (hn : cs.length = n) (h : W.ownsRow B T 3 v (0 + n) ([] ++ tcells cs)) : LstG tcl 3 T W B v cs := by
  subst hn
  simpa [LstG, flat_tcl] using h
/-- The row of a list that is not empty. -/
theorem LstG.rowT {T : TypeId} {w : World} {B : Nat} {v : Value} {xs : List Tm} (h : LstG tcl 3 T w B v xs) (h0 : 0 < xs.length) :
    ∃ (g cap : Nat) (rest : List Value), v = .slice (some ⟨g, 0, none⟩) xs.length cap ∧ B ≤ g ∧ Row w g T (tcells xs ++ rest) ∧ xs.length ≤ cap ∧ cap ≤ maxLen ∧ xs.length * 3 + rest.length = cap * 3 := by
  rcases LstG.row h with ⟨-, e⟩ | r
  · rw [e] at h0; simp at h0
  · exact r
set_option maxRecDepth 100000 in
set_option maxHeartbeats 4000000 in
theorem sw_spec (A : Option Addr) (n c : Nat) (cs : List Tm) (a b : Int) (w : World) (hn : cs.length = n) (hN : n ≤ 1048576) (hA : Reads w w.heap.size A (tcells cs)) :
    Calls Try.prog 15 #[.slice A n c, .int .i64 a, .int .i64 b] w (LsT (swR cs a b) w) := by
  have HI := Lib.hid (fun W h => isChain_spec A n c cs W hn (by omega) h)
  have HM := Lib.hid hA
  rcases chnB_tf cs with hb | hb
  rotate_left
  · rw [hb] at HI
    have HR := Lib.hid (swR_inv (a := a) (b := b) hb)
    clear hb hn hA
    go_enter Try.func15, Try.ntmps15
    go_wp2_with (go_at_call 36; (with_reducible refine (HI.out _ HM.out).mono ?_); rintro e w' ⟨rfl, k, os, rfl⟩)
    go_ret2
    exact LsT.none (Gr.below (by repeat (first | with_reducible exact Gr.refl _ | with_reducible refine Gr.alloc ?_ _ | with_reducible refine Gr.gr ?_ _ _ | with_reducible refine Gr.drew ?_ | with_reducible refine Gr.drewN ?_ _))) HR.out
  rw [hb] at HI
  have HA := Lib.hid (fun W => in_any a 0 ((n : Int) - 1) W)
  have HB := Lib.hid (fun W => in_any b 0 ((n : Int) - 1) W)
  by_cases hr : (0 ≤ a ∧ a < n) ∧ (0 ≤ b ∧ b < n)
  rotate_left
  · have HR := Lib.hid (swR_rng (a := a) (b := b) hb (by rw [hn]; exact hr))
    clear hb hn hA
    by_cases h1 : 0 ≤ a ∧ a < n
    · have h2 : ¬ (0 ≤ b ∧ b < n) := fun h => hr ⟨h1, h⟩
      rw [decide_eq_true (show 0 ≤ a ∧ a ≤ (n : Int) - 1 by omega)] at HA
      rw [decide_eq_false (show ¬ (0 ≤ b ∧ b ≤ (n : Int) - 1) by omega)] at HB
      clear h1 h2 hr
      go_enter Try.func15, Try.ntmps15
      go_wp2_with (first | (go_at_call 36; (with_reducible refine (HI.out _ HM.out).mono ?_); rintro e w' ⟨rfl, k, os, rfl⟩) | (go_at_call 48; (with_reducible refine (HA.out _).mono ?_); rintro e w' ⟨rfl, rfl⟩) | (go_at_call 48; (with_reducible refine (HB.out _).mono ?_); rintro e w' ⟨rfl, rfl⟩))
      go_ret2
      exact LsT.none (Gr.below (by repeat (first | with_reducible exact Gr.refl _ | with_reducible refine Gr.alloc ?_ _ | with_reducible refine Gr.gr ?_ _ _ | with_reducible refine Gr.drew ?_ | with_reducible refine Gr.drewN ?_ _))) HR.out
    · rw [decide_eq_false (show ¬ (0 ≤ a ∧ a ≤ (n : Int) - 1) by omega)] at HA
      clear h1 hr
      go_enter Try.func15, Try.ntmps15
      go_wp2_with (first | (go_at_call 36; (with_reducible refine (HI.out _ HM.out).mono ?_); rintro e w' ⟨rfl, k, os, rfl⟩) | (go_at_call 48; (with_reducible refine (HA.out _).mono ?_); rintro e w' ⟨rfl, rfl⟩))
      go_ret2
      exact LsT.none (Gr.below (by repeat (first | with_reducible exact Gr.refl _ | with_reducible refine Gr.alloc ?_ _ | with_reducible refine Gr.gr ?_ _ _ | with_reducible refine Gr.drew ?_ | with_reducible refine Gr.drewN ?_ _))) HR.out
  rw [decide_eq_true (show 0 ≤ a ∧ a ≤ (n : Int) - 1 by omega)] at HA
  rw [decide_eq_true (show 0 ≤ b ∧ b ≤ (n : Int) - 1 by omega)] at HB
  obtain ⟨⟨a0, a1⟩, b0, b1⟩ := hr
  obtain ⟨i, rfl⟩ := Int.eq_ofNat_of_zero_le a0
  obtain ⟨j, rfl⟩ := Int.eq_ofNat_of_zero_le b0
  have hi : i < n := by omega
  have hj : j < n := by omega
  obtain ⟨x, hx⟩ := some_at (l := cs) (k := i) (by omega)
  obtain ⟨y, hy⟩ := some_at (l := cs) (k := j) (by omega)
  obtain ⟨g0, o0, rfl, hg0, x0, x1, x2⟩ := hA.att hx
  have HX := Lib.hid (fun W (h : Below w.heap.size w W) => (hA.below h).att hx)
  have HY := Lib.hid (fun W (h : Below w.heap.size w W) => (hA.below h).att hy)
  have E01 := Lib.hid (fun rest => stT_set cs rest i y (by omega))
  have E12 := Lib.hid (fun rest => stT_set (cs.set i y) rest j x (by simp; omega))
  have HSW := Lib.hid (swL_at hx hy)
  have HL1 := Lib.hid (show (cs.set i y).length = n by simp [hn])
  have HL2 := Lib.hid (show ((cs.set i y).set j x).length = n by simp [hn])
  have HL := Lib.hid hn
  have HBC := Lib.hid hb
  obtain ⟨xd, xt, xb⟩ := x
  obtain ⟨yd, yt, yb⟩ := y
  simp only at x0 x1 x2 HX HY
  have HML := Lib.hid (show (tcells cs).length = n * 3 by rw [tcells_len, hn])
  have HON := Lib.hid (tone cs)
  obtain ⟨i0, hinf, hz0, hz1, hz2⟩ := info_parts info_term
  clear hb hn hA hx hy x0 x1 x2 a0 b0 a1 b1
  go_enter Try.func15, Try.ntmps15
  go_wp2_with (first | (go_at_call 36; (with_reducible refine (HI.out _ HM.out).mono ?_); rintro e w0 ⟨rfl, hw0⟩; have hs0 := hw0.below.size; have HO : Hid (LstG tcl 3 64 (w0.alloc (.cells #[] 64)) w0.heap.size (.slice (some ⟨w0.heap.size, 0, none⟩) 0 0) []) := Lib.hid (LstG.new _ w0 w0.heap.size (Nat.le_refl _)); have HNA := Lib.hid (fun (h : 0 < n) => show ∃ a, some (⟨g0, o0, none⟩ : Addr) = some a ∧ ∀ j u, (tcells cs)[j]? = some u → (w0.alloc (.cells #[] 64)).cell? (a.add j) = some u from ⟨_, rfl, news_of ((HM.out.gr hw0).gr (show Gr w0 (w0.alloc (.cells #[] 64)) from (by repeat (first | with_reducible exact Gr.refl _ | with_reducible refine Gr.alloc ?_ _ | with_reducible refine Gr.gr ?_ _ _ | with_reducible refine Gr.drew ?_ | with_reducible refine Gr.drewN ?_ _))))⟩); have HG0 := Lib.hid hw0; clear hw0) | (go_at_call 48; (with_reducible refine (HA.out _).mono ?_); rintro e w' ⟨rfl, rfl⟩) | (go_at_call 48; (with_reducible refine (HB.out _).mono ?_); rintro e w' ⟨rfl, rfl⟩) | (at_builtin; refine wpList_append_ownA _ rfl _ _ 24 rfl w0.heap.size 64 i0 (.agg #[vi 0, vi 0, .bool false]) 3 24 Try.underlying24 hinf hz0 hz1 hz2 rfl (by decide) _ _ _ rfl HO.out (some ⟨g0, o0, none⟩) n c (tcells cs) rfl (fun h => by cases h) HML.out HNA.out HON.out (by simp [maxLen]; omega) (by simp; omega) (by simp) ?_; intro v' w4 hown' hgrow; have hv := own_rowT HL.out hown'; have hb4 := ((Below.refl w0.heap.size w0).alloc (Nat.le_refl _) (.cells #[] 64)).grown hgrow (by simp) (fun k hk => (World.ownsRow.lt HO.out k hk).1); obtain ⟨g, cap, rest, rfl, hg, hrow, h1, h2, h3⟩ := LstG.rowT hv (by rw [HL.out]; omega); rw [HL.out] at h1 h3 ⊢; have hW4 := HG0.out.below.trans (hb4.mono hs0); have hne : g0 ≠ g := (by omega); obtain ⟨g', o', e', -, y0, y1, y2⟩ := HY.out w4 hW4; injection e' with e'; injection e' with ea eb; subst ea eb; obtain ⟨g', o', e', -, x0, x1, x2⟩ := HX.out w4 hW4; injection e' with e'; injection e' with ea eb; subst ea eb; have hst1 := run_st3 (P := Try.prog) (vi yd) (vi yt) (.bool yb) (hrow.has3 (o := i * 3) (by rw [List.length_append, tcells_len, HL.out]; omega)) rfl rfl rfl; have hrow1 : Row (put3 w4 g (i * 3) (vi yd) (vi yt) (.bool yb)) g 64 (tcells (cs.set i (yd, yt, yb)) ++ rest) := (by rw [← E01.out rest]; exact hrow.put3 _ _ _); replace x0 := put3_far (o := i * 3) (x := vi yd) (y := vi yt) (z := .bool yb) x0 hne; replace x1 := put3_far (o := i * 3) (x := vi yd) (y := vi yt) (z := .bool yb) x1 hne; replace x2 := put3_far (o := i * 3) (x := vi yd) (y := vi yt) (z := .bool yb) x2 hne; have hst2 := run_st3 (P := Try.prog) (vi xd) (vi xt) (.bool xb) (hrow1.has3 (o := j * 3) (by rw [List.length_append, tcells_len, HL1.out]; omega)) rfl rfl rfl; have HR2 := Lib.hid (show Row (put3 (put3 w4 g (i * 3) (vi yd) (vi yt) (.bool yb)) g (j * 3) (vi xd) (vi xt) (.bool xb)) g 64 (tcells ((cs.set i (yd, yt, yb)).set j (xd, xt, xb)) ++ rest) by rw [← E12.out rest]; exact hrow1.put3 _ _ _); have HW2 := Lib.hid (Below.put3 (Below.put3 hW4 (g := g) (o := i * 3) (by omega) (vi yd) (vi yt) (.bool yb)) (g := g) (o := j * 3) (by omega) (vi xd) (vi xt) (.bool xb)); clear hown' hgrow hv hb4 hrow hrow1 hW4))
  generalize put3 (put3 w4 g (i * 3) (vi yd) (vi yt) (.bool yb)) g (j * 3) (vi xd) (vi xt) (.bool xb) = w2 at *
  clear hst1 hst2 x0 x1 x2 y0 y1 y2
  have hW2 := HW2.out
  have hrow2 := HR2.out
  clear HW2 HR2
  rw [← HSW.out] at hrow2
  have hl2 := HL2.out
  rw [← HSW.out] at hl2
  have HO := Lib.hid (fun W (h : Row W g 64 (tcells (swL cs i j) ++ rest)) => LstG.of_rowT (B := w.heap.size) (T := 64) (by omega) h hl2 h2 h1 h3)
  have HI2 := Lib.hid (isChain_spec (some ⟨g, 0, none⟩) n cap (swL cs i j) w2 hl2 (by omega) (HO.out w2 hrow2).readsT)
  rcases chnB_tf (swL cs i j) with hb2 | hb2
  · rw [hb2] at HI2
    have HR := Lib.hid (swR_ok HBC.out (by rw [HL.out]; exact hi) (by rw [HL.out]; exact hj) hb2)
    clear hb2
    go_wp2_with (go_at_call 36; (with_reducible refine (HI2.out).mono ?_); rintro e w3 ⟨rfl, hg3⟩)
    go_ret2
    unfold LsT
    rw [HR.out]
    exact ⟨⟨_, rfl, HO.out w3 (hrow2.gr hg3)⟩, hW2.trans (hg3.below.mono hW2.size)⟩
  · rw [hb2] at HI2
    have HR := Lib.hid (swR_st HBC.out (by rw [HL.out]; exact hi) (by rw [HL.out]; exact hj) hb2)
    clear hb2
    go_wp2_with (go_at_call 36; (with_reducible refine (HI2.out).mono ?_); rintro e w3 ⟨rfl, hg3⟩)
    go_ret2
    exact LsT.none (hW2.trans (hg3.below.mono hW2.size)) HR.out
end
end Go.Proofs.Ytphebmbapllinaa
