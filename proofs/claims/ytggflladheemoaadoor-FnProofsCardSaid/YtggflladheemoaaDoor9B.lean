/- Plain mathematics, merged. -/
import Derived.Test.YtggflladheemoaaDoor9A
import Derived.Test.YtggflladheemoaaDoorC09i
import Derived.Deep.RegionLaw
/- Contracts of chapter 9: the steps of a proof, in order. -/
namespace Go.Proofs.YtggflladheemoaaDoor
open Go.RowKit Go.Shelf
set_option linter.unusedVariables false
set_option linter.unusedSimpArgs false

/-- A tick as a step of the proof. -/
def stepP (zs : List P3) (n i : Nat) : P4 := ((i : Int), rtN zs i, woN zs i, (frN (rtN zs) (lfN zs) n i : Int))
def bfP (x y : P4) : Bool := decide (x.2.1 < y.2.1)
def stL (zs : List P3) (n k : Nat) : List P4 := (orL (rtN zs) k).map (stepP zs n)
theorem stL_len (zs : List P3) (n k : Nat) : (stL zs n k).length = k := by unfold stL; rw [List.length_map, orL_len]
theorem stL_ins (zs : List P3) (n k : Nat) : insB bfP (stepP zs n k) (stL zs n k) = stL zs n (k + 1) := by
  unfold stL
  rw [orL_succ]
  exact insB_map (stepP zs n) (bfR (rtN zs)) bfP k (orL (rtN zs) k) (fun y _ => rfl)
theorem stL_at (zs : List P3) (n p : Nat) (h : p < n) : (stL zs n n)[p]? = some (stepP zs n (orA (rtN zs) n p)) := by
  unfold stL
  rw [List.getElem?_map, orA_at (rtN zs) h]
  rfl
theorem endsBefore_any (x y : P4) (w : World) :
    Calls Tryd.prog 163 (#[.agg #[vi x.1, vi x.2.1, vi x.2.2.1, vi x.2.2.2], .agg #[vi y.1, vi y.2.1, vi y.2.2.1, vi y.2.2.2]] ++ #[]) w fun e w' => e = .returned (.bool (bfP x y)) ∧ Gr w w' := by
  rw [show (#[Value.agg #[vi x.1, vi x.2.1, vi x.2.2.1, vi x.2.2.2], .agg #[vi y.1, vi y.2.1, vi y.2.2.1, vi y.2.2.2]] ++ #[] : Array Value) = #[.agg #[vi x.1, vi x.2.1, vi x.2.2.1, vi x.2.2.2], .agg #[vi y.1, vi y.2.1, vi y.2.2.1, vi y.2.2.2]] from rfl]
  have HB := Lib.hid (show bfP x y = decide (x.2.1 < y.2.1) from rfl)
  obtain ⟨a, b, c, d⟩ := x
  obtain ⟨a', b', c', d'⟩ := y
  simp only at HB
  go_enter Tryd.func163, Tryd.ntmps163
  go_wp2
  go_ret
  exact ⟨ret_bool HB.out.symm, (by repeat (first | with_reducible exact Gr.refl _ | with_reducible refine Gr.alloc ?_ _ | with_reducible refine Gr.gr ?_ _ _ | with_reducible refine Gr.drew ?_ | with_reducible refine Gr.drewN ?_ _))⟩
theorem enters_ends (args : Array Value) (w : World) : (callFunc 163 args).run Tryd.prog w = .ok (.enter 163 args) w := by kernel_rfl

set_option maxRecDepth 100000 in
set_option maxHeartbeats 4000000 in
theorem ps_impl (A : Option Addr) (n c : Nat) (zs : List P3) (w : World) (ht : Tab w) (hn : zs.length = n) (hN : n ≤ 40) (hA : Reads w w.heap.size A (cells3 zs)) (ha : allL zs = true) :
    Calls Tryd.prog 114 #[.slice A n c] w fun e w' => (∃ v, e = .returned v ∧ Lst4 w' w.heap.size v (stL zs n n)) ∧ Below w.heap.size w w' := by
  have HA := Lib.hid (fun W (h : Below w.heap.size w W) => hA.below h)
  have HT := Lib.hid (fun W (h : Below w.heap.size w W) => ht.later h)
  have HL := Lib.hid hn
  have HZ := Lib.hid (fun (k : Nat) (h : k < n) => tkN_is ha (k := k) (by rw [hn]; exact h))
  have HW := Lib.hid (fun i W (h : Below w.heap.size w W) (hi : i < n) => worth_impl A n c zs i W hn (by omega) (hA.below h) hi ha)
  have HF := Lib.hid (fun x W (h : Below w.heap.size w W) => frK_impl A n c zs x W (ht.later h) hn (by omega) (hA.below h) ha)
  have HI := Lib.hid (fun k => stL_ins zs n k)
  have HLN := Lib.hid (fun k => stL_len zs n k)
  have HO1 : Hid (Lst4 (w.alloc (.cells #[] 133)) w.heap.size (.slice (some ⟨w.heap.size, 0, none⟩) 0 0) []) := Lib.hid (LstG.new _ w w.heap.size (Nat.le_refl _))
  have HB1 : Hid (Below w.heap.size w (w.alloc (.cells #[] 133))) := Lib.hid ((Below.refl _ _).alloc (Nat.le_refl _) _)
  clear hA ht hn ha
  go_enter Tryd.func114, Tryd.ntmps114
  go_wp2
  generalize w.alloc (.cells #[] 133) = w1 at *
  go_loopw [3, 12] (fun v i wr => ∃ k : Nat, k ≤ n ∧ i = .int .i64 k ∧ Lst4 wr w.heap.size v (stL zs n k) ∧ Below w.heap.size w wr) (fun _ i _ => n - (intOf i).toNat)
  case atStart => exact ⟨0, by omega, rfl, HO1.out, HB1.out⟩
  case round =>
    obtain ⟨k, hk, rfl, hO, hB⟩ := hrel
    have hsz := hB.size
    by_cases hlt : k < n
    · have hz := tkN_at (zs := zs) (k := k) (by rw [HL.out]; exact hlt)
      obtain ⟨g, o, rfl, hg, x0, x1, x2⟩ := (HA.out wr hB).at3 hz
      have HE := fun W (h : Tab W) => ends_impl (tkN zs k) W h (HZ.out k hlt)
      have HWK := Lib.hid (fun W h => HW.out k W h hlt)
      have HFK := Lib.hid (HF.out (lfT (tkN zs k)))
      have HINS := fun W (hg : Gr wr W) => insP_any 163 #[] bfP (stepP zs n k) u3 (stL zs n k) w.heap.size W (by rw [HLN.out]; omega) (by have := hg.below.size; omega) (LstG.below hO hg.below) enters_ends (fun W' _ y _ => endsBefore_any (stepP zs n k) y W')
      have HINE := Lib.hid (HI.out k)
      rw [HINE.out] at HINS
      have HST := Lib.hid (show stepP zs n k = ((k : Int), rtT (tkN zs k), woN zs k, (frK (rtN zs) (lfT (tkN zs k)) n : Int)) from rfl)
      rw [HST.out] at HINS
      simp only at HINS
      replace HINS := Lib.hid HINS
      clear hz
      generalize tkN zs k = z at *
      obtain ⟨za, zb, zc⟩ := z
      simp only [tkV] at HE
      replace HE := Lib.hid HE
      simp only at x0 x1 x2
      generalize lfT (za, zb, zc) = l at *
      generalize rtT (za, zb, zc) = r at *
      generalize woN zs k = wo at *
      generalize (frK (rtN zs) l n : Int) = fr at *
      have HB := Lib.hid hB
      have HO := Lib.hid hO
      clear hB hO
      go_wp2_with fail
      refine (HE.out _ (HT.out _ (HB.out.trans ((Gr.below (by repeat (first | with_reducible exact Gr.refl _ | with_reducible refine Gr.alloc ?_ _ | with_reducible refine Gr.gr ?_ _ _ | with_reducible refine Gr.drew ?_ | with_reducible refine Gr.drewN ?_ _))).mono hsz)))).mono ?_
      rintro e w2 ⟨rfl, hg2⟩
      have HG2 := Lib.hid (Gr.trans (show Gr wr _ from (by repeat (first | with_reducible exact Gr.refl _ | with_reducible refine Gr.alloc ?_ _ | with_reducible refine Gr.gr ?_ _ _ | with_reducible refine Gr.drew ?_ | with_reducible refine Gr.drewN ?_ _))) hg2)
      clear hg2
      go_wp2_with fail
      refine (HWK.out _ (HB.out.trans (HG2.out.below.mono hsz))).mono ?_
      rintro e w3 ⟨rfl, rfl⟩
      go_wp2_with fail
      refine (HFK.out _ (HB.out.trans (HG2.out.below.mono hsz))).mono ?_
      rintro e w4 ⟨rfl, hg4⟩
      have HG4 := Lib.hid (HG2.out.trans hg4)
      clear hg4
      go_wp2_with fail
      refine (HINS.out _ (HG4.out.trans (by repeat (first | with_reducible exact Gr.refl _ | with_reducible refine Gr.alloc ?_ _ | with_reducible refine Gr.gr ?_ _ _ | with_reducible refine Gr.drew ?_ | with_reducible refine Gr.drewN ?_ _)))).mono ?_
      rintro e w5 ⟨⟨v5, rfl, hv5, -⟩, hb5⟩
      have HV5 := Lib.hid hv5
      have HG5 := Lib.hid (HG4.out.trans (show Gr w4 (w4.alloc (.cells #[.int .i64 k, .int .i64 r, .int .i64 wo, .int .i64 fr] 133)) from (by repeat (first | with_reducible exact Gr.refl _ | with_reducible refine Gr.alloc ?_ _ | with_reducible refine Gr.gr ?_ _ _ | with_reducible refine Gr.drew ?_ | with_reducible refine Gr.drewN ?_ _))))
      have HB5 := Lib.hid (HB.out.trans ((HG5.out.below.mono hsz).trans (LstG.below_of (LstG.below HO.out HG5.out.below) (by have := HG5.out.below.size; omega) hb5)))
      clear hv5 hb5
      go_wp2
      go_roundw
      case rel => exact ⟨k + 1, by omega, by go_num, HV5.out, HB5.out⟩
      case measure => simp [intOf]; omega
    · obtain rfl : k = n := by omega
      go_wp2
      go_ret
      exact ⟨⟨_, rfl, hO⟩, hB⟩
end Go.Proofs.YtggflladheemoaaDoor

/- Contracts of chapter 9: the least proof, in the program. -/
namespace Go.Proofs.YtggflladheemoaaDoor
open Go.RowKit Go.Shelf Go.ChangeShapes Go.WideShapes Go.ChangeAt
set_option linter.unusedVariables false
set_option linter.unusedSimpArgs false

theorem if_max (a b : Int) : (if a < b then b else a) = max a b := by omega
set_option maxRecDepth 100000 in
/-- The greater bound of the number that follows. -/
theorem least_next (AS : Option Addr) (nS cS : Nat) (ss : List P4) (AV : Option Addr) (nV cV i f : Nat) (v : List Int) (p : P4) (w : World) (hsl : ss.length = nS) (hS : nS ≤ 100000) (hA : Reads w w.heap.size AS (ss.flatMap cl4)) (hvl : v.length = nV) (hV : Reads w w.heap.size AV (v.map vi))
    (hi : nV = i + 1) (hin : i < nS) (hp : ss[i]? = some p) (hf : p.2.2.2 = (f : Int)) (hfi : f ≤ i) (hw : 0 ≤ p.2.2.1 ∧ p.2.2.1 ≤ 1000) (hb : -2000000000000 ≤ v.getD f 0 ∧ v.getD f 0 ≤ 2000000000000) :
    Calls Tryd.prog 164 #[.slice AS nS cS, .slice AV nV cV] w fun e w' => e = .returned (.int .i64 (max (v.getD i 0) (p.2.2.1 + v.getD f 0))) ∧ Gr w w' := by
  obtain ⟨a, r, wo, fr⟩ := p
  simp only at hf hw
  subst hf hi
  obtain ⟨g, o, rfl, hg, x0, x1, x2, x3⟩ := LstG.at4 hA hp
  obtain ⟨gv, ov, rfl, hgv, y0⟩ := hV.at_ (cs_at (cs := v) (k := i) (by omega))
  obtain ⟨gv2, ov2, eg, -, y1⟩ := hV.at_ (cs_at (cs := v) (k := f) (by omega))
  injection eg with eg
  injection eg with eg1 eg2
  subst eg1 eg2
  simp only at x0 x1 x2 x3 ⊢
  have HM := Lib.hid (fun W => max_any (v.getD i 0) (wo + v.getD f 0) W)
  rw [if_max] at HM
  generalize v.getD i 0 = vi0 at *
  generalize v.getD f 0 = vf at *
  have hws : IntKind.i64.wrap (wo + vf) = wo + vf := IntWalk.i64_in _ (by omega)
  have hwi : IntKind.i64.wrap ((i : Int) + 1 - 1) = (i : Int) := by rw [show (i : Int) + 1 - 1 = i by omega]; exact IntWalk.i64_in _ (by omega)
  have hi1 : ((i + 1 : Nat) : Int) - 1 = (i : Int) := by omega
  have hi2 : (i : Int) < (nS : Int) := by omega
  have hi3 : (i : Int) < ((i + 1 : Nat) : Int) := by omega
  have hf2 : (f : Int) < ((i + 1 : Nat) : Int) := by omega
  have hf3 : (f : Int) < (i : Int) + 1 := by omega
  have hi4 : (i : Int) < (i : Int) + 1 := by omega
  clear hA hV hp hvl hsl
  go_enter Tryd.func164, Tryd.ntmps164
  go_wp2
  ((first | refine region_gr_on (by kernel_rfl) (by kernel_rfl) ?_ | refine region_gr (by kernel_rfl) (by kernel_rfl) ?_); (repeat (quiet_step (exact Calls.gr_same (HM.out _)))); refine wpQuiet_nil ?_; intro _ hw'; obtain ⟨⟨kq, oq⟩, hw''⟩ := hw'; subst hw'')
  go_wp2
  go_ret
  exact ⟨rfl, (by repeat (first | with_reducible exact Gr.refl _ | with_reducible refine Gr.alloc ?_ _ | with_reducible refine Gr.gr ?_ _ _ | with_reducible refine Gr.drew ?_ | with_reducible refine Gr.drewN ?_ _))⟩

set_option maxRecDepth 100000 in
set_option maxHeartbeats 4000000 in
theorem lp_impl (AS : Option Addr) (n cS : Nat) (zs : List P3) (w : World) (hn : zs.length = n) (hN : n ≤ 40) (ha : allL zs = true) (hA : Reads w w.heap.size AS ((stL zs n n).flatMap cl4)) :
    Calls Tryd.prog 115 #[.slice AS n cS] w fun e w' => (∃ v, e = .returned v ∧ Lst w' w.heap.size v (pvL (rtN zs) (lfN zs) (woN zs) n n)) ∧ Below w.heap.size w w' := by
  have HFR := Lib.hid (fun i (h : i < n) => show frN (rtN zs) (lfN zs) n (orA (rtN zs) n i) ≤ i from by have := fr_le ha i (by omega); rwa [hn] at this)
  have HBD := Lib.hid (fun i (h : i ≤ n) => pvA_bd (rtN zs) (lfN zs) (woN zs) (woN_bd ha) (fun i h => HFR.out i h) i h)
  have HNX := Lib.hid (fun i (h : i < n) => pvL_next (rtN zs) (lfN zs) (woN zs) n i (HFR.out i h))
  have HLN := Lib.hid (fun i => pvL_len (rtN zs) (lfN zs) (woN zs) n i)
  have HGD := Lib.hid (fun m i (h : i ≤ m) => pvL_getD (rtN zs) (lfN zs) (woN zs) n m i h)
  have HN := Lib.hid (fun (k : Nat) (hk : k < n) W (hg : Below w.heap.size w W) (AV : Option Addr) (cV : Nat) (hV : Reads W W.heap.size AV ((pvL (rtN zs) (lfN zs) (woN zs) n k).map vi)) => least_next AS n cS (stL zs n n) AV (k + 1) cV k (frN (rtN zs) (lfN zs) n (orA (rtN zs) n k)) (pvL (rtN zs) (lfN zs) (woN zs) n k) (stepP zs n (orA (rtN zs) n k)) W (stL_len zs n n) (by omega) (hA.below hg) (HLN.out k) hV rfl hk (stL_at zs n k hk) rfl (HFR.out k hk) (by have := woN_bd ha (orA (rtN zs) n k); unfold stepP; simp only; omega) (by
    rw [HGD.out k _ (HFR.out k hk)]
    have := HBD.out (frN (rtN zs) (lfN zs) n (orA (rtN zs) n k)) (by have := HFR.out k hk; omega)
    have := HFR.out k hk
    omega))
  have hO1 : Lst (w.alloc (.cells #[.int .i64 0] 2)) w.heap.size (.slice (some ⟨w.heap.size, 0, none⟩) 1 1) [0] := World.ownsRow_lit w #[.int .i64 0] 1 (Nat.le_refl _) (by unfold maxLen; omega) rfl
  have HO1 := Lib.hid hO1
  have HB1 : Hid (Below w.heap.size w (w.alloc (.cells #[.int .i64 0] 2))) := Lib.hid ((Below.refl _ _).alloc (Nat.le_refl _) _)
  obtain ⟨i0, hi, hz0, hz1, hz2⟩ := info_parts info_i7
  clear hA hn ha hO1
  go_enter Tryd.func115, Tryd.ntmps115
  go_wp2
  generalize w.alloc (.cells #[.int .i64 0] 2) = w1 at *
  go_loopw [3, 7] (fun v i wr => ∃ k : Nat, k ≤ n ∧ i = .int .i64 k ∧ Lst wr w.heap.size v (pvL (rtN zs) (lfN zs) (woN zs) n k) ∧ Below w.heap.size w wr) (fun _ i _ => n - (intOf i).toNat)
  case atStart => exact ⟨0, by omega, rfl, HO1.out, HB1.out⟩
  case round =>
    obtain ⟨k, hk, rfl, hO, hB⟩ := hrel
    by_cases hlt : k < n
    · have hsz := hB.size
      have HNX1 := Lib.hid (HNX.out k hlt)
      have hln := HLN.out k
      have HE1 := Lib.hid (show max ((pvL (rtN zs) (lfN zs) (woN zs) n k).getD k 0) ((stepP zs n (orA (rtN zs) n k)).2.2.1 + (pvL (rtN zs) (lfN zs) (woN zs) n k).getD (frN (rtN zs) (lfN zs) n (orA (rtN zs) n k)) 0) = max (pvA (rtN zs) (lfN zs) (woN zs) n k) (woN zs (orA (rtN zs) n k) + pvA (rtN zs) (lfN zs) (woN zs) n (frN (rtN zs) (lfN zs) n (orA (rtN zs) n k))) by rw [HGD.out k k (Nat.le_refl _), HGD.out k _ (HFR.out k hlt)]; rfl)
      rcases Lst.row hO with ⟨-, h0⟩ | ⟨g, cap, rest, rfl, hBg, hrow, h1, h2, h3⟩
      · rw [h0] at hln; simp at hln
      have HNK := fun W (hg : Gr wr W) => HN.out k hlt W (hB.trans (hg.below.mono hsz)) (some ⟨g, 0, none⟩) cap (by
        have h5 := (hrow.gr hg).reads
        intro j hj
        obtain ⟨g2, o2, e2, l2, c2⟩ := h5 j (by rw [List.length_append]; omega)
        exact ⟨g2, o2, e2, l2, by rw [c2, List.getElem_append_left hj]⟩)
      rw [HE1.out] at HNK
      have HOLD := Lib.hid (fun W (hg : Gr wr W) => show ∀ j u, ((pvL (rtN zs) (lfN zs) (woN zs) n k).map vi)[j]? = some u → W.cell? ((⟨g, 0, none⟩ : Addr).add j) = some u from fun j u hj => by
        obtain ⟨hl, -⟩ := List.getElem?_eq_some_iff.1 hj
        have h5 := (hrow.gr hg).cell j
        rw [List.getElem?_append_left hl, hj] at h5
        rw [add_plain, Nat.zero_add]
        exact h5)
      replace HNK := Lib.hid HNK
      have hml : ((pvL (rtN zs) (lfN zs) (woN zs) n k).map vi).length = k + 1 := by rw [List.length_map]; exact hln
      generalize max (pvA (rtN zs) (lfN zs) (woN zs) n k) (woN zs (orA (rtN zs) n k) + pvA (rtN zs) (lfN zs) (woN zs) n (frN (rtN zs) (lfN zs) n (orA (rtN zs) n k))) = x at *
      have hlc : k + 1 ≤ cap := by omega
      rw [hln]
      have hk0 : (0 : Int) ≤ (k : Int) + 1 := by omega
      have hkc : (k : Int) + 1 ≤ (cap : Int) := by omega
      have HB := Lib.hid hB
      clear hO hB hrow h3 HE1 hln h1
      generalize pvL (rtN zs) (lfN zs) (woN zs) n k = xs at *
      go_wp2
      go_region_law (first
        | (go_simp; go_at_call 164; refine (HNK.out _ (by repeat (first | with_reducible exact Gr.refl _ | with_reducible refine Gr.alloc ?_ _ | with_reducible refine Gr.gr ?_ _ _ | with_reducible refine Gr.drew ?_ | with_reducible refine Gr.drewN ?_ _))).mono ?_; rintro e w' ⟨rfl, kk, os, rfl⟩)
        | (refine step_append_full rfl _ _ 52 rfl w.heap.size 2 i0 (.int .i64 0) 1 8 Tryd.underlying52 hi hz0 hz1 hz2 rfl ⟨g, 0, none⟩ (k + 1) (xs.map vi) rfl (by rw [hml, Nat.mul_one]) (HOLD.out _ (by repeat (first | with_reducible exact Gr.refl _ | with_reducible refine Gr.alloc ?_ _ | with_reducible refine Gr.gr ?_ _ _ | with_reducible refine Gr.drew ?_ | with_reducible refine Gr.drewN ?_ _))) _ 1 1 [.int .i64 x] rfl rfl (one_cell_new _ _ _) (by omega) (by unfold maxLen; omega) (by omega) (by simp [gr_size]; omega) ?_; intro v' w5 hown' hgr'; have HA1 := Lib.hid hown'; have HA2 := Lib.hid (Gr.trans (show Gr wr _ from (by repeat (first | with_reducible exact Gr.refl _ | with_reducible refine Gr.alloc ?_ _ | with_reducible refine Gr.gr ?_ _ _ | with_reducible refine Gr.drew ?_ | with_reducible refine Gr.drewN ?_ _))) hgr'); clear hown' hgr'))
      all_goals
        have HV5 : Hid (Lst w5 w.heap.size v' (xs ++ [x])) := Lib.hid (by
          have e5 : xs.length = k + 1 := by rw [← hml, List.length_map]
          have h9 := HA1.out
          show World.ownsRow _ _ _ _ _ _ _
          rw [List.length_append, List.map_append, e5]
          exact h9)
        go_wp2
        go_roundw
        case rel => exact ⟨k + 1, by omega, by go_num, by rw [HNX1.out]; exact HV5.out, HB.out.trans (HA2.out.below.mono hsz)⟩
        case measure => simp [intOf]; omega
    · obtain rfl : k = n := by omega
      go_wp2
      go_ret
      exact ⟨⟨_, rfl, hO⟩, hB⟩
end Go.Proofs.YtggflladheemoaaDoor

/- Contracts of chapter 9: the order of a proof, in the model. -/
namespace Go.Proofs.YtggflladheemoaaDoor
open Go.RowKit Go.Shelf Go.ChangeShapes Go.WideShapes Go.ChangeAt
set_option linter.unusedVariables false
set_option linter.unusedSimpArgs false

/-- A list of the call's own, as another one. -/
theorem own_any (ad : Addr) (n c : Nat) (zs : List Int) (w : World) (hn : zs.length = n) (hN : n ≤ 16777216) (hA : 0 < n → ∀ j u, (zs.map vi)[j]? = some u → w.cell? (ad.add j) = some u) (hb : ad.block < w.heap.size) :
    Calls Tryd.prog 167 #[.slice (some ad) n c] w fun e w' => (∃ v, e = .returned v ∧ Lst w' w.heap.size v zs) ∧ Below w.heap.size w w' := by
  have hO : Lst (w.alloc (.cells #[] 2)) w.heap.size (.slice (some ⟨w.heap.size, 0, none⟩) 0 0) [] := World.ownsRow_made w #[] 0 (Nat.le_refl _) (Nat.zero_le _) rfl
  have HO := Lib.hid hO
  have HN := Lib.hid hn
  have HA := Lib.hid (fun (h : 0 < n) => show ∃ a, some ad = some a ∧ ∀ j u, (zs.map vi)[j]? = some u → (w.alloc (.cells #[] 2)).cell? (a.add j) = some u from ⟨ad, rfl, fun j u hj => by
    have h1 := hA h j u hj
    rw [← h1]
    exact World.cell?_of_block (Below.heap_alloc w _ _ (World.block_lt_of_cell? w _ h1))⟩)
  have hml : (zs.map vi).length = n * 1 := by rw [List.length_map, Nat.mul_one]; exact hn
  have HML := Lib.hid hml
  obtain ⟨i0, hi, hz0, hz1, hz2⟩ := info_parts info_i7
  clear hA hn hO hml
  go_enter Tryd.func167, Tryd.ntmps167
  go_wp2_with (at_builtin; refine wpList_append_ownA _ rfl _ _ 52 rfl w.heap.size 2 i0 (.int .i64 0) 1 8 Tryd.underlying52 hi hz0 hz1 hz2 rfl (by decide) _ _ _ rfl HO.out (some ad) n c (zs.map vi) rfl (fun h => by cases h) HML.out HA.out (fun u hu => by obtain ⟨z, -, rfl⟩ := List.mem_map.1 hu; rfl) (by simp [maxLen]; omega) (by simp; omega) (by simp) ?_; intro v' w4 hown' hgrow; have HV := Lib.hid hown'; have HGW := Lib.hid (((Below.refl _ w).alloc (Nat.le_refl _) (.cells #[] 2)).grown hgrow (by simp) (fun k hk => (World.ownsRow.lt HO.out k hk).1)); clear hown' hgrow)
  go_ret
  refine ⟨⟨_, rfl, ?_⟩, HGW.out⟩
  have h9 := HV.out
  show World.ownsRow _ _ _ _ _ _ _
  rw [HN.out]
  simpa using h9
end Go.Proofs.YtggflladheemoaaDoor

/- Contracts of chapter 9: the order of a proof, in the model. -/
namespace Go.Proofs.YtggflladheemoaaDoor
open Go.RowKit Go.Shelf Go.ChangeShapes Go.WideShapes Go.ChangeAt
set_option linter.unusedVariables false
set_option linter.unusedSimpArgs false

theorem Lst.ne_nil {w : World} {B : Nat} {v : Value} {xs : List Int} (h : Lst w B v xs) (hl : 0 < xs.length) : v ≠ .slice none 0 0 := by
  rcases h.2 with ⟨-, h0⟩ | ⟨g, cap, cur, rfl, -⟩
  · omega
  · simp
set_option maxRecDepth 100000 in
set_option maxHeartbeats 8000000 in
theorem order_spec (A : Option Addr) (n c : Nat) (zs : List P3) (w : World) (hn : zs.length = n) (hN : n ≤ 40) (hA : Reads w w.heap.size A (cells3 zs)) (ha : allL zs = true) :
    Calls Tryd.prog 119 #[.slice A n c] w fun e w' => (∃ v, e = .returned v ∧ Lst w' w.heap.size v (natI (orL (rtN zs) n))) ∧ Below w.heap.size w w' := by
  have HA := Lib.hid (fun W (h : Below w.heap.size w W) => hA.below h)
  have HL := Lib.hid hn
  have HZ := Lib.hid (fun (k : Nat) (h : k < n) => tkN_is ha (k := k) (by rw [hn]; exact h))
  have HON := Lib.hid (orL_succ (rtN zs))
  have HOL := Lib.hid (orL_len (rtN zs))
  have HOM := Lib.hid (fun k i (h : i ∈ orL (rtN zs) k) => (orL_mem (rtN zs)).1 h)
  have HO1 : Hid (Lst (w.alloc (.cells #[] 2)) w.heap.size (.slice (some ⟨w.heap.size, 0, none⟩) 0 0) []) := Lib.hid (World.ownsRow_made w #[] 0 (Nat.le_refl _) (Nat.zero_le _) rfl)
  have HB1 : Hid (Below w.heap.size w (w.alloc (.cells #[] 2))) := Lib.hid ((Below.refl _ _).alloc (Nat.le_refl _) _)
  have HE := Lib.hid (fun (z : P3) W (h : lbIs z) => ends_spec z W h)
  obtain ⟨i0, hi, hz0, hz1, hz2⟩ := info_parts info_i7
  clear hA hn ha
  go_enter Tryd.func119, Tryd.ntmps119
  go_wp2
  generalize w.alloc (.cells #[] 2) = w1 at *
  go_loopw [3, 4] (fun v i wr => ∃ k : Nat, k ≤ n ∧ i = .int .i64 k ∧ v ≠ .slice none 0 0 ∧ Lst wr w.heap.size v (natI (orL (rtN zs) k)) ∧ Below w.heap.size w wr) (fun _ i _ => n - (intOf i).toNat)
  case atStart => exact ⟨0, by omega, rfl, by simp, HO1.out, HB1.out⟩
  case round =>
    obtain ⟨k, hk, rfl, hvn, hO, hB⟩ := hrel
    have hsz := hB.size
    by_cases hlt : k < n
    · have hz := tkN_at (zs := zs) (k := k) (by rw [HL.out]; exact hlt)
      obtain ⟨ga, oa, eA, hga, x0, x1, x2⟩ := (HA.out wr hB).at3 hz
      have HAr := Lib.hid (HA.out wr hB)
      have HEk := fun W => HE.out (tkN zs k) W (HZ.out k hlt)
      have HNX := Lib.hid (HON.out k)
      have hol := HOL.out k
      have HOLN := Lib.hid (HOL.out (k + 1))
      have HOM1 := Lib.hid (HOM.out k)
      have HRK := Lib.hid (show ∀ j, bfR (rtN zs) k j = decide (rtT (tkN zs k) < rtT (tkN zs j)) from fun j => rfl)
      generalize orL (rtN zs) k = L at *
      have HLL := Lib.hid (show (natI L).length = k by rw [List.length_map]; exact hol)
      have hNA : insN (bfR (rtN zs)) k L = insA (fun q => (L[q]?.map (bfR (rtN zs) k)).getD false) k := by rw [← hol]; rfl
      have HNA := Lib.hid hNA
      have HSU := Lib.hid (insA_succ (fun q => (L[q]?.map (bfR (rtN zs) k)).getD false))
      rcases Lst.row hO with ⟨h0, -⟩ | ⟨g, cap, rest, rfl, hBg, hrow, h1, h2, h3⟩
      · exact absurd h0 hvn
      have hgl := hrow.lt
      have HROW := Lib.hid hrow
      rw [HLL.out] at h1 h3 ⊢
      have HB := Lib.hid hB
      have HLOL := Lib.hid hol
      clear hz hO hB hrow hvn hNA hol
      subst eA
      generalize tkN zs k = z at *
      obtain ⟨za, zb, zc⟩ := z
      simp only [tkV] at HEk
      replace HEk := Lib.hid HEk
      simp only at x0 x1 x2
      generalize lfT (za, zb, zc) = l at *
      generalize rtT (za, zb, zc) = r at *
      go_wp2_with fail
      refine (HEk.out _).mono ?_
      rintro e w2 ⟨rfl, hg2⟩
      have HG2 := Lib.hid hg2
      clear hg2
      go_wp2
      go_loopw [7] (fun a W => ∃ j : Nat, j ≤ k ∧ a = .int .i64 j ∧ Hid (insN (bfR (rtN zs)) k L = insA (fun q => (L[q]?.map (bfR (rtN zs) k)).getD false) j) ∧ Gr wr W) (fun a _ => (intOf a).toNat)
      case atStart => exact ⟨k, Nat.le_refl _, rfl, HNA, HG2.out⟩
      case round =>
        obtain ⟨j, hj, rfl, hE, hG2⟩ := hrel
        obtain ⟨k0, os0, rfl⟩ := hG2
        have hG2 : Gr wr (gr wr k0 os0) := ⟨_, _, rfl⟩
        generalize gr wr k0 os0 = W at *
        have hjc : (j : Int) ≤ (cap : Int) := by omega
        have hjk : (j : Int) ≤ (k : Int) := by omega
        have hjn : j ≤ cap := by omega
        have hj00 : (0 : Int) ≤ (j : Int) := by omega
        obtain ⟨o2, E2, hS2, hD2⟩ := cut_at Tryd.underlying52 hi hz1 g k cap j hj
        have HD2 := Lib.hid (fun h => (hD2 h h1).trans (Nat.mul_one j))
        have HYL := Lib.hid (show ((natI L).take j).length = j by rw [List.length_take, HLL.out]; exact Nat.min_eq_left hj)
        have HDL := Lib.hid (show (((natI L).drop j).map vi).length = (k - j) * 1 by rw [List.length_map, List.length_drop, HLL.out, Nat.mul_one])
        have HDC := Lib.hid (fun (h : 0 < k - j) (q : Nat) (u : Value) (hq : (((natI L).drop j).map vi)[q]? = some u) => show wr.cell? ⟨g, o2 + q, none⟩ = some u from by
          rw [HD2.out (by omega), HROW.out.cell]
          obtain ⟨hl, -⟩ := List.getElem?_eq_some_iff.1 hq
          rw [List.length_map, List.length_drop] at hl
          rw [List.getElem?_append_left (by rw [List.length_map]; omega), List.getElem?_map]
          rw [List.getElem?_map, List.getElem?_drop] at hq
          exact hq)
        have HOWN := Lib.hid (fun W' (hg : Gr wr W') => own_any ⟨g, 0, none⟩ j cap ((natI L).take j) W' HYL.out (by omega) (fun h q u hq => by
          rw [add_plain, Nat.zero_add, (HROW.out.gr hg).cell]
          obtain ⟨hl, -⟩ := List.getElem?_eq_some_iff.1 hq
          rw [List.length_map, HYL.out] at hl
          rw [List.getElem?_append_left (by rw [List.length_map, HLL.out]; omega), List.getElem?_map]
          rw [List.getElem?_map, List.getElem?_take, if_pos hl] at hq
          exact hq) (show g < W'.heap.size by have := hg.below.size; omega))
        clear hD2
        by_cases hj0 : j = 0
        · have HK := Lib.hid (show insN (bfR (rtN zs)) k L = j from by rw [hE.out, hj0]; rfl)
          have hd0 : decide (0 < (j : Int)) = false := decide_eq_false (by omega)
          have hd1 : decide (0 < j) = false := decide_eq_false (by omega)
          have HJ0 := Lib.hid hj0
          clear hj0
          have HG := Lib.hid hG2
          clear hG2
          go_wp2
          go_region_law (first
            | (go_simp; go_at_call 167; refine (HOWN.out _ (HG.out.trans (by repeat (first | with_reducible exact Gr.refl _ | with_reducible refine Gr.alloc ?_ _ | with_reducible refine Gr.gr ?_ _ _ | with_reducible refine Gr.drew ?_ | with_reducible refine Gr.drewN ?_ _)))).mono ?_; rintro e w4 ⟨⟨v4, rfl, hv4⟩, hb4⟩; have HG4 := Lib.hid (HG.out.trans (Gr.trans (show Gr W _ from (by repeat (first | with_reducible exact Gr.refl _ | with_reducible refine Gr.alloc ?_ _ | with_reducible refine Gr.gr ?_ _ _ | with_reducible refine Gr.drew ?_ | with_reducible refine Gr.drewN ?_ _))) (Gr.of_below hb4))); have HNB := Lib.hid (fun q e => Nat.le_trans (HG.out.trans (show Gr W _ from (by repeat (first | with_reducible exact Gr.refl _ | with_reducible refine Gr.alloc ?_ _ | with_reducible refine Gr.gr ?_ _ _ | with_reducible refine Gr.drew ?_ | with_reducible refine Gr.drewN ?_ _)))).below.size (World.ownsRow.lt hv4 q e).1); have HV4 := Lib.hid (Lst.mono hv4 (Nat.le_trans hsz (HG.out.trans (show Gr W _ from (by repeat (first | with_reducible exact Gr.refl _ | with_reducible refine Gr.alloc ?_ _ | with_reducible refine Gr.gr ?_ _ _ | with_reducible refine Gr.drew ?_ | with_reducible refine Gr.drewN ?_ _)))).below.size)); have HCB := Lib.hid (fun a x (h : World.cell? _ a = some x) => (hb4.cell (World.block_lt_of_cell? _ _ h)).trans h); clear hv4 hb4)
            | (refine step_append_own9 rfl _ _ 52 rfl w.heap.size 2 i0 (.int .i64 0) 1 8 Tryd.underlying52 hi hz0 hz1 hz2 rfl (by decide) _ _ _ rfl (Lst.below HV4.out (Gr.below (by repeat (first | with_reducible exact Gr.refl _ | with_reducible refine Gr.alloc ?_ _ | with_reducible refine Gr.gr ?_ _ _ | with_reducible refine Gr.drew ?_ | with_reducible refine Gr.drewN ?_ _)))) _ 1 1 [.int .i64 k] rfl rfl (fun _ => by first | exact one_cell_new _ _ _ | exact fun j u hj => HCB.out _ _ (one_cell_new _ _ _ j u hj)) (by simp [Value.oneCell']) (by rw [HYL.out]; unfold maxLen; omega) (by rw [HYL.out]; omega) (Nat.le_trans hsz (HG4.out.trans (by repeat (first | with_reducible exact Gr.refl _ | with_reducible refine Gr.alloc ?_ _ | with_reducible refine Gr.gr ?_ _ _ | with_reducible refine Gr.drew ?_ | with_reducible refine Gr.drewN ?_ _))).below.size) ?_; intro v5 w5 hown5 hgr5; have HV5 := Lib.hid hown5; have HB5 := Lib.hid ((HB.out.trans ((HG4.out.trans (by repeat (first | with_reducible exact Gr.refl _ | with_reducible refine Gr.alloc ?_ _ | with_reducible refine Gr.gr ?_ _ _ | with_reducible refine Gr.drew ?_ | with_reducible refine Gr.drewN ?_ _))).below.mono hsz)).grown hgr5 (Nat.le_trans hsz (HG4.out.trans (by repeat (first | with_reducible exact Gr.refl _ | with_reducible refine Gr.alloc ?_ _ | with_reducible refine Gr.gr ?_ _ _ | with_reducible refine Gr.drew ?_ | with_reducible refine Gr.drewN ?_ _))).below.size) (fun q hq => (World.ownsRow.lt HV4.out q hq).1)); have HOC5 := Lib.hid ((hgr5.block g (Nat.lt_of_lt_of_le hgl (HG4.out.trans (by repeat (first | with_reducible exact Gr.refl _ | with_reducible refine Gr.alloc ?_ _ | with_reducible refine Gr.gr ?_ _ _ | with_reducible refine Gr.drew ?_ | with_reducible refine Gr.drewN ?_ _))).below.size) (fun e => by have := HNB.out g e.symm; omega)).trans ((HG4.out.trans (by repeat (first | with_reducible exact Gr.refl _ | with_reducible refine Gr.alloc ?_ _ | with_reducible refine Gr.gr ?_ _ _ | with_reducible refine Gr.drew ?_ | with_reducible refine Gr.drewN ?_ _))).below.block g hgl)); clear hown5 hgr5)
            | (refine step_append_own9 rfl _ _ 52 rfl w.heap.size 2 i0 (.int .i64 0) 1 8 Tryd.underlying52 hi hz0 hz1 hz2 rfl (by decide) _ _ _ rfl HV5.out ⟨g, o2, none⟩ (k - j) E2 (((natI L).drop j).map vi) rfl HDL.out (fun h q u hq => by rw [add_plain]; exact (World.cell?_of_block HOC5.out).trans (HDC.out h q u hq)) (fun u hu => by obtain ⟨z, -, rfl⟩ := List.mem_map.1 hu; rfl) (by rw [HYL.out]; unfold maxLen; omega) (by rw [HYL.out]; omega) HB5.out.size ?_; intro v6 w6 hown6 hgr6; have HV6 := Lib.hid hown6; have HB6 := Lib.hid (HB5.out.grown hgr6 HB5.out.size (fun q hq => (World.ownsRow.lt HV5.out q hq).1)); clear hown6 hgr6))
          all_goals
            have HF6 : Hid (Lst w6 w.heap.size v6 (natI (orL (rtN zs) (k + 1)))) := Lib.hid (by
              rw [HNX.out]
              have e1 : j + 1 + (k - j) = k + 1 := by omega
              have h9 := HV6.out
              rw [HYL.out] at h9
              show World.ownsRow _ _ _ _ _ _ _
              have e2 : (natI L).take j ++ (k : Int) :: (natI L).drop j = natI (insB (bfR (rtN zs)) k L) := by
                rw [insB_eq, HK.out]
                simp [natI]
              rw [← e2]
              have e3 : ((natI L).take j ++ (k : Int) :: (natI L).drop j).length = j + 1 + (k - j) := by
                rw [List.length_append, List.length_cons, HYL.out, List.length_drop, HLL.out]; omega
              rw [e3]
              have e4 : ((natI L).take j ++ (k : Int) :: (natI L).drop j).map vi = ((natI L).take j).map vi ++ [Value.int .i64 k] ++ ((natI L).drop j).map vi := by simp
              rw [e4]
              exact h9)
            go_wp2
            go_roundw
            case rel => exact ⟨k + 1, by omega, by go_num, Lst.ne_nil HF6.out (by rw [List.length_map, HOLN.out]; omega), HF6.out, HB6.out⟩
            case measure => simp [intOf]; omega
        · have hd0 : decide (0 < (j : Int)) = true := decide_eq_true (by omega)
          have hd1 : decide (0 < j) = true := decide_eq_true (by omega)
          have hj1 : 0 < j := by omega
          have hj2 : (1 : Int) ≤ (j : Int) := by omega
          have hj3 : (j : Int) - 1 < (k : Int) := by omega
          have hwj : IntKind.i64.wrap ((j : Int) - 1) = (j : Int) - 1 := IntWalk.i64_in _ (by omega)
          obtain ⟨y, hy⟩ := some_at (l := L) (k := j - 1) (by rw [HLOL.out]; omega)
          have hyk := HOM1.out y (List.mem_of_getElem? hy)
          have hyn : y < n := by omega
          have hyn2 : (y : Int) < (n : Int) := by omega
          have yc := (HROW.out.gr hG2).cell (j - 1)
          rw [List.getElem?_append_left (by rw [List.length_map, HLL.out]; omega), List.getElem?_map, List.getElem?_map, hy] at yc
          have hzy := tkN_at (zs := zs) (k := y) (by rw [HL.out]; exact hyn)
          obtain ⟨gy, oy, eY, -, y0, y1, y2⟩ := (HAr.out.gr hG2).at3 hzy
          injection eY with eY
          injection eY with eY1 eY2
          subst eY1 eY2
          have HEy := fun W => HE.out (tkN zs y) W (HZ.out y hyn)
          have HS := Lib.hid (HSU.out (j - 1))
          rw [show j - 1 + 1 = j by omega] at HS
          simp only [hy, Option.map_some, Option.getD_some] at HS
          rw [HRK.out y] at HS
          have hgaW : ga < W.heap.size := by have := hG2.below.size; omega
          have hglW : g < W.heap.size := by have := hG2.below.size; omega
          clear hzy hy hj0
          generalize tkN zs y = zy at *
          obtain ⟨p1, p2, p3⟩ := zy
          simp only [tkV] at HEy
          replace HEy := Lib.hid HEy
          simp only [Option.map_some] at yc
          simp only at y0 y1 y2
          generalize lfT (p1, p2, p3) = ly at *
          generalize rtT (p1, p2, p3) = ry at *
          by_cases hc : ry ≤ r
          · have HK := Lib.hid (show insN (bfR (rtN zs)) k L = j from by rw [hE.out, HS.out, decide_eq_false (by omega)]; rfl)
            go_wp2_with fail
            refine (HEy.out _).mono ?_
            rintro e w3 ⟨rfl, hg3⟩
            replace hG2 := hG2.trans hg3
            clear hg3 y0 y1 y2 yc
            generalize w3 = W at *
            have HG := Lib.hid hG2
            clear hG2
            go_wp2
            go_region_law (first
              | (go_simp; go_at_call 167; refine (HOWN.out _ (HG.out.trans (by repeat (first | with_reducible exact Gr.refl _ | with_reducible refine Gr.alloc ?_ _ | with_reducible refine Gr.gr ?_ _ _ | with_reducible refine Gr.drew ?_ | with_reducible refine Gr.drewN ?_ _)))).mono ?_; rintro e w4 ⟨⟨v4, rfl, hv4⟩, hb4⟩; have HG4 := Lib.hid (HG.out.trans (Gr.trans (show Gr W _ from (by repeat (first | with_reducible exact Gr.refl _ | with_reducible refine Gr.alloc ?_ _ | with_reducible refine Gr.gr ?_ _ _ | with_reducible refine Gr.drew ?_ | with_reducible refine Gr.drewN ?_ _))) (Gr.of_below hb4))); have HNB := Lib.hid (fun q e => Nat.le_trans (HG.out.trans (show Gr W _ from (by repeat (first | with_reducible exact Gr.refl _ | with_reducible refine Gr.alloc ?_ _ | with_reducible refine Gr.gr ?_ _ _ | with_reducible refine Gr.drew ?_ | with_reducible refine Gr.drewN ?_ _)))).below.size (World.ownsRow.lt hv4 q e).1); have HV4 := Lib.hid (Lst.mono hv4 (Nat.le_trans hsz (HG.out.trans (show Gr W _ from (by repeat (first | with_reducible exact Gr.refl _ | with_reducible refine Gr.alloc ?_ _ | with_reducible refine Gr.gr ?_ _ _ | with_reducible refine Gr.drew ?_ | with_reducible refine Gr.drewN ?_ _)))).below.size)); have HCB := Lib.hid (fun a x (h : World.cell? _ a = some x) => (hb4.cell (World.block_lt_of_cell? _ _ h)).trans h); clear hv4 hb4)
              | (refine step_append_own9 rfl _ _ 52 rfl w.heap.size 2 i0 (.int .i64 0) 1 8 Tryd.underlying52 hi hz0 hz1 hz2 rfl (by decide) _ _ _ rfl (Lst.below HV4.out (Gr.below (by repeat (first | with_reducible exact Gr.refl _ | with_reducible refine Gr.alloc ?_ _ | with_reducible refine Gr.gr ?_ _ _ | with_reducible refine Gr.drew ?_ | with_reducible refine Gr.drewN ?_ _)))) _ 1 1 [.int .i64 k] rfl rfl (fun _ => by first | exact one_cell_new _ _ _ | exact fun j u hj => HCB.out _ _ (one_cell_new _ _ _ j u hj)) (by simp [Value.oneCell']) (by rw [HYL.out]; unfold maxLen; omega) (by rw [HYL.out]; omega) (Nat.le_trans hsz (HG4.out.trans (by repeat (first | with_reducible exact Gr.refl _ | with_reducible refine Gr.alloc ?_ _ | with_reducible refine Gr.gr ?_ _ _ | with_reducible refine Gr.drew ?_ | with_reducible refine Gr.drewN ?_ _))).below.size) ?_; intro v5 w5 hown5 hgr5; have HV5 := Lib.hid hown5; have HB5 := Lib.hid ((HB.out.trans ((HG4.out.trans (by repeat (first | with_reducible exact Gr.refl _ | with_reducible refine Gr.alloc ?_ _ | with_reducible refine Gr.gr ?_ _ _ | with_reducible refine Gr.drew ?_ | with_reducible refine Gr.drewN ?_ _))).below.mono hsz)).grown hgr5 (Nat.le_trans hsz (HG4.out.trans (by repeat (first | with_reducible exact Gr.refl _ | with_reducible refine Gr.alloc ?_ _ | with_reducible refine Gr.gr ?_ _ _ | with_reducible refine Gr.drew ?_ | with_reducible refine Gr.drewN ?_ _))).below.size) (fun q hq => (World.ownsRow.lt HV4.out q hq).1)); have HOC5 := Lib.hid ((hgr5.block g (Nat.lt_of_lt_of_le hgl (HG4.out.trans (by repeat (first | with_reducible exact Gr.refl _ | with_reducible refine Gr.alloc ?_ _ | with_reducible refine Gr.gr ?_ _ _ | with_reducible refine Gr.drew ?_ | with_reducible refine Gr.drewN ?_ _))).below.size) (fun e => by have := HNB.out g e.symm; omega)).trans ((HG4.out.trans (by repeat (first | with_reducible exact Gr.refl _ | with_reducible refine Gr.alloc ?_ _ | with_reducible refine Gr.gr ?_ _ _ | with_reducible refine Gr.drew ?_ | with_reducible refine Gr.drewN ?_ _))).below.block g hgl)); clear hown5 hgr5)
              | (refine step_append_own9 rfl _ _ 52 rfl w.heap.size 2 i0 (.int .i64 0) 1 8 Tryd.underlying52 hi hz0 hz1 hz2 rfl (by decide) _ _ _ rfl HV5.out ⟨g, o2, none⟩ (k - j) E2 (((natI L).drop j).map vi) rfl HDL.out (fun h q u hq => by rw [add_plain]; exact (World.cell?_of_block HOC5.out).trans (HDC.out h q u hq)) (fun u hu => by obtain ⟨z, -, rfl⟩ := List.mem_map.1 hu; rfl) (by rw [HYL.out]; unfold maxLen; omega) (by rw [HYL.out]; omega) HB5.out.size ?_; intro v6 w6 hown6 hgr6; have HV6 := Lib.hid hown6; have HB6 := Lib.hid (HB5.out.grown hgr6 HB5.out.size (fun q hq => (World.ownsRow.lt HV5.out q hq).1)); clear hown6 hgr6))
            all_goals
              have HF6 : Hid (Lst w6 w.heap.size v6 (natI (orL (rtN zs) (k + 1)))) := Lib.hid (by
                rw [HNX.out]
                have e1 : j + 1 + (k - j) = k + 1 := by omega
                have h9 := HV6.out
                rw [HYL.out] at h9
                show World.ownsRow _ _ _ _ _ _ _
                have e2 : (natI L).take j ++ (k : Int) :: (natI L).drop j = natI (insB (bfR (rtN zs)) k L) := by
                  rw [insB_eq, HK.out]
                  simp [natI]
                rw [← e2]
                have e3 : ((natI L).take j ++ (k : Int) :: (natI L).drop j).length = j + 1 + (k - j) := by
                  rw [List.length_append, List.length_cons, HYL.out, List.length_drop, HLL.out]; omega
                rw [e3]
                have e4 : ((natI L).take j ++ (k : Int) :: (natI L).drop j).map vi = ((natI L).take j).map vi ++ [Value.int .i64 k] ++ ((natI L).drop j).map vi := by simp
                rw [e4]
                exact h9)
              go_wp2
              go_roundw
              case rel => exact ⟨k + 1, by omega, by go_num, Lst.ne_nil HF6.out (by rw [List.length_map, HOLN.out]; omega), HF6.out, HB6.out⟩
              case measure => simp [intOf]; omega
          · have HS2 := Lib.hid (show insN (bfR (rtN zs)) k L = insA (fun q => (L[q]?.map (bfR (rtN zs) k)).getD false) (j - 1) from by rw [hE.out, HS.out, decide_eq_true (by omega)]; rfl)
            go_wp2_with fail
            refine (HEy.out _).mono ?_
            rintro e w3 ⟨rfl, hg3⟩
            have HG3 := Lib.hid (hG2.trans hg3)
            clear hg3
            go_wp2
            go_roundw
            case rel => exact ⟨j - 1, by omega, by congr 1; omega, HS2, HG3.out⟩
            case measure => simp [intOf]; omega
    · obtain rfl : k = n := by omega
      go_wp2
      go_ret
      exact ⟨⟨_, rfl, hO⟩, hB⟩
end Go.Proofs.YtggflladheemoaaDoor
