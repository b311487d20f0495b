/- Contracts of chapter 9: the least proof, in the model. -/
import Derived.Test.YtggflladheemoaaDoor9B
namespace Go.Proofs.YtggflladheemoaaDoor
open Go.RowKit Go.Shelf Go.ChangeShapes Go.WideShapes Go.ChangeAt
set_option linter.unusedVariables false
set_option linter.unusedSimpArgs false

set_option maxRecDepth 100000 in
set_option maxHeartbeats 40000000 in
theorem proof_spec (A : Option Addr) (n c : Nat) (zs : List P3) (w : World) (hn : zs.length = n) (hN : n ≤ 40) (hA : Reads w w.heap.size A (cells3 zs)) (ha : allL zs = true) :
    Calls Tryd.prog 120 #[.slice A n c] w fun e w' => (∃ v, e = .returned v ∧ Lst w' w.heap.size v (pvL (rtN zs) (lfN zs) (woN zs) n n)) ∧ Below w.heap.size w w' := by
  have HOR := Lib.hid (order_spec A n c zs w hn hN hA ha)
  have HA := Lib.hid (fun W (h : Below w.heap.size w W) => hA.below h)
  have HL := Lib.hid hn
  have HZ := Lib.hid (fun (k : Nat) (h : k < n) => tkN_is ha (k := k) (by rw [hn]; exact h))
  have HFR := Lib.hid (fun i (h : i < n) => show frN (rtN zs) (lfN zs) n (orA (rtN zs) n i) ≤ i from by have := fr_le ha i (by omega); rwa [hn] at this)
  have HBD := Lib.hid (fun i (h : i ≤ n) => pvA_bd (rtN zs) (lfN zs) (woN zs) (woN_bd ha) (fun i h => HFR.out i h) i h)
  have HNX := Lib.hid (fun i (h : i < n) => pvL_next (rtN zs) (lfN zs) (woN zs) n i (HFR.out i h))
  have HLN := Lib.hid (fun i => pvL_len (rtN zs) (lfN zs) (woN zs) n i)
  have HAT := Lib.hid (fun m i (h : i ≤ m) => pvL_at (rtN zs) (lfN zs) (woN zs) n m i h)
  have HOA := Lib.hid (fun p (h : p < n) => orA_at (rtN zs) h)
  have HOT := Lib.hid (fun p (h : p < n) => orA_lt (rtN zs) h)
  have HOL := Lib.hid (orL_len (rtN zs) n)
  have HFS := Lib.hid (fun (z : P3) W (h : Below w.heap.size w W) (hz : lbIs z) => frN_spec A n c zs z W hn (by omega) (hA.below h) ha hz)
  have HWB := Lib.hid (fun i => woN_bd ha i)
  obtain ⟨i0, hi, hz0, hz1, hz2⟩ := info_parts info_i7
  clear hA hn ha
  go_enter Tryd.func120, Tryd.ntmps120
  go_wp2_with fail
  refine (HOR.out).mono ?_
  rintro e w1 ⟨⟨vo, rfl, hvo⟩, hb1⟩
  have HO1 : Hid (Lst (w1.alloc (.cells #[.int .i64 0] 2)) w1.heap.size (.slice (some ⟨w1.heap.size, 0, none⟩) 1 1) [0]) := Lib.hid (World.ownsRow_lit w1 #[.int .i64 0] 1 (Nat.le_refl _) (by unfold maxLen; omega) rfl)
  have HB1 : Hid (Below w1.heap.size w1 (w1.alloc (.cells #[.int .i64 0] 2))) := Lib.hid ((Below.refl _ _).alloc (Nat.le_refl _) _)
  obtain ⟨AO, cO, rfl, hRO⟩ := Lst.slice hvo
  rw [show (natI (orL (rtN zs) n)).length = n from by rw [List.length_map]; exact HOL.out] at *
  have HRO := Lib.hid hRO
  have HBW := Lib.hid hb1
  clear hvo hb1 hRO
  go_wp2
  generalize w1.alloc (.cells #[.int .i64 0] 2) = w2 at *
  go_loopw [4, 5] (fun v i wr => ∃ k : Nat, k ≤ n ∧ i = .int .i64 k ∧ Lst wr w1.heap.size v (pvL (rtN zs) (lfN zs) (woN zs) n k) ∧ Below w1.heap.size w1 wr) (fun _ i _ => n - (intOf i).toNat)
  case atStart => exact ⟨0, by omega, rfl, HO1.out, HB1.out⟩
  case round =>
    obtain ⟨k, hk, rfl, hO, hB⟩ := hrel
    have hsz := hB.size
    have hbw := HBW.out.size
    by_cases hlt : k < n
    · have HNX1 := Lib.hid (HNX.out k hlt)
      have hln := HLN.out k
      have hfk := HFR.out k hlt
      have hot := HOT.out k hlt
      have HWR := Lib.hid (HBW.out.trans (hB.mono hbw))
      have hok : ((natI (orL (rtN zs) n)).map vi)[k]? = some (vi ((orA (rtN zs) n k : Nat) : Int)) := by rw [List.getElem?_map, List.getElem?_map, HOA.out k hlt]; rfl
      obtain ⟨go, oo, rfl, hgo, xo⟩ := (HRO.out.below hB).at_ hok
      have hz := tkN_at (zs := zs) (k := orA (rtN zs) n k) (by rw [HL.out]; exact hot)
      obtain ⟨ga, oa, rfl, hga, x0, x1, x2⟩ := (HA.out wr HWR.out).at3 hz
      have hzi := HZ.out (orA (rtN zs) n k) hot
      have HWS := fun W => worth_spec (tkN zs (orA (rtN zs) n k)) W hzi.2.2
      have HFK := fun W (h : Gr wr W) => HFS.out (tkN zs (orA (rtN zs) n k)) W (HWR.out.trans (h.below.mono HWR.out.size)) hzi
      rw [show frK (rtN zs) (lfT (tkN zs (orA (rtN zs) n k))) n = frN (rtN zs) (lfN zs) n (orA (rtN zs) n k) from rfl] at HFK
      rw [show 1 + 10 * (tkN zs (orA (rtN zs) n k)).2.2 = woN zs (orA (rtN zs) n k) from rfl] at HWS
      have hwb := HWB.out (orA (rtN zs) n k)
      have hpk := HBD.out k (by omega)
      have hpf := HBD.out (frN (rtN zs) (lfN zs) n (orA (rtN zs) n k)) (by omega)
      rcases Lst.row hO with ⟨-, h0⟩ | ⟨g, cap, rest, rfl, hBg, hrow, h1, h2, h3⟩
      · rw [h0] at hln; simp at hln
      have hml : ((pvL (rtN zs) (lfN zs) (woN zs) n k).map vi).length = k + 1 := by rw [List.length_map]; exact hln
      have ck := hrow.cell k
      rw [List.getElem?_append_left (by omega), List.getElem?_map, HAT.out k k (Nat.le_refl _)] at ck
      have cf := hrow.cell (frN (rtN zs) (lfN zs) n (orA (rtN zs) n k))
      rw [List.getElem?_append_left (by omega), List.getElem?_map, HAT.out k _ hfk] at cf
      simp only [Option.map_some] at ck cf
      have hgl := hrow.lt
      have HO := Lib.hid hO
      have HB := Lib.hid hB
      have hotn : ((orA (rtN zs) n k : Nat) : Int) < (n : Int) := by omega
      clear hz hzi hrow h1 h3 hok hO hB
      generalize tkN zs (orA (rtN zs) n k) = z at *
      generalize woN zs (orA (rtN zs) n k) = wo at *
      generalize hfe : frN (rtN zs) (lfN zs) n (orA (rtN zs) n k) = fr at *
      generalize orA (rtN zs) n k = ok at *
      generalize pvA (rtN zs) (lfN zs) (woN zs) n k = pk at *
      generalize pvA (rtN zs) (lfN zs) (woN zs) n fr = pf at *
      rw [hln]
      generalize hxs : pvL (rtN zs) (lfN zs) (woN zs) n k = xs at *
      clear hfe hxs
      obtain ⟨za, zb, zc⟩ := z
      simp only [tkV] at HWS HFK
      simp only at x0 x1 x2
      replace HWS := Lib.hid HWS
      replace HFK := Lib.hid HFK
      have hws : IntKind.i64.wrap (wo + pf) = wo + pf := IntWalk.i64_in _ (by omega)
      have hk1 : (k : Int) < (k : Int) + 1 := by omega
      have hk2 : (fr : Int) < (k : Int) + 1 := by omega
      have hk3 : (k : Int) < (n : Int) := by omega
      go_wp2
      have HG3 := Lib.hid (show Gr wr (wr.alloc (.cells #[.int .i64 za, .int .i64 zb, .int .i64 zc] 60)) from (by repeat (first | with_reducible exact Gr.refl _ | with_reducible refine Gr.alloc ?_ _ | with_reducible refine Gr.gr ?_ _ _ | with_reducible refine Gr.drew ?_ | with_reducible refine Gr.drewN ?_ _)))
      have t0 : (wr.alloc (.cells #[.int .i64 za, .int .i64 zb, .int .i64 zc] 60)).cell? ⟨wr.heap.size, 0, none⟩ = some (.int .i64 za) := by simp
      have t1 : (wr.alloc (.cells #[.int .i64 za, .int .i64 zb, .int .i64 zc] 60)).cell? ⟨wr.heap.size, 1, none⟩ = some (.int .i64 zb) := by simp
      have t2 : (wr.alloc (.cells #[.int .i64 za, .int .i64 zb, .int .i64 zc] 60)).cell? ⟨wr.heap.size, 2, none⟩ = some (.int .i64 zc) := by simp
      have ck3 := (HG3.out.below.cell (p := ⟨g, k, none⟩) hgl).trans ck
      have cf3 := (HG3.out.below.cell (p := ⟨g, fr, none⟩) hgl).trans cf
      have hs3 : wr.heap.size < (wr.alloc (.cells #[.int .i64 za, .int .i64 zb, .int .i64 zc] 60)).heap.size := by simp
      have HO3 := Lib.hid (HO.out.below HG3.out.below)
      have HB3 := Lib.hid (HB.out.trans (HG3.out.below.mono hsz))
      have hg3 : g < (wr.alloc (.cells #[.int .i64 za, .int .i64 zb, .int .i64 zc] 60)).heap.size := by simp; omega
      have HFK3 := Lib.hid (fun W (h : Gr (wr.alloc (.cells #[.int .i64 za, .int .i64 zb, .int .i64 zc] 60)) W) => HFK.out W (HG3.out.trans h))
      obtain ⟨bt, hbt⟩ : ∃ b, wr.heap.size = b := ⟨_, rfl⟩
      rw [hbt] at t0 t1 t2 hs3
      simp only [hbt]
      clear HFK HG3 HO HB ck cf x0 x1 x2 xo
      generalize wr.alloc (.cells #[.int .i64 za, .int .i64 zb, .int .i64 zc] 60) = W at *
      have hxl : xs.length = k + 1 := by rw [← hml, List.length_map]
      have HO4 := Lib.hid (show W.ownsRow w1.heap.size 2 1 (.slice (some ⟨g, 0, none⟩) (k + 1) cap) (k + 1) (xs.map vi) from by
        have h9 : W.ownsRow w1.heap.size 2 1 (.slice (some ⟨g, 0, none⟩) xs.length cap) xs.length (xs.map vi) := HO3.out
        rwa [hxl] at h9)
      have hsz3 := HB3.out.size
      have hgd : ∀ (q : Nat) (ps : Array Obj), Gr W (gr W.drew q ps) := fun q ps => (by repeat (first | with_reducible exact Gr.refl _ | with_reducible refine Gr.alloc ?_ _ | with_reducible refine Gr.gr ?_ _ _ | with_reducible refine Gr.drew ?_ | with_reducible refine Gr.drewN ?_ _))
      have u0 := fun (q : Nat) (ps : Array Obj) => ((hgd q ps).below.cell (p := ⟨bt, 0, none⟩) hs3).trans t0
      have u1 := fun (q : Nat) (ps : Array Obj) => ((hgd q ps).below.cell (p := ⟨bt, 1, none⟩) hs3).trans t1
      have u2 := fun (q : Nat) (ps : Array Obj) => ((hgd q ps).below.cell (p := ⟨bt, 2, none⟩) hs3).trans t2
      have u3 := fun (q : Nat) (ps : Array Obj) => ((hgd q ps).below.cell (p := ⟨g, k, none⟩) hg3).trans ck3
      have u4 := fun (q : Nat) (ps : Array Obj) => ((hgd q ps).below.cell (p := ⟨g, fr, none⟩) hg3).trans cf3
      clear hgd
      have HOK := Lib.hid (fun W' (h : Gr W W') => World.ownsRow.kept HO4.out (grownBy_gr h none) (.inr (by simp [Value.ownBlock])))
      clear HNX HBD HAT HOA HOT HFR HLN HL HZ HRO HA HWR HWB HOL HO3 HFS hfk hot hwb hpk hpf hml hln
      go_region_law (first
        | (go_simp; go_at_call 130; refine (HWS.out _).mono ?_; rintro e w' ⟨rfl, kk, os, rfl⟩)
        | (go_simp; go_at_call 121; refine (HFK3.out _ (by repeat (first | with_reducible exact Gr.refl _ | with_reducible refine Gr.alloc ?_ _ | with_reducible refine Gr.gr ?_ _ _ | with_reducible refine Gr.drew ?_ | with_reducible refine Gr.drewN ?_ _))).mono ?_; rintro e w' ⟨rfl, kk2, os2, rfl⟩)
        | (refine step_append_own9 rfl _ _ 52 rfl w1.heap.size 2 i0 (.int .i64 0) 1 8 Tryd.underlying52 hi hz0 hz1 hz2 rfl (by decide) _ _ _ rfl (HOK.out _ (by repeat (first | with_reducible exact Gr.refl _ | with_reducible refine Gr.alloc ?_ _ | with_reducible refine Gr.gr ?_ _ _ | with_reducible refine Gr.drew ?_ | with_reducible refine Gr.drewN ?_ _))) _ 1 1 [.int .i64 (max pk (wo + pf))] rfl rfl (fun _ => one_cell_new _ _ _) (by simp [Value.oneCell']) (by unfold maxLen; omega) (by omega) (Nat.le_trans hsz3 (show Gr W _ from (by repeat (first | with_reducible exact Gr.refl _ | with_reducible refine Gr.alloc ?_ _ | with_reducible refine Gr.gr ?_ _ _ | with_reducible refine Gr.drew ?_ | with_reducible refine Gr.drewN ?_ _))).below.size) ?_; intro v5 w5 hown5 hgr5; have HV5 := Lib.hid hown5; have HB5 := Lib.hid ((HB3.out.trans ((show Gr W _ from (by repeat (first | with_reducible exact Gr.refl _ | with_reducible refine Gr.alloc ?_ _ | with_reducible refine Gr.gr ?_ _ _ | with_reducible refine Gr.drew ?_ | with_reducible refine Gr.drewN ?_ _))).below.mono hsz3)).grown hgr5 (Nat.le_trans hsz3 (show Gr W _ from (by repeat (first | with_reducible exact Gr.refl _ | with_reducible refine Gr.alloc ?_ _ | with_reducible refine Gr.gr ?_ _ _ | with_reducible refine Gr.drew ?_ | with_reducible refine Gr.drewN ?_ _))).below.size) (fun q hq => (World.ownsRow.lt HO4.out q hq).1)); clear hown5 hgr5))
      all_goals
        have HF5 : Hid (Lst w5 w1.heap.size v5 (xs ++ [max pk (wo + pf)])) := Lib.hid (by
          have h9 := HV5.out
          show World.ownsRow _ _ _ _ _ _ _
          rw [List.length_append, List.map_append, hxl]
          exact h9)
        go_wp2
        go_roundw
        case rel => exact ⟨k + 1, by omega, by go_num, by rw [HNX1.out]; exact HF5.out, HB5.out⟩
        case measure => simp [intOf]; omega
    · obtain rfl : k = n := by omega
      go_wp2
      go_ret
      exact ⟨⟨_, rfl, hO.mono hbw⟩, HBW.out.trans (hB.mono hbw)⟩
end Go.Proofs.YtggflladheemoaaDoor
