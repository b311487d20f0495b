/- Contracts of chapter 11: searches in a row of figures, the figure at a point. -/
import Derived.Test.YtddcdodbmbmdnaaDoorC11e
import Derived.Deep.Onto
namespace Go.Proofs.YtddcdodbmbmdnaaDoor
open Go.RowKit
set_option linter.unusedVariables false
set_option linter.unusedSimpArgs false

theorem rowS1_any (gh : Nat) (cbh : Array Value) (b : Bool) (ch cr : Nat) (s : Int) (i : Nat) (w : World) (hs : lsc s = true) (hi : i < gN s) (c0 : w.cell? ⟨ch, 0, none⟩ = some (.func (.func gh) #[] cbh)) (r0 : w.cell? ⟨cr, 0, none⟩ = some (.int .i64 s)) (r1 : w.cell? ⟨cr, 1, none⟩ = some (.int .i64 1))
    (eg : ∀ args w, (callFunc gh args).run Tryd.prog w = .ok (.enter gh args) w)
    (HH : ∀ W', Gr w W' → Calls Tryd.prog gh (#[.agg #[.int .i64 (gD (onG s i)), .int .i64 (gT (onG s i))]] ++ cbh) W' fun e w'' => e = .returned (.bool b) ∧ Gr W' w'') :
    Calls Tryd.prog 135 #[.int .i64 i, .pointer (some ⟨ch, 0, none⟩), .pointer (some ⟨cr, 0, none⟩)] w fun e w' => e = .returned (.bool b) ∧ Gr w w' := by
  have HF := Lib.hid (fun W => figure1_any s i W hs hi)
  have H3 := Lib.hid HH
  have l0 := World.block_lt_of_cell? w _ c0
  have l1 := World.block_lt_of_cell? w _ r0
  generalize gD (onG s i) = d at *
  generalize gT (onG s i) = t at *
  clear hs hi HH
  go_enter Tryd.func135, Tryd.ntmps135
  go_wp2
  ((first | refine region_gr_on (by kernel_rfl) (by kernel_rfl) ?_ | refine region_gr (by kernel_rfl) (by kernel_rfl) ?_); (repeat (quiet_step (first | (with_reducible refine Calls.gr_of (HF.out _)) | exact Calls.gr_of (H3.out _ (by repeat (first | with_reducible exact Gr.refl _ | with_reducible refine Gr.alloc ?_ _ | with_reducible refine Gr.gr ?_ _ _ | with_reducible refine Gr.drew ?_ | with_reducible refine Gr.drewN ?_ _))) | rfl))); refine wpQuiet_nil ?_; intro _ hw'; obtain ⟨⟨kq, oq⟩, hw''⟩ := hw'; subst hw'')
  go_wp2
  go_ret
  exact ⟨rfl, (by repeat (first | with_reducible exact Gr.refl _ | with_reducible refine Gr.alloc ?_ _ | with_reducible refine Gr.gr ?_ _ _ | with_reducible refine Gr.drew ?_ | with_reducible refine Gr.drewN ?_ _))⟩

set_option maxHeartbeats 1000000 in
theorem rowSearch_any (gh : Nat) (cbh : Array Value) (q : Nat → Bool) (s : Int) (w : World) (hD : Dcs w) (hs : lsc s = true) (eg : ∀ args w, (callFunc gh args).run Tryd.prog w = .ok (.enter gh args) w)
    (HH : ∀ W', Gr w W' → ∀ i, i < gN s → Calls Tryd.prog gh (#[.agg #[.int .i64 (gD (onG s i)), .int .i64 (gT (onG s i))]] ++ cbh) W' fun e w'' => e = .returned (.bool (q i)) ∧ Gr W' w'')
    (hm : ∀ a b, a ≤ b → b < gN s → q a = true → q b = true) :
    Calls Tryd.prog 107 #[.agg #[.int .i64 s, .int .i64 1], .func (.func gh) #[] cbh] w fun e w' => e = .returned (.int .i64 (cntF q (gN s) : Nat)) ∧ Gr w w' := by
  have HD := Lib.hid hD
  have HN := Lib.hid (gN_bd s)
  have H1 := Lib.hid (fun W h => count1_any s W h (lsc_sc s hs))
  have HQ := Lib.hid (fun (ch cr i : Nat) W (hg : Gr w W) hi c0 r0 r1 => rowS1_any gh cbh (q i) ch cr s i W hs hi c0 r0 r1 eg (fun W' g1 => HH W' (hg.trans g1) i hi))
  have HM := Lib.hid hm
  clear hm HH hD hs
  generalize gN s = N at *
  have HX := Lib.hid (show ∀ W, Gr ((w.alloc (.cells #[.int .i64 s, .int .i64 1] 131)).alloc (.cells #[.func (.func gh) #[] cbh] 73)) W → Calls Tryd.prog 133 #[.int .i64 N, .func (.func 135) #[] #[.pointer (some ⟨w.heap.size + 1, 0, none⟩), .pointer (some ⟨w.heap.size, 0, none⟩)]]
      W (fun e w' => e = .returned (.int .i64 (cntF q N : Nat)) ∧ Gr W w') from by
    intro W hW
    obtain ⟨B0, B1, G0⟩ := two_boxesF w 131 73 #[.int .i64 s, .int .i64 1] #[.func (.func gh) #[] cbh]
    have c1 := cell_of_row _ (w.heap.size + 1) 0 _ _ _ (B1.gr hW)
    simp at c1
    obtain ⟨r0, r1, -⟩ := (B0.gr hW).two
    refine search_any 135 #[.pointer (some ⟨w.heap.size + 1, 0, none⟩), .pointer (some ⟨w.heap.size, 0, none⟩)] N (by have := HN.out; omega) q W (fun _ _ => by kernel_rfl) ?_ HM.out
    intro W' hg i hi
    exact HQ.out _ _ i W' ((G0.trans hW).trans hg) hi (cell_up hg c1) (cell_up hg r0) (cell_up hg r1))
  clear HQ HM HN eg
  go_enter Tryd.func107, Tryd.ntmps107
  go_wp2_with (first
    | (go_at_call 134; refine (H1.out _ (HD.out.gr (by repeat (first | with_reducible exact Gr.refl _ | with_reducible refine Gr.alloc ?_ _ | with_reducible refine Gr.gr ?_ _ _ | with_reducible refine Gr.drew ?_ | with_reducible refine Gr.drewN ?_ _)))).mono ?_; rintro e w' ⟨rfl, k, os, rfl⟩)
    | (go_at_call 133; refine (HX.out _ ⟨k, os, rfl⟩).mono ?_; rintro e w' ⟨rfl, k2, os2, rfl⟩))
  go_ret
  exact ⟨rfl, (by repeat (first | with_reducible exact Gr.refl _ | with_reducible refine Gr.alloc ?_ _ | with_reducible refine Gr.gr ?_ _ _ | with_reducible refine Gr.drew ?_ | with_reducible refine Gr.drewN ?_ _))⟩

/-- The figures beside a place: where they begin is one before it, and this is how many they are. -/
def bsN (n N : Nat) : Nat := if n = 0 then 1 else if n < N then 2 else 1
theorem bs_bd (n N : Nat) (hn : n ≤ N) (hN : 1 ≤ N) : (max ((n : Int) - 1) 0) = ((n - 1 : Nat) : Int) ∧ (min (n : Int) ((N : Int) - 1)) = ((n - 1 : Nat) : Int) + (bsN n N : Int) - 1 ∧ 1 ≤ bsN n N ∧ n - 1 + bsN n N ≤ N := by
  unfold bsN
  split
  · omega
  · split <;> omega
theorem bs_in (n N : Nat) (hn : n ≤ N) (hN : 1 ≤ N) : (∀ m, m < bsN n N → n - 1 + m < N ∧ (n - 1 + m = n ∨ n - 1 + m + 1 = n)) ∧ ∀ j, j < N → (j = n ∨ j + 1 = n) → ∃ i, i < bsN n N ∧ j = n - 1 + i := by
  unfold bsN
  constructor
  · intro m hm
    split at hm
    · omega
    · split at hm <;> omega
  · intro j hj h
    refine ⟨j - (n - 1), ?_, by omega⟩
    split
    · omega
    · split <;> omega
theorem below_app {w v v' : World} {B n m : Nat} {T : TypeId} {x : Value} {xs : List Value} (h : Below w.heap.size w v) (hB : w.heap.size ≤ B) (hx : v.ownsRow B T m x n xs) (hg : v.grownBy v' x.ownBlock) : Below w.heap.size w v' :=
  ⟨hg.os.trans h.os, hg.tape.trans h.tape, hg.output.trans h.output, Nat.le_trans h.size hg.size, fun k hk => (hg.block k (Nat.lt_of_lt_of_le hk h.size) (fun e => by have := (hx.lt k e.symm).1; omega)).trans (h.block k hk)⟩

theorem app_keep {w wr v' : World} {o : Obj} {B n m g : Nat} {T t : TypeId} {x : Value} {xs : List Value} {cs : Array Value} (hrow : wr.ownsRow B T m x n xs) (hgrow : (wr.alloc o).grownBy v' x.ownBlock) (hBlk : Blk wr g t cs) (hg : g < B) (hW : Below w.heap.size w wr) (hB : w.heap.size ≤ B) :
    Blk v' g t cs ∧ Below w.heap.size w v' :=
  ⟨(hgrow.block g (by have := hBlk.lt; simp; omega) (fun e => by have := (World.ownsRow.lt hrow _ e.symm).1; omega)).trans (hBlk.alloc o), below_app (hW.alloc hW.size _) hB (hrow.alloc o) hgrow⟩
theorem row_below {w w' : World} {B n m : Nat} {T : TypeId} {v : Value} {xs : List Value} (h : w.ownsRow B T m v n xs) (hb : Below w.heap.size w w') : w'.ownsRow B T m v n xs := by
  refine ⟨h.1, ?_⟩
  rcases h.2 with h0 | ⟨g, cap, cur, rfl, hB, hg, r⟩
  · exact .inl h0
  · exact .inr ⟨g, cap, cur, rfl, hB, (hb.block g (Array.getElem?_eq_some_iff.1 hg).1).trans hg, r⟩
set_option maxRecDepth 100000 in
set_option maxHeartbeats 4000000 in
theorem beside_any (s : Int) (n : Nat) (w : World) (hD : Dcs w) (hs : lsc s = true) (hn : n ≤ gN s) :
    Calls Tryd.prog 110 #[.agg #[.int .i64 s, .int .i64 1], .int .i64 n] w fun e w' => (∃ v, e = .returned v ∧ Figs w' w.heap.size v (bsN n (gN s)) (fun k => gD (onG s (n - 1 + k))) (fun k => gT (onG s (n - 1 + k)))) ∧ Gr w w' := by
  have HD := Lib.hid hD
  have HC := Lib.hid (fun W h => count1_any s W h (lsc_sc s hs))
  have HF := Lib.hid (fun (i : Nat) W hi => figure1_any s i W hs hi)
  have hN := gN_bd s
  have HL := bs_bd n (gN s) hn (by omega)
  generalize gN s = N at *
  generalize bsN n N = c at *
  obtain ⟨i0, hi, hz0, hz1, hz2⟩ := info_parts info_fig
  have HM1 := Lib.hid HL.1
  have HM2 := Lib.hid HL.2.1
  have hc1 := HL.2.2.1
  have hcN := HL.2.2.2
  have hn1 : n ≤ 27000 := by omega
  have hst1 : n - 1 + c ≤ 27000 := by omega
  have hN1 : N ≤ 27000 := hN.2
  have hN0 : 9000 ≤ N := hN.1
  clear HL hs hn hN hD
  generalize n - 1 = st at *
  generalize hDD : (fun k => gD (onG s (st + k))) = D at *
  generalize hTT : (fun k => gT (onG s (st + k))) = T at *
  have eD : ∀ k, gD (onG s (st + k)) = D k := fun k => by rw [← hDD]
  have eT : ∀ k, gT (onG s (st + k)) = T k := fun k => by rw [← hTT]
  have HE := Lib.hid (And.intro eD eT)
  clear hDD hTT eD eT
  go_enter Tryd.func110, Tryd.ntmps110
  go_wp2_with (go_at_call 137; refine (mxI_any _ _ _).mono ?_; rw [HM1.out]; rintro e w' ⟨rfl, rfl⟩)
  have B0 := (Blk.new w 131 #[.int .i64 s, .int .i64 1]).alloc (.cells #[] 26)
  have O0 : Figs ((w.alloc (.cells #[.int .i64 s, .int .i64 1] 131)).alloc (.cells #[] 26)) (w.heap.size + 1) (.slice (some ⟨w.heap.size + 1, 0, none⟩) 0 0) 0 D T := by
    have h : Figs ((w.alloc (.cells #[.int .i64 s, .int .i64 1] 131)).alloc (.cells #[] 26)) (w.heap.size + 1) (.slice (some ⟨(w.alloc (.cells #[.int .i64 s, .int .i64 1] 131)).heap.size, 0, none⟩) 0 0) 0 D T := World.ownsRow_made (w.alloc (.cells #[.int .i64 s, .int .i64 1] 131)) #[] 0 (by simp) (Nat.zero_le _) rfl
    rwa [World.size_alloc] at h
  have W0 : Below w.heap.size w ((w.alloc (.cells #[.int .i64 s, .int .i64 1] 131)).alloc (.cells #[] 26)) := ((Below.refl _ w).alloc (Nat.le_refl _) _).alloc (by simp) _
  generalize (w.alloc (.cells #[.int .i64 s, .int .i64 1] 131)).alloc (.cells #[] 26) = v0 at *
  go_loopw [5, 6] (fun v i wr => ∃ k : Nat, i = .int .i64 ((st : Int) + k) ∧ k ≤ c ∧ Figs wr (w.heap.size + 1) v k D T ∧ Blk wr w.heap.size 131 #[.int .i64 s, .int .i64 1] ∧ Below w.heap.size w wr) (fun _ i _ => (st + c) - (intOf i).toNat)
  case atStart => exact ⟨0, by simp, by omega, O0, B0, W0⟩
  case round =>
    obtain ⟨k, rfl, hk, hown, hB, hW⟩ := hrel
    clear O0 B0 W0
    have HCt := Lib.hid (HC.out wr (HD.out.gr (Gr.of_below hW)))
    obtain ⟨r0, r1, -⟩ := hB.two
    have rl := hB.lt
    by_cases hlt : k < c
    · have hcond : (st : Int) + k ≤ (st : Int) + c - 1 := by omega
      have hf := Lib.hid (fun W => HF.out (st + k) W (by omega))
      rw [HE.out.1, HE.out.2] at hf
      simp only [Int.natCast_add] at hf
      have HW := Lib.hid (And.intro hown (And.intro hB hW))
      clear hown hB hW
      go_wp2_with (first
        | (go_at_call 134; refine HCt.out.mono ?_; rintro e w2 ⟨rfl, hg2⟩; have r20 := cell_up hg2 r0; have r21 := cell_up hg2 r1; have rl2 := World.block_lt_of_cell? w2 _ r20; have HG2 := Lib.hid hg2; clear hg2)
        | (go_at_call 138; refine (mnI_any _ _ _).mono ?_; rw [HM2.out]; rintro e w' ⟨rfl, rfl⟩)
        | (go_at_call 136; refine (hf.out _).mono ?_; rintro e w3 ⟨rfl, hg3⟩; have hrow := row_below HW.out.1 (HG2.out.trans hg3).below; have hsz3 := (HG2.out.trans hg3).below.size; have HG3 := Lib.hid hg3; clear hg3)
        | (at_builtin; refine wpList_append_own _ rfl _ _ 134 rfl (w.heap.size + 1) 26 i0 (.agg #[.int .i64 0, .int .i64 0]) 2 16 Tryd.underlying134 hi hz0 hz1 hz2 rfl (by decide) _ _ _ rfl (hrow.alloc _) ⟨w3.heap.size, 0, none⟩ 1 1 [.int .i64 (D k), .int .i64 (T k)] rfl rfl (two_cells_new _ _ _ _) (by simp [Value.oneCell']) (by unfold maxLen; omega) (by omega) (by simp; omega) ?_; intro v' w4 hown' hgrow _))
      go_roundw
      case rel => exact ⟨k + 1, by go_num, by omega, hown', (app_keep hrow hgrow (HW.out.2.1.gr (HG2.out.trans HG3.out)) (by omega) (HW.out.2.2.trans ((HG2.out.trans HG3.out).below.mono HW.out.2.2.size)) (by omega)).1, (app_keep hrow hgrow (HW.out.2.1.gr (HG2.out.trans HG3.out)) (by omega) (HW.out.2.2.trans ((HG2.out.trans HG3.out).below.mono HW.out.2.2.size)) (by omega)).2⟩
      case measure => simp [intOf]; omega
    · obtain rfl : k = c := by omega
      have hcond : ¬ ((st : Int) + k ≤ (st : Int) + k - 1) := by omega
      have HW := Lib.hid (And.intro hown hW)
      clear hown hB hW
      go_wp2_with (first
        | (go_at_call 134; refine HCt.out.mono ?_; rintro e w2 ⟨rfl, hg2⟩; have HG2 := Lib.hid hg2; clear hg2)
        | (go_at_call 138; refine (mnI_any _ _ _).mono ?_; rw [HM2.out]; rintro e w' ⟨rfl, rfl⟩))
      go_ret
      exact ⟨⟨_, rfl, World.ownsRow.mono (row_below HW.out.1 HG2.out.below) (by omega)⟩, Gr.of_below (HW.out.2.trans (HG2.out.below.mono HW.out.2.size))⟩

set_option maxHeartbeats 2000000 in
theorem figureAt_any (s p : Int) (w : World) (hD : Dcs w) (hs : lsc s = true) (hp : -10000000 ≤ p ∧ p ≤ 10000000) :
    Calls Tryd.prog 83 #[.int .i64 s, .int .i64 p] w fun e w' => e = .returned (.agg #[.int .i64 (gD (rdN s p)), .int .i64 (gT (rdN s p))]) ∧ Gr w w' := by
  have HD := Lib.hid hD
  have hN := gN_bd s
  have hn := nxG_le s p
  obtain ⟨hin1, hin2⟩ := bs_in (nxG s p) (gN s) hn (by omega)
  have hbd := bs_bd (nxG s p) (gN s) hn (by omega)
  have HS := Lib.hid (fun W (hW : Dcs W) (bs bp : Nat) (c0 : W.cell? ⟨bs, 0, none⟩ = some (.int .i64 s)) (c1 : W.cell? ⟨bp, 0, none⟩ = some (.int .i64 p)) => show Calls Tryd.prog 107 #[.agg #[.int .i64 s, .int .i64 1], .func (.func 108) #[] #[.pointer (some ⟨bs, 0, none⟩), .pointer (some ⟨bp, 0, none⟩)]] W (fun e w' => e = .returned (.int .i64 (nxG s p : Nat)) ∧ Gr W w') from
    rowSearch_any _ _ (fun i => decide (p ≤ ptN s (onG s i))) s W hW hs (fun _ _ => by kernel_rfl)
      (fun W' hg i hi => fa1_any bs bp s p (gD (onG s i)) (gT (onG s i)) W' (hW.gr hg) hs (g_fg _ (by have := onG_lt s i hi; omega)) (cell_up hg c0) (cell_up hg c1)) (nxG_up s p hs))
  have HB := Lib.hid (fun W hW => beside_any s (nxG s p) W hW hs hn)
  have HM := Lib.hid (fun (g cap bs bp : Nat) W (hW : Dcs W) (c0 : W.cell? ⟨bs, 0, none⟩ = some (.int .i64 s)) (c1 : W.cell? ⟨bp, 0, none⟩ = some (.int .i64 p)) (hR : FigRow W g 0 (bsN (nxG s p) (gN s)) (fun k => gD (onG s (nxG s p - 1 + k))) (fun k => gT (onG s (nxG s p - 1 + k)))) =>
    show Calls Tryd.prog 109 #[.slice (some ⟨g, 0, none⟩) (bsN (nxG s p) (gN s)) cap, .func (.func 111) #[] #[.pointer (some ⟨bs, 0, none⟩), .pointer (some ⟨bp, 0, none⟩)]] W (fun e w' => e = .returned (.agg #[.int .i64 (gD (rdN s p)), .int .i64 (gT (rdN s p))]) ∧ Gr W w') from by
      have F := fun i (hi : i < bsN (nxG s p) (gN s)) => g_fg (onG s (nxG s p - 1 + i)) (by have := onG_lt s (nxG s p - 1 + i) (hin1 i hi).1; omega)
      have R := fun i (hi : i < bsN (nxG s p) (gN s)) => g_rk (onG s (nxG s p - 1 + i)) (by have := onG_lt s (nxG s p - 1 + i) (hin1 i hi).1; omega)
      have B := fun i (hi : i < bsN (nxG s p) (gN s)) => g_bd (onG s (nxG s p - 1 + i)) (by have := onG_lt s (nxG s p - 1 + i) (hin1 i hi).1; omega)
      refine (minBy_any (bsN (nxG s p) (gN s)) 111 #[.pointer (some ⟨bs, 0, none⟩), .pointer (some ⟨bp, 0, none⟩)] (fun k => kyG s p (nxG s p - 1 + k)) (fun i j => cvV s p (gD (onG s (nxG s p - 1 + i))) (gT (onG s (nxG s p - 1 + i))) (gD (onG s (nxG s p - 1 + j))) (gT (onG s (nxG s p - 1 + j))))
        (fun i j hi hj => cv_ky s p _ _ _ _ (R i hi).1 (R i hi).2 (R j hj).1 (R j hj).2) g 0 cap _ _ W hbd.2.2.1 (by omega) hR (fun _ _ => by kernel_rfl)
        (fun W' hg i j hi hj => fa2_any bs bp s p _ _ _ _ W' (hW.gr hg) hs hp (F i hi) (F j hj) (B i hi).2.2 (B j hj).2.2 (cell_up hg c0) (cell_up hg c1))).mono ?_
      rintro e w' ⟨⟨m, hm, rfl, hmin⟩, hg⟩
      have hb := best_of s p hs (nxG s p - 1 + m) (hin1 m hm).1 (hin1 m hm).2 (fun j hj hjn => by
        obtain ⟨i, hi, rfl⟩ := hin2 j hj hjn
        exact hmin i hi)
      exact ⟨by rw [hb], hg⟩)
  have hc1 := hbd.2.2.1
  generalize nxG s p = n at *
  generalize gN s = N at *
  generalize bsN n N = c at *
  generalize gD (rdN s p) = d at *
  generalize gT (rdN s p) = t at *
  clear hD hs hn hin1 hin2 hbd hN
  go_enter Tryd.func83, Tryd.ntmps83
  go_wp2_with fail
  obtain ⟨B0, B1, G0⟩ := two_boxesF w 2 2 #[.int .i64 s] #[.int .i64 p]
  have hv : ((w.alloc (.cells #[.int .i64 s] 2)).alloc (.cells #[.int .i64 p] 2)).heap.size = w.heap.size + 1 + 1 := by simp
  generalize (w.alloc (.cells #[.int .i64 s] 2)).alloc (.cells #[.int .i64 p] 2) = v at *
  have B2 := (Blk.new v 26 #[.int .i64 0, .int .i64 0]).alloc (.cells #[.int .i64 s, .int .i64 1] 131)
  have B3 := Blk.new (v.alloc (.cells #[.int .i64 0, .int .i64 0] 26)) 131 #[.int .i64 s, .int .i64 1]
  rw [World.size_alloc] at B3
  rw [hv] at B2 B3
  have G1 : Gr v ((v.alloc (.cells #[.int .i64 0, .int .i64 0] 26)).alloc (.cells #[.int .i64 s, .int .i64 1] 131)) := (by repeat (first | with_reducible exact Gr.refl _ | with_reducible refine Gr.alloc ?_ _ | with_reducible refine Gr.gr ?_ _ _ | with_reducible refine Gr.drew ?_ | with_reducible refine Gr.drewN ?_ _))
  generalize (v.alloc (.cells #[.int .i64 0, .int .i64 0] 26)).alloc (.cells #[.int .i64 s, .int .i64 1] 131) = u at *
  have c0 := cell_of_row _ w.heap.size 0 _ _ _ (B0.gr G1)
  have c1 := cell_of_row _ (w.heap.size + 1) 0 _ _ _ (B1.gr G1)
  simp at c0 c1
  have G2 := G0.trans G1
  clear B0 B1 G0 G1 hv
  refine (HS.out u (HD.out.gr G2) _ _ c0 c1).mono ?_
  rintro e w1 ⟨rfl, hg1⟩
  replace G2 := G2.trans hg1
  replace B2 := B2.gr hg1
  replace c0 := cell_up hg1 c0
  replace c1 := cell_up hg1 c1
  obtain ⟨r0, r1, -⟩ := (B3.gr hg1).two
  clear hg1 B3
  go_wp2_with fail
  clear r0 r1
  refine (HB.out w1 (HD.out.gr G2)).mono ?_
  rintro e w2 ⟨⟨v2, rfl, hF⟩, hg2⟩
  replace G2 := G2.trans hg2
  replace B2 := B2.gr hg2
  replace c0 := cell_up hg2 c0
  replace c1 := cell_up hg2 c1
  obtain ⟨g, cap, rfl, hR⟩ := Figs.row hF hc1
  clear hF hg2
  go_wp2_with fail
  refine (HM.out g cap _ _ w2 (HD.out.gr G2) c0 c1 hR).mono ?_
  rintro e w3 ⟨rfl, hg3⟩
  have hW := (G2.trans hg3).below
  obtain ⟨b0, b1, bf⟩ := (B2.gr hg3).two
  have bl := (B2.gr hg3).lt
  clear B2 hR G2 hg3 c0 c1
  go_wp2_with fail
  ((try simp only [Exit.inBlock, Exit.then]); refine bodyPost_ret (v := .agg #[.int .i64 d, .int .i64 t]) (by simp [results, Tryd.results83, go_sem, b0, b1, World.cell?_setCell_same']) rfl ?_)
  exact ⟨rfl, Gr.of_below ((hW.setCell (p := ⟨w.heap.size + 1 + 1, 0, none⟩) (by simp; omega) _).setCell (p := ⟨w.heap.size + 1 + 1, 1, none⟩) (by simp; omega) _)⟩
end Go.Proofs.YtddcdodbmbmdnaaDoor
