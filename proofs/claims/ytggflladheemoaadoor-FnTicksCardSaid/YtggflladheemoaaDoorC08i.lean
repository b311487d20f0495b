/- Contracts of chapter 8: how many marks have each height, in the program. -/
import Derived.Test.YtggflladheemoaaDoorC08h
import Derived.Test.YtggflladheemoaaDoor7A
import Derived.Test.YtggflladheemoaaDoorRt
namespace Go.Proofs.YtggflladheemoaaDoor
open Go.RowKit Go.Shelf
set_option linter.unusedVariables false
set_option linter.unusedSimpArgs false
attribute [local go_sem] Oper.semAt_some

theorem mkInts5 (w : World) : (Instr.makeSlice 52 (.int .i64 5) (.int .i64 5)).run Tryd.prog w = .ok (.slice (some ⟨w.heap.size, 0, none⟩) 5 5) (w.alloc (.cells #[.int .i64 0, .int .i64 0, .int .i64 0, .int .i64 0, .int .i64 0] 2)) := mkInts 5 (by omega) w
/-- The table of steps lies in a block below. -/
theorem hts_from {β : Type} (S : Nat) (hS : 2 < S) : OwnFrom S (fun (_ : β) W => Hts W) := fun s W W' row hs hg hr i x hx =>
  (World.cell?_of_block (hg.block _ (World.block_lt_of_cell? W _ (hs i x hx)) (fun e => by have := (hr _ e.symm).1; simp at this; omega))).trans (hs i x hx)
theorem Hts.set {W : World} (h : Hts W) {b : Nat} (hb : 2 < b) (k : Nat) (u : Value) : Hts (W.setCell ⟨b, k, none⟩ u) := fun i x hx =>
  (World.cell?_of_block (Below.heap_setCell W ⟨b, k, none⟩ u 2 (fun e => by simp at e; omega))).trans (h i x hx)
theorem boxed_set {W : World} {B b : Nat} {t : TypeId} {v : Value} (h : Boxed W B t v) (hne : B ≠ b) (k : Nat) (u : Value) : Boxed (W.setCell ⟨b, k, none⟩ u) B t v :=
  (Below.heap_setCell W ⟨b, k, none⟩ u B (fun e => hne (by simpa using e))).trans h
theorem row_own {β : Type} (b : Nat) (t : TypeId) (f : β → List Value) : Own (fun s W => Row W b t (f s)) := fun s X Y row hs hg hrow =>
  (hg.block b hs.lt (fun e => by
    obtain ⟨o, ho, hc⟩ := hrow b e.symm
    unfold Row at hs
    rw [hs] at ho
    cases ho
    cases hc)).trans hs
/-- A round that ends in a store into a row of the caller's. -/
theorem round_row {T : TypeId} {n₀ : Nat} {W W1 : World} {b : Nat} {t : TypeId} {vs : List Value} (hg : Gr W W1) (h : Row W b t vs) (ht : (t == T) = false) (hn : n₀ ≤ W.heap.size) (hB : n₀ ≤ b) (k : Nat) (u : Value) :
    KeepsOthers W (W1.setCell ⟨b, k, none⟩ u) ∧ KM T n₀ W (W1.setCell ⟨b, k, none⟩ u) ∧ Row (W1.setCell ⟨b, k, none⟩ u) b t (vs.set k u) := by
  refine ⟨(KO_gr hg).trans (KeepsOthers.setCell _ _ _), (KM.gr hn hg).t ⟨(Below.refl _ _).setCell (p := ⟨b, k, none⟩) hB _, ?_⟩, (h.gr hg).set k u⟩
  refine KeepsT.grown (row := some b) ⟨rfl, rfl, rfl, (KeepsWalks.setCell W1 ⟨b, k, none⟩ u).size, fun i _ hi => Below.heap_setCell _ _ _ i (fun e => hi (by rw [e]))⟩ (fun r e => ?_)
  cases e
  exact ⟨_, h.gr hg, ht⟩

set_option maxRecDepth 100000 in
set_option maxHeartbeats 8000000 in
theorem ch_impl1 (A : Option Addr) (n c : Nat) (zs : List P3) (w : World) (hn : zs.length = n) (hN : n ≤ 16777216) (hA : Reads w w.heap.size A (cells3 zs)) (hW : Wf3 zs) (hv : gd zs = true) (hH : Hts w) :
    Calls Tryd.prog 36 #[.slice A n c] w fun e w' => (∃ v, e = .returned (.tuple #[v, .int .i64 0]) ∧ Lst w' w.heap.size v (cH (mks zs))) ∧ Below w.heap.size w w' := by
  have HG := Lib.hid (fun W (hg : Gr w W) => gd_impl A n c zs W hn hN (hA.gr hg) hW)
  rw [hv] at HG
  have HR := Lib.hid (fun W (hg : Gr w W) => (Rd3.of_reads (T := 39) hA).keep (KM.gr (Nat.le_refl _) hg))
  have HOK := Lib.hid (fun p hp => (gd_parts hv p hp).imp fun a (h : ptOk a p = true ∧ 1000 ≤ a) => (And.intro h.1 (show 0 ≤ a by omega)))
  have HM := Lib.hid (mks_facts hv)
  have HB9 := Lib.hid (mks_len9 hv)
  have HL := Lib.hid hn
  have HHT := Lib.hid hH
  have hgl : 2 < w.heap.size := World.block_lt_of_cell? w _ (hH 0 1 rfl)
  have hmk := mkInts5
  clear hA hW hv hn hH
  refine (callsIn_wide (n := 5)).1 ?_
  refine callsIn_of_wp_marks Tryd.func36 rfl trivial ?_ rfl
  simp only [Tryd.ntmps36, List.size_toArray, List.length_cons, List.length_nil, Nat.reduceAdd, Nat.reduceSub, Array.replicate_succ, Array.replicate_zero, List.push_toArray, List.append_toArray, List.nil_append, List.cons_append]
  gi_wp2_with (first
    | (refine ⟨trivial, ?_⟩; gi_at_call 22; refine (callsIn_wide.2 (HG.out _ (by repeat (first | with_reducible exact Gr.refl _ | with_reducible refine Gr.alloc ?_ _ | with_reducible refine Gr.gr ?_ _ _ | with_reducible refine Gr.drew ?_ | with_reducible refine Gr.drewN ?_ _)))).mono ?_; rintro e w' ⟨rfl, kk, os, rfl⟩)
    | (refine ⟨trivial, ?_⟩; gi_at_call 89; refine (callsIn_wide.2 (eachMark_any _ _ _ _)).mono ?_; rintro e w' ⟨rfl, rfl⟩))
  have G1 : Gr w (gr w kk os) := (by repeat (first | with_reducible exact Gr.refl _ | with_reducible refine Gr.alloc ?_ _ | with_reducible refine Gr.gr ?_ _ _ | with_reducible refine Gr.drew ?_ | with_reducible refine Gr.drewN ?_ _))
  generalize gr w kk os = W1 at *
  have hs1 := G1.below.size
  have HR0 : Row (((W1.alloc (.cells #[.int .i64 0, .int .i64 0, .int .i64 0, .int .i64 0, .int .i64 0] 2)).alloc (.cells #[.slice (some ⟨W1.heap.size, 0, none⟩) 5 5] 52)).alloc (.cells #[.slice A n c] 26)) W1.heap.size 2 ((cH []).map vi) := by
    rw [cH_nil]
    exact ((Row.new W1 2 [vi 0, vi 0, vi 0, vi 0, vi 0]).gr ((Gr.refl _).alloc _)).gr ((Gr.refl _).alloc _)
  have bC := (Boxed.new (W1.alloc (.cells #[.int .i64 0, .int .i64 0, .int .i64 0, .int .i64 0, .int .i64 0] 2)) 52 (.slice (some ⟨W1.heap.size, 0, none⟩) 5 5)).alloc (.cells #[.slice A n c] 26)
  have bP := (Boxed.new ((W1.alloc (.cells #[.int .i64 0, .int .i64 0, .int .i64 0, .int .i64 0, .int .i64 0] 2)).alloc (.cells #[.slice (some ⟨W1.heap.size, 0, none⟩) 5 5] 52)) 26 (.slice A n c)).cell
  have G2 := ((G1.alloc (.cells #[.int .i64 0, .int .i64 0, .int .i64 0, .int .i64 0, .int .i64 0] 2)).alloc (.cells #[.slice (some ⟨W1.heap.size, 0, none⟩) 5 5] 52)).alloc (.cells #[.slice A n c] 26)
  have hs2 : (((W1.alloc (.cells #[.int .i64 0, .int .i64 0, .int .i64 0, .int .i64 0, .int .i64 0] 2)).alloc (.cells #[.slice (some ⟨W1.heap.size, 0, none⟩) 5 5] 52)).alloc (.cells #[.slice A n c] 26)).heap.size = W1.heap.size + 1 + 1 + 1 := by simp
  simp only [World.size_alloc] at bC bP
  clear G1 hmk
  generalize ((W1.alloc (.cells #[.int .i64 0, .int .i64 0, .int .i64 0, .int .i64 0, .int .i64 0] 2)).alloc (.cells #[.slice (some ⟨W1.heap.size, 0, none⟩) 5 5] 52)).alloc (.cells #[.slice A n c] 26) = W0 at *
  generalize W1.heap.size = S at *
  generalize hbl : S + 1 = bl at *
  generalize hbp : bl + 1 = bp at *
  refine wpIn_rangeFunc_ownF rfl (by omega) (gf := 143) (lb := #[.pointer (some ⟨bp, 0, none⟩)]) rfl trivial (enters_of Tryd.func143 (by kernel_rfl) rfl)
    (marks_stops (5 - 1) (by omega) w.heap.size A n c zs HL.out hN HOK.out bp W0 bP (by omega) (HR.out _ G2)) KM.t (KM.b (by omega)) (Below.refl _ _) (fun _ => rfl)
    (fun pre W => ((Boxed W bl 52 (.slice (some ⟨S, 0, none⟩) 5 5) ∧ Row W S 2 ((cH (unM pre)).map vi)) ∧ Hts W) ∧ Below w.heap.size w W)
    (fun _ _ _ => False)
    (OwnFrom.and (OwnFrom.and (OwnFrom.and (Own.from (boxed_own _ _ (fun _ => .slice (some ⟨S, 0, none⟩) 5 5)) _) (Own.from (row_own _ _ (fun pre => (cH (unM pre)).map vi)) _)) (hts_from _ (by omega))) (ownFrom_below (Nat.le_refl _) (by omega)))
    (fun _ _ _ _ _ hs _ _ => hs)
    ⟨⟨⟨bC, HR0⟩, HHT.out.gr G2⟩, G2.below⟩
    (fun y => { tmps := #[.slice A n c, undef, .slice none 0 0, .int .i64 0, .pointer (some ⟨bl, 0, none⟩), .int .i64 y.1, .slice A n c, .bool true, .bool false, .slice (some ⟨S, 0, none⟩) 5 5, .slice A n c, .func (.func 143) #[] #[.pointer (some ⟨bp, 0, none⟩)], .int .i64 y.1, undef, undef, undef, undef, undef, undef, undef, undef], defers := [] }) ?assign ?body ?done ?stop
  case assign =>
    intro l y W K hK
    gi_wp2
    exact hK
  case body =>
    rintro l pre y W ⟨⟨⟨b1, hrow⟩, hHW⟩, hB⟩ hlen
    have y1 := HM.out.2.1 y.1 y.2
    have HT := Lib.hid (unM_snoc pre y)
    obtain ⟨h1, h2⟩ := hgt_bd y.1
    obtain ⟨j, hj⟩ : ∃ j : Nat, hgt y.1 = (j : Int) := ⟨(hgt y.1).toNat, by omega⟩
    have HH := Lib.hid (fun W hW => hgt_impl y.1 W (by omega) (by omega) hW)
    rw [hj] at HH
    have hj5 : j < 5 := by omega
    have hj5' : (j : Int) < 5 := by omega
    have HS := Lib.hid (cH_snoc (unM pre) y.1 j hj)
    have hcn := cHn_bd (unM pre) j
    have hml := HB9.out.1
    rw [unM_len] at hcn
    have hcl : cHn (unM pre) j < 9000 := by omega
    have c0 := hrow.cell j
    rw [List.getElem?_map, cH_at _ _ hj5] at c0
    simp only [Option.map_some] at c0
    have f0 := hrow.free j
    have hl0 := hrow.lt
    have HHW := Lib.hid hHW
    have HROW := Lib.hid hrow
    have HB0 := Lib.hid hB
    have hsW := hB.size
    have c1 := b1.cell
    have hl1 := b1.lt
    generalize cHn (unM pre) j = q at *
    obtain ⟨y, hy⟩ := y
    simp only at *
    clear hj h1 h2 hHW hrow hB
    gi_wp2
    (refine wpIn_region_quietT 7 (by kernel_rfl) (by kernel_rfl) (by kernel_rfl) ?_; simp only [List.take_succ_cons, List.take_zero, List.drop_succ_cons, List.drop_zero]; (repeat (refine wpQuietIn_step (fun _ _ _ _ => trivial) (fun K hK => ?_); go_simp; first | (refine hK _ ?_; clear hK K) | (apply Exists.intro; refine ⟨fun _ => ?_, hK _ ?_⟩; ((gi_at_call 111; with_reducible exact CallsIn.quiet_of_same (CallsIn.inRound l (callsIn_wide.2 ((HH.out _ (HHW.out.gr ((Gr.refl W).drewN _))).mono fun _ _ h => ⟨h.1, h.2.symm⟩))))); clear hK K))); refine wpQuietIn_nil ?_; intro nq)
    gi_wp2
    obtain ⟨r1, r2, r3⟩ := round_row (T := 39) ((Gr.refl W).drewN nq) HROW.out (by decide) hsW (by omega) j (.int .i64 (q + 1))
    exact ⟨r1, r2, ⟨⟨boxed_set (boxed_gr b1 ((Gr.refl W).drewN nq)) (by omega) _ _, by rw [HT.out, HS.out, List.map_set]; exact r3⟩, (HHW.out.gr ((Gr.refl W).drewN nq)).set (by omega) _ _⟩, HB0.out.trans r2.1⟩
  case done =>
    rintro D ys W hD hS ⟨⟨⟨b1, hrow⟩, hHW⟩, hB⟩ hK
    have c1 := b1.cell
    have hF : unM ys = mks zs := hS
    gi_wp2
    refine ⟨by simp, .inl ⟨_, _, rfl, run_takeDeferred hK, ?_⟩⟩
    have hr' : Row (W.putObj D (.deferred none)) S 2 ((cH (mks zs)).map vi) := by
      rw [← hF]
      exact row_own S 2 (fun (_ : Unit) => (cH (unM ys)).map vi) () W _ (some D) hrow (grownBy_putObj' W D _) (fun r e => by cases e; exact ⟨_, hK, rfl⟩)
    exact ⟨.tuple #[.slice (some ⟨S, 0, none⟩) 5 5, .int .i64 0], by simp [results, Tryd.results36, go_sem], ⟨_, rfl, Lst.of_row (rest := []) (by omega) (by rw [List.append_nil]; exact hr') (by unfold maxLen; omega) rfl⟩, hB.trans (belowK_b (w := w) (Nat.le_refl _) W D _ _ (by omega) hK rfl rfl)⟩
  case stop =>
    rintro D c pre W _ _ h _
    exact h.elim
theorem ch_impl (A : Option Addr) (n c : Nat) (zs : List P3) (w : World) (hn : zs.length = n) (hN : n ≤ 16777216) (hA : Reads w w.heap.size A (cells3 zs)) (hW : Wf3 zs) (hH : Hts w) :
    Calls Tryd.prog 36 #[.slice A n c] w fun e w' => (∃ v, e = .returned (.tuple #[v, .int .i64 (cmE zs)]) ∧ Lst w' w.heap.size v (chL zs)) ∧ Below w.heap.size w w' := by
  rcases Bool.eq_false_or_eq_true (gd zs) with hv | hv
  · have HC := show cmE zs = 0 ∧ chL zs = cH (mks zs) by unfold cmE chL; rw [hv]; exact ⟨rfl, rfl⟩
    rw [HC.1, HC.2]
    exact ch_impl1 A n c zs w hn hN hA hW hv hH
  · have HG := Lib.hid (gd_impl A n c zs w hn hN hA hW)
    have HC := Lib.hid (show cmE zs = 1 ∧ chL zs = [] by unfold cmE chL; rw [hv]; exact ⟨rfl, rfl⟩)
    have HNIL := Lib.hid (fun W => World.ownsRow_nil W w.heap.size 2 1)
    rw [hv] at HG
    clear hv hA hn hH
    go_enter Tryd.func36, Tryd.ntmps36
    go_wp2_with (go_at_call 22; refine (HG.out).mono ?_; rintro e w' ⟨rfl, kk, os, rfl⟩)
    ((try simp only [Exit.inBlock, Exit.then]); refine bodyPost_ret (v := .tuple #[.slice none 0 0, .int .i64 1]) (by simp [results, Tryd.results36, go_sem]) rfl ?_)
    exact ⟨⟨_, by rw [HC.out.1], by rw [HC.out.2]; exact HNIL.out _⟩, Gr.below (by repeat (first | with_reducible exact Gr.refl _ | with_reducible refine Gr.alloc ?_ _ | with_reducible refine Gr.gr ?_ _ _ | with_reducible refine Gr.drew ?_ | with_reducible refine Gr.drewN ?_ _))⟩
end Go.Proofs.YtggflladheemoaaDoor
