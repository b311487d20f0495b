/- Contracts of chapter 7: the program's nearest mark. -/
import Derived.Test.YtggflladheemoaaC07g
import Derived.Test.YtggflladheemoaaRq
namespace Go.Proofs.Ytggflladheemoaa
open Go.RowKit Go.Shelf
set_option linter.unusedVariables false
set_option linter.unusedSimpArgs false
attribute [local go_sem] Oper.semAt_some

set_option maxRecDepth 100000 in
set_option maxHeartbeats 4000000 in
/-- The main case: a valid graduation, a number in its range. -/
theorem nm_impl1 (A : Option Addr) (n c : Nat) (zs : List P3) (m : Int) (w : World) (hn : zs.length = n) (hN : n ≤ 16777216) (hA : Reads w w.heap.size A (cells3 zs)) (hW : Wf3 zs) (hv : gd zs = true) (hd : decide (1000 ≤ m ∧ m ≤ 9999) = true) :
    Calls Try.prog 15 #[.slice A n c, .int .i64 m] w fun e w' => e = .returned (.tuple #[.int .i64 (nrM zs m), .int .i64 0]) ∧ Below w.heap.size w w' := by
  have HG := Lib.hid (fun W (hg : Gr w W) => gd_impl A n c zs W hn hN (hA.gr hg) hW)
  rw [hv] at HG
  have HDg := Lib.hid (fun W => areDigits_any m W)
  rw [hd] at HDg
  have HR := Lib.hid (fun W (hg : Gr w W) => (Rd3.of_reads (T := 65) hA).keep (KM.gr (Nat.le_refl _) hg))
  have HOK := Lib.hid (fun p hp => (gd_parts hv p hp).imp fun a (h : ptOk a p = true ∧ 1000 ≤ a) => (And.intro h.1 (show 0 ≤ a by omega)))
  have HM := Lib.hid (mks_facts hv)
  have hm := of_decide_eq_true hd
  have HL := Lib.hid hn
  clear hA hW hv hd hn
  refine (callsIn_wide (n := 5)).1 ?_
  refine callsIn_of_wp_marks Try.func15 rfl trivial ?_ rfl
  simp only [Try.ntmps15, List.size_toArray, List.length_cons, List.length_nil, Nat.reduceAdd, Nat.reduceSub, Array.replicate_succ, Array.replicate_zero, List.push_toArray, List.append_toArray, List.nil_append, List.cons_append]
  gi_wp2_with (first
    | (refine ⟨trivial, ?_⟩; gi_at_call 21; refine (callsIn_wide.2 (HG.out _ (by repeat (first | with_reducible exact Gr.refl _ | with_reducible refine Gr.alloc ?_ _ | with_reducible refine Gr.gr ?_ _ _ | with_reducible refine Gr.drew ?_ | with_reducible refine Gr.drewN ?_ _)))).mono ?_; rintro e w' ⟨rfl, kk, os, rfl⟩)
    | (refine ⟨trivial, ?_⟩; gi_at_call 47; refine (callsIn_wide.2 (HDg.out _)).mono ?_; rintro e w' ⟨rfl, rfl⟩)
    | (refine ⟨trivial, ?_⟩; gi_at_call 48; refine (callsIn_wide.2 (eachMark_any _ _ _ _)).mono ?_; rintro e w' ⟨rfl, rfl⟩))
  have bM : Boxed (gr (w.alloc (.cells #[.int .i64 m] 2)) kk os) w.heap.size 2 (.int .i64 m) := boxed_gr (Boxed.new w _ _) ⟨kk, os, rfl⟩
  have G1 : Gr w (gr (w.alloc (.cells #[.int .i64 m] 2)) kk os) := (by repeat (first | with_reducible exact Gr.refl _ | with_reducible refine Gr.alloc ?_ _ | with_reducible refine Gr.gr ?_ _ _ | with_reducible refine Gr.drew ?_ | with_reducible refine Gr.drewN ?_ _))
  generalize gr (w.alloc (.cells #[.int .i64 m] 2)) kk os = W1 at *
  have hs1 := bM.lt
  have bM2 := (bM.alloc (.cells #[.int .i64 1000] 2)).alloc (.cells #[.slice A n c] 24)
  have bN2 := (Boxed.new W1 2 (.int .i64 1000)).alloc (.cells #[.slice A n c] 24)
  have bP2 := (Boxed.new (W1.alloc (.cells #[.int .i64 1000] 2)) 24 (.slice A n c)).cell
  have G2 := (G1.alloc (.cells #[.int .i64 1000] 2)).alloc (.cells #[.slice A n c] 24)
  have hs2 : ((W1.alloc (.cells #[.int .i64 1000] 2)).alloc (.cells #[.slice A n c] 24)).heap.size = W1.heap.size + 2 := by simp
  rw [World.size_alloc] at bP2
  clear bM G1
  generalize (W1.alloc (.cells #[.int .i64 1000] 2)).alloc (.cells #[.slice A n c] 24) = W0 at *
  generalize W1.heap.size = bn at *
  refine wpIn_rangeFunc_ownF rfl (by omega) (gf := 65) (lb := #[.pointer (some ⟨bn + 1, 0, none⟩)]) rfl trivial (enters_of Try.func65 (by kernel_rfl) rfl)
    (marks_stops (5 - 1) (by omega) w.heap.size A n c zs HL.out hN HOK.out (bn + 1) W0 bP2 (by omega) (HR.out _ G2)) KM.t (KM.b (by omega)) (Below.refl _ _) (fun _ => rfl)
    (fun pre W => (Boxed W w.heap.size 2 (.int .i64 m) ∧ Boxed W bn 2 (.int .i64 (nrS m 1000 (unM pre)))) ∧ Below w.heap.size w W)
    (fun _ _ _ => False)
    (OwnFrom.and (OwnFrom.and (Own.from (boxed_own _ _ (fun _ => .int .i64 m)) _) (Own.from (boxed_own _ _ (fun pre => .int .i64 (nrS m 1000 (unM pre)))) _)) (ownFrom_below (Nat.le_refl _) (by omega)))
    (fun _ _ _ _ _ hs _ _ => hs)
    ⟨⟨bM2, bN2⟩, G2.below⟩
    (fun y => { tmps := #[.slice A n c, .int .i64 m, undef, .pointer (some ⟨w.heap.size, 0, none⟩), .int .i64 0, .int .i64 0, .pointer (some ⟨bn, 0, none⟩), .int .i64 y.1, .slice A n c, .bool true, .bool false, .int .i64 m, .bool true, .bool false, .slice A n c, .func (.func 65) #[] #[.pointer (some ⟨bn + 1, 0, none⟩)], .int .i64 y.1, undef, undef, undef, undef, undef, undef, undef, undef, undef], defers := [] }) ?assign ?body ?done ?stop
  case assign =>
    intro l y W K hK
    gi_wp2
    exact hK
  case body =>
    rintro l pre y W ⟨⟨b1, b2⟩, hB⟩ hlen
    have y1 := HM.out.2.1 y.1 y.2
    have y2 := nrS_in m (unM pre) (fun x hx => by
      obtain ⟨q, -, rfl⟩ := List.mem_map.1 hx
      exact HM.out.2.1 q.1 q.2)
    have HD1 := Lib.hid (fun W => distance_any y.1 m W (by omega) (by omega) (by omega) (by omega))
    have HD2 := Lib.hid (fun W => distance_any (nrS m 1000 (unM pre)) m W (by omega) (by omega) (by omega) (by omega))
    have HT := Lib.hid (unM_snoc pre y)
    have HS := Lib.hid (nrS_snoc m (unM pre) 1000 y.1)
    generalize nrS m 1000 (unM pre) = nb at *
    have c1 := b1.cell
    have c2 := b2.cell
    have f2 := b2.frozen
    obtain ⟨y, hy⟩ := y
    simp only at *
    by_cases hc : (y - m).natAbs < (nb - m).natAbs
    · rw [if_pos hc] at HS
      gi_wp2
      (refine wpIn_region_quietR_lit (by kernel_rfl) (by kernel_rfl) (by kernel_rfl) ?_; (repeat (refine wpQuietIn_step (fun _ _ _ _ => trivial) (fun K hK => ?_); go_simp; first | (refine hK _ ?_; clear hK K) | (apply Exists.intro; refine ⟨fun _ => ?_, hK _ ?_⟩; (first | (gi_at_call 51; with_reducible exact CallsIn.quiet_of_same (CallsIn.inRound l (callsIn_wide.2 ((HD1.out _).mono fun _ _ h => ⟨h.1, h.2.symm⟩)))) | (gi_at_call 51; with_reducible exact CallsIn.quiet_of_same (CallsIn.inRound l (callsIn_wide.2 ((HD2.out _).mono fun _ _ h => ⟨h.1, h.2.symm⟩))))); clear hK K))); refine wpQuietIn_nil ?_; intro _ hw'; obtain ⟨nq, hw''⟩ := hw'; subst hw'')
      gi_wp2
      obtain ⟨r1, r2, r3⟩ := round_set (T := 65) ((Gr.refl W).drewN nq) b2 (by decide) hB.size (by omega) (.int .i64 y)
      exact ⟨r1, r2, ⟨(boxed_gr b1 ((Gr.refl W).drewN nq)).other (by omega) _, by rw [HT.out, HS.out]; exact r3⟩, hB.trans r2.1⟩
    · rw [if_neg hc] at HS
      gi_wp2
      (refine wpIn_region_quietR_lit (by kernel_rfl) (by kernel_rfl) (by kernel_rfl) ?_; (repeat (refine wpQuietIn_step (fun _ _ _ _ => trivial) (fun K hK => ?_); go_simp; first | (refine hK _ ?_; clear hK K) | (apply Exists.intro; refine ⟨fun _ => ?_, hK _ ?_⟩; (first | (gi_at_call 51; with_reducible exact CallsIn.quiet_of_same (CallsIn.inRound l (callsIn_wide.2 ((HD1.out _).mono fun _ _ h => ⟨h.1, h.2.symm⟩)))) | (gi_at_call 51; with_reducible exact CallsIn.quiet_of_same (CallsIn.inRound l (callsIn_wide.2 ((HD2.out _).mono fun _ _ h => ⟨h.1, h.2.symm⟩))))); clear hK K))); refine wpQuietIn_nil ?_; intro _ hw'; obtain ⟨nq, hw''⟩ := hw'; subst hw'')
      gi_wp2
      exact ⟨KO_gr ((Gr.refl W).drewN nq), KM.gr hB.size ((Gr.refl W).drewN nq), ⟨boxed_gr b1 ((Gr.refl W).drewN nq), by rw [HT.out, HS.out]; exact boxed_gr b2 ((Gr.refl W).drewN nq)⟩, hB.trans (((Gr.refl W).drewN nq).below.mono hB.size)⟩
  case done =>
    rintro D ys W hD hS ⟨⟨b1, b2⟩, hB⟩ hK
    have c2 := b2.cell
    gi_wp2
    refine ⟨by simp, .inl ⟨_, _, rfl, run_takeDeferred hK, ?_⟩⟩
    exact ⟨.tuple #[.int .i64 (nrS m 1000 (mks zs)), .int .i64 0], by simp [results, Try.results15, go_sem], rfl, hB.trans (belowK_b (w := w) (Nat.le_refl _) W D _ _ (by omega) hK rfl rfl)⟩
  case stop =>
    rintro D c pre W _ _ h _
    exact h.elim
set_option maxRecDepth 100000 in
set_option maxHeartbeats 2000000 in
theorem nm_impl (A : Option Addr) (n c : Nat) (zs : List P3) (m : Int) (w : World) (hn : zs.length = n) (hN : n ≤ 16777216) (hA : Reads w w.heap.size A (cells3 zs)) (hW : Wf3 zs) :
    Calls Try.prog 15 #[.slice A n c, .int .i64 m] w fun e w' => e = .returned (.tuple #[.int .i64 (nmV zs m), .int .i64 (nmE zs m)]) ∧ Below w.heap.size w w' := by
  have HG := Lib.hid (fun W (hg : Gr w W) => gd_impl A n c zs W hn hN (hA.gr hg) hW)
  have HDg := Lib.hid (fun W => areDigits_any m W)
  rcases Bool.eq_false_or_eq_true (gd zs) with hv | hv
  · rcases decb7 (1000 ≤ m ∧ m ≤ 9999) with hd | hd
    · have HC := show nmV zs m = nrM zs m ∧ nmE zs m = 0 by unfold nmV nmE inD; rw [hv, hd]; exact ⟨rfl, rfl⟩
      rw [HC.1, HC.2]
      exact nm_impl1 A n c zs m w hn hN hA hW hv hd
    · have HC := Lib.hid (show nmV zs m = 0 ∧ nmE zs m = 2 by unfold nmV nmE inD; rw [hv, hd]; exact ⟨rfl, rfl⟩)
      rw [hv] at HG
      rw [hd] at HDg
      clear hv hd hA hn
      go_enter Try.func15, Try.ntmps15
      go_wp2_with (first | (go_at_call 21; refine (HG.out _ (by repeat (first | with_reducible exact Gr.refl _ | with_reducible refine Gr.alloc ?_ _ | with_reducible refine Gr.gr ?_ _ _ | with_reducible refine Gr.drew ?_ | with_reducible refine Gr.drewN ?_ _))).mono ?_; rintro e w' ⟨rfl, kk, os, rfl⟩) | (go_at_call 47; refine (HDg.out _).mono ?_; rintro e w' ⟨rfl, rfl⟩))
      ((try simp only [Exit.inBlock, Exit.then]); refine bodyPost_ret (v := .tuple #[.int .i64 0, .int .i64 2]) (by simp [results, Try.results15, go_sem]) rfl ?_)
      exact ⟨ret_two HC.out.1.symm HC.out.2.symm, Gr.below (by repeat (first | with_reducible exact Gr.refl _ | with_reducible refine Gr.alloc ?_ _ | with_reducible refine Gr.gr ?_ _ _ | with_reducible refine Gr.drew ?_ | with_reducible refine Gr.drewN ?_ _))⟩
  · have HC := Lib.hid (show nmV zs m = 0 ∧ nmE zs m = 1 by unfold nmV nmE; rw [hv]; exact ⟨rfl, rfl⟩)
    rw [hv] at HG
    clear hv hA hn
    go_enter Try.func15, Try.ntmps15
    go_wp2_with (go_at_call 21; refine (HG.out _ (by repeat (first | with_reducible exact Gr.refl _ | with_reducible refine Gr.alloc ?_ _ | with_reducible refine Gr.gr ?_ _ _ | with_reducible refine Gr.drew ?_ | with_reducible refine Gr.drewN ?_ _))).mono ?_; rintro e w' ⟨rfl, kk, os, rfl⟩)
    ((try simp only [Exit.inBlock, Exit.then]); refine bodyPost_ret (v := .tuple #[.int .i64 0, .int .i64 1]) (by simp [results, Try.results15, go_sem]) rfl ?_)
    exact ⟨ret_two HC.out.1.symm HC.out.2.symm, Gr.below (by repeat (first | with_reducible exact Gr.refl _ | with_reducible refine Gr.alloc ?_ _ | with_reducible refine Gr.gr ?_ _ _ | with_reducible refine Gr.drew ?_ | with_reducible refine Gr.drewN ?_ _))⟩
end Go.Proofs.Ytggflladheemoaa
