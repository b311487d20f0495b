/- Contracts of chapter 4: the figures next to a logarithm, in the program and in the model. -/
import Derived.Test.YtphebmbapllinaaC04a
namespace Go.Proofs.Ytphebmbapllinaa
open Go.RowKit Go.Shelf
set_option linter.unusedVariables false
set_option linter.unusedSimpArgs false

/-- The two conditions of the program, as function values over the box of u. -/
def clos4 (hi : Bool) (b : Nat) : Value := if hi then .func (.func 103) #[] #[.pointer (some ⟨b, 0, none⟩)] else .func (.func 105) #[] #[.pointer (some ⟨b, 0, none⟩)]
theorem clos4_t (b : Nat) : clos4 true b = .func (.func 103) #[] #[.pointer (some ⟨b, 0, none⟩)] := rfl
theorem clos4_f (b : Nat) : clos4 false b = .func (.func 105) #[] #[.pointer (some ⟨b, 0, none⟩)] := rfl

theorem below1_any (l h u : Int) (b : Nat) (w : World) (hc : w.cell? ⟨b, 0, none⟩ = some (.int .i64 u)) :
    Calls Try.prog 103 #[.agg #[.int .i64 l, .int .i64 h], .pointer (some ⟨b, 0, none⟩)] w fun e w' => e = .returned (.bool (decide (u < h))) ∧ Gr w w' := by
  have lb : b < w.heap.size := World.block_lt_of_cell? _ _ hc
  go_enter Try.func103, Try.ntmps103
  go_wp2
  go_ret
  exact ⟨rfl, (by repeat (first | with_reducible exact Gr.refl _ | with_reducible refine Gr.alloc ?_ _ | with_reducible refine Gr.gr ?_ _ _ | with_reducible refine Gr.drew ?_ | with_reducible refine Gr.drewN ?_ _))⟩
theorem above1_any (l h u : Int) (b : Nat) (w : World) (hc : w.cell? ⟨b, 0, none⟩ = some (.int .i64 u)) :
    Calls Try.prog 105 #[.agg #[.int .i64 l, .int .i64 h], .pointer (some ⟨b, 0, none⟩)] w fun e w' => e = .returned (.bool (decide (u ≤ l))) ∧ Gr w w' := by
  have lb : b < w.heap.size := World.block_lt_of_cell? _ _ hc
  go_enter Try.func105, Try.ntmps105
  go_wp2
  go_ret
  exact ⟨rfl, (by repeat (first | with_reducible exact Gr.refl _ | with_reducible refine Gr.alloc ?_ _ | with_reducible refine Gr.gr ?_ _ _ | with_reducible refine Gr.drew ?_ | with_reducible refine Gr.drewN ?_ _))⟩

theorem cell_after {w : World} {b : Nat} {v : Value} (o : Obj) (k : Nat) (os : Array Obj) (lb : b < w.heap.size) (h : w.cell? ⟨b, 0, none⟩ = some v) : (gr (w.alloc o) k os).cell? ⟨b, 0, none⟩ = some v :=
  (gr_cell _ _ _ _ _ (by simp; omega)).trans ((((Below.refl _ w).alloc (Nat.le_refl _) o).cell (p := ⟨b, 0, none⟩) lb).trans h)

theorem numbered_i (i : Int) (w : World) (h1 : -1000000000 ≤ i) (h2 : i ≤ 1000000000) :
    Calls Try.prog 104 #[.int .i64 i] w fun e w' => e = .returned (.tuple #[.agg #[.int .i64 (nfR (i - 270000)).1.1, .int .i64 (nfR (i - 270000)).1.2], .int .i64 (nfR (i - 270000)).2]) ∧ Gr w w' := by
  have := numbered_any (i - 270000) w (by omega) (by omega)
  rwa [show i - 270000 + 270000 = i by omega] at this

set_option maxHeartbeats 1000000 in
/-- The program's condition for a number. -/
theorem cond_any (hi : Bool) (u : Int) (b c i : Nat) (hi' : i < NF) (w : World) (hcl : w.cell? ⟨c, 0, none⟩ = some (clos4 hi b)) (hu : w.cell? ⟨b, 0, none⟩ = some (.int .i64 u)) :
    Calls Try.prog 115 #[.int .i64 i, .pointer (some ⟨c, 0, none⟩)] w fun e w' => e = .returned (.bool (pq hi u i)) ∧ Gr w w' := by
  have lb : b < w.heap.size := World.block_lt_of_cell? _ _ hu
  have lc : c < w.heap.size := World.block_lt_of_cell? _ _ hcl
  rw [NF_eq] at hi'
  have hN := numbered_i i w (by omega) (by omega)
  rw [nfR_ok _ (by omega)] at hN
  have E := Lib.hid (fn_fg ((i : Int) - 270000) (by omega) (by omega))
  have T := Lib.hid (ovr_t u ((i : Int) - 270000))
  have F := Lib.hid (ovr_f u ((i : Int) - 270000))
  rw [fnl_eq] at T F
  rw [pq_eq]
  simp only at hN
  generalize 1000 + ((i : Int) - 270000) % 9000 = d at *
  generalize ((i : Int) - 270000) / 9000 = t at *
  have L := Lib.hid (fun W => figLog_any d t W E.out)
  clear E
  generalize (flg d t).1 = x at *
  generalize (flg d t).2 = y at *
  cases hi
  · rw [F.out]
    rw [clos4_f] at hcl
    clear T F
    go_enter Try.func115, Try.ntmps115
    go_wp2_with (go_at_call 104; refine hN.mono ?_; rintro e w1 ⟨rfl, hg⟩)
    have lb1 : b < w1.heap.size := Nat.lt_of_lt_of_le lb hg.below.size
    have lc1 : c < w1.heap.size := Nat.lt_of_lt_of_le lc hg.below.size
    have hcl1 := (hg.below.cell (p := ⟨c, 0, none⟩) lc).trans hcl
    have hu1 := (hg.below.cell (p := ⟨b, 0, none⟩) lb).trans hu
    clear hN hcl hu lb lc
    ((first | refine region_gr_on (by kernel_rfl) (by kernel_rfl) ?_ | refine region_gr (by kernel_rfl) (by kernel_rfl) ?_); (repeat (quiet_step (first | exact Calls.gr_of (L.out _) | exact Calls.gr_of (above1_any _ _ u b _ (cell_after _ _ _ lb1 hu1))))); refine wpQuiet_nil ?_; intro _ hw'; obtain ⟨⟨kq, oq⟩, hw''⟩ := hw'; subst hw'')
    go_wp2
    go_ret
    exact ⟨rfl, hg.trans (by repeat (first | with_reducible exact Gr.refl _ | with_reducible refine Gr.alloc ?_ _ | with_reducible refine Gr.gr ?_ _ _ | with_reducible refine Gr.drew ?_ | with_reducible refine Gr.drewN ?_ _))⟩
  · rw [T.out]
    rw [clos4_t] at hcl
    clear T F
    go_enter Try.func115, Try.ntmps115
    go_wp2_with (go_at_call 104; refine hN.mono ?_; rintro e w1 ⟨rfl, hg⟩)
    have lb1 : b < w1.heap.size := Nat.lt_of_lt_of_le lb hg.below.size
    have lc1 : c < w1.heap.size := Nat.lt_of_lt_of_le lc hg.below.size
    have hcl1 := (hg.below.cell (p := ⟨c, 0, none⟩) lc).trans hcl
    have hu1 := (hg.below.cell (p := ⟨b, 0, none⟩) lb).trans hu
    clear hN hcl hu lb lc
    ((first | refine region_gr_on (by kernel_rfl) (by kernel_rfl) ?_ | refine region_gr (by kernel_rfl) (by kernel_rfl) ?_); (repeat (quiet_step (first | exact Calls.gr_of (L.out _) | exact Calls.gr_of (below1_any _ _ u b _ (cell_after _ _ _ lb1 hu1))))); refine wpQuiet_nil ?_; intro _ hw'; obtain ⟨⟨kq, oq⟩, hw''⟩ := hw'; subst hw'')
    go_wp2
    go_ret
    exact ⟨rfl, hg.trans (by repeat (first | with_reducible exact Gr.refl _ | with_reducible refine Gr.alloc ?_ _ | with_reducible refine Gr.gr ?_ _ _ | with_reducible refine Gr.drew ?_ | with_reducible refine Gr.drewN ?_ _))⟩

set_option maxHeartbeats 1000000 in
/-- The program's search. -/
theorem firstFig_any (hi : Bool) (u : Int) (b : Nat) (w : World) (hu : w.cell? ⟨b, 0, none⟩ = some (.int .i64 u)) :
    Calls Try.prog 102 #[clos4 hi b] w fun e w' => e = .returned (.int .i64 (ff hi u + 270000)) ∧ Gr w w' := by
  have lb : b < w.heap.size := World.block_lt_of_cell? _ _ hu
  obtain ⟨W, hW⟩ : ∃ W, W = w.alloc (.cells #[clos4 hi b] 76) := ⟨_, rfl⟩
  have cc : W.cell? ⟨w.heap.size, 0, none⟩ = some (clos4 hi b) := by rw [hW]; go_simp
  have cu : W.cell? ⟨b, 0, none⟩ = some (.int .i64 u) := by rw [hW]; exact (((Below.refl _ w).alloc (Nat.le_refl _) _).cell (p := ⟨b, 0, none⟩) lb).trans hu
  have lw : w.heap.size < W.heap.size := World.block_lt_of_cell? _ _ cc
  have lu : b < W.heap.size := World.block_lt_of_cell? _ _ cu
  have hS := search_any 115 #[.pointer (some ⟨w.heap.size, 0, none⟩)] NF (by rw [NF_eq]; omega) (pq hi u) W (enters_of Try.func115 (by kernel_rfl) rfl)
    (fun V hV i hi' => cond_any hi u b w.heap.size i hi' V ((hV.below.cell (p := ⟨w.heap.size, 0, none⟩) lw).trans cc) ((hV.below.cell (p := ⟨b, 0, none⟩) lu).trans cu)) (pq_mono hi u)
  rw [show ((NF : Nat) : Int) = 549000 from rfl, show ((cntF (pq hi u) NF : Nat) : Int) = ff hi u + 270000 by rw [ff_eq]; omega] at hS
  have S := Lib.hid hS
  clear hS cc cu lw lu
  cases hi
  · rw [clos4_f] at *
    go_enter Try.func102, Try.ntmps102
    go_wp2_with (go_at_call 114; rw [← hW]; refine S.out.mono ?_; rintro e w' ⟨rfl, hg⟩)
    go_ret
    exact ⟨rfl, by rw [hW] at hg; exact (Gr.alloc (Gr.refl _) _).trans hg⟩
  · rw [clos4_t] at *
    go_enter Try.func102, Try.ntmps102
    go_wp2_with (go_at_call 114; rw [← hW]; refine S.out.mono ?_; rintro e w' ⟨rfl, hg⟩)
    go_ret
    exact ⟨rfl, by rw [hW] at hg; exact (Gr.alloc (Gr.refl _) _).trans hg⟩

set_option maxHeartbeats 1000000 in
theorem fbR_impl (u : Int) (w : World) :
    Calls Try.prog 81 #[.int .i64 u] w fun e w' => e = .returned (.tuple #[.agg #[.int .i64 (fbR u).1.1, .int .i64 (fbR u).1.2], .int .i64 (fbR u).2]) ∧ Gr w w' := by
  have e1 : un u = true ∨ un u = false := by cases un u <;> simp
  rcases e1 with e1 | e1
  · have H := Lib.hid (fbR_ok u e1)
    have E := Lib.hid e1
    have fb := ff_bd true u
    have hF := Lib.hid (fun W (h : W.cell? ⟨w.heap.size, 0, none⟩ = some (.int .i64 u)) => firstFig_any true u w.heap.size W h)
    rw [clos4_t] at hF
    clear e1
    generalize hf : ff true u = f at *
    have hn := Lib.hid (fun W => numbered_i (f + 270000 - 1) W (by omega) (by omega))
    rw [show f + 270000 - 1 - 270000 = f - 1 by omega] at hn
    go_enter Try.func81, Try.ntmps81
    go_wp2_with (first
      | (go_at_call 80; refine (areUnits_any _ _).mono ?_; rw [E.out]; rintro e w' ⟨rfl, rfl⟩)
      | (go_at_call 102; refine (hF.out _ ?_).mono ?_; · go_simp
         rintro e w' ⟨rfl, k, os, rfl⟩)
      | (go_at_call 104; refine (hn.out _).mono ?_; rintro e w' ⟨rfl, k, os, rfl⟩))
    ((try simp only [Exit.inBlock, Exit.then]); refine bodyPost_ret (v := .tuple #[.agg #[.int .i64 (nfR (f - 1)).1.1, .int .i64 (nfR (f - 1)).1.2], .int .i64 (nfR (f - 1)).2]) (by simp [results, Try.results81, go_sem]) rfl ?_)
    exact ⟨ret_fig (by rw [H.out]) (by rw [H.out]) (by rw [H.out]), (by repeat (first | with_reducible exact Gr.refl _ | with_reducible refine Gr.alloc ?_ _ | with_reducible refine Gr.gr ?_ _ _ | with_reducible refine Gr.drew ?_ | with_reducible refine Gr.drewN ?_ _))⟩
  · have H := Lib.hid (fbR_no u e1)
    have E := Lib.hid e1
    clear e1
    go_enter Try.func81, Try.ntmps81
    go_wp2_with (go_at_call 80; refine (areUnits_any _ _).mono ?_; rw [E.out]; rintro e w' ⟨rfl, rfl⟩)
    ((try simp only [Exit.inBlock, Exit.then]); refine bodyPost_ret (v := .tuple #[.agg #[.int .i64 0, .int .i64 0], .int .i64 2]) (by simp [results, Try.results81, go_sem]) rfl ?_)
    exact ⟨ret_fig (by rw [H.out]) (by rw [H.out]) (by rw [H.out]), (by repeat (first | with_reducible exact Gr.refl _ | with_reducible refine Gr.alloc ?_ _ | with_reducible refine Gr.gr ?_ _ _ | with_reducible refine Gr.drew ?_ | with_reducible refine Gr.drewN ?_ _))⟩

set_option maxHeartbeats 1000000 in
theorem faR_impl (u : Int) (w : World) :
    Calls Try.prog 82 #[.int .i64 u] w fun e w' => e = .returned (.tuple #[.agg #[.int .i64 (faR u).1.1, .int .i64 (faR u).1.2], .int .i64 (faR u).2]) ∧ Gr w w' := by
  have e1 : un u = true ∨ un u = false := by cases un u <;> simp
  rcases e1 with e1 | e1
  · have H := Lib.hid (faR_ok u e1)
    have E := Lib.hid e1
    have fb := ff_bd false u
    have hF := Lib.hid (fun W (h : W.cell? ⟨w.heap.size, 0, none⟩ = some (.int .i64 u)) => firstFig_any false u w.heap.size W h)
    rw [clos4_f] at hF
    clear e1
    generalize hf : ff false u = f at *
    have hn := Lib.hid (fun W => numbered_i (f + 270000) W (by omega) (by omega))
    rw [show f + 270000 - 270000 = f by omega] at hn
    go_enter Try.func82, Try.ntmps82
    go_wp2_with (first
      | (go_at_call 80; refine (areUnits_any _ _).mono ?_; rw [E.out]; rintro e w' ⟨rfl, rfl⟩)
      | (go_at_call 102; refine (hF.out _ ?_).mono ?_; · go_simp
         rintro e w' ⟨rfl, k, os, rfl⟩)
      | (go_at_call 104; refine (hn.out _).mono ?_; rintro e w' ⟨rfl, k, os, rfl⟩))
    ((try simp only [Exit.inBlock, Exit.then]); refine bodyPost_ret (v := .tuple #[.agg #[.int .i64 (nfR f).1.1, .int .i64 (nfR f).1.2], .int .i64 (nfR f).2]) (by simp [results, Try.results82, go_sem]) rfl ?_)
    exact ⟨ret_fig (by rw [H.out]) (by rw [H.out]) (by rw [H.out]), (by repeat (first | with_reducible exact Gr.refl _ | with_reducible refine Gr.alloc ?_ _ | with_reducible refine Gr.gr ?_ _ _ | with_reducible refine Gr.drew ?_ | with_reducible refine Gr.drewN ?_ _))⟩
  · have H := Lib.hid (faR_no u e1)
    have E := Lib.hid e1
    clear e1
    go_enter Try.func82, Try.ntmps82
    go_wp2_with (go_at_call 80; refine (areUnits_any _ _).mono ?_; rw [E.out]; rintro e w' ⟨rfl, rfl⟩)
    ((try simp only [Exit.inBlock, Exit.then]); refine bodyPost_ret (v := .tuple #[.agg #[.int .i64 0, .int .i64 0], .int .i64 2]) (by simp [results, Try.results82, go_sem]) rfl ?_)
    exact ⟨ret_fig (by rw [H.out]) (by rw [H.out]) (by rw [H.out]), (by repeat (first | with_reducible exact Gr.refl _ | with_reducible refine Gr.alloc ?_ _ | with_reducible refine Gr.gr ?_ _ _ | with_reducible refine Gr.drew ?_ | with_reducible refine Gr.drewN ?_ _))⟩

theorem below_spec (u : Int) (w : World) :
    Calls Try.prog 84 #[.int .i64 u] w fun e w' => e = .returned (.agg #[.int .i64 (1000 + (ff true u - 1) % 9000), .int .i64 ((ff true u - 1) / 9000)]) ∧ Gr w w' := by
  have fb := ff_bd true u
  have hf := Lib.hid (fun W => first_spec u true W)
  have ha := Lib.hid (fun W => at_spec (ff true u - 1) W (by omega) (by omega))
  generalize ff true u = f at *
  generalize 1000 + (f - 1) % 9000 = d at *
  generalize (f - 1) / 9000 = t at *
  go_enter Try.func84, Try.ntmps84
  go_wp2_with (first
    | (go_at_call 107; refine (hf.out _).mono ?_; rintro e w' ⟨rfl, k, os, rfl⟩)
    | (go_at_call 106; refine (ha.out _).mono ?_; rintro e w' ⟨rfl, k, os, rfl⟩))
  ((try simp only [Exit.inBlock, Exit.then]); refine bodyPost_ret (v := .agg #[.int .i64 d, .int .i64 t]) (by simp [results, Try.results84, go_sem]) rfl ?_)
  exact ⟨rfl, (by repeat (first | with_reducible exact Gr.refl _ | with_reducible refine Gr.alloc ?_ _ | with_reducible refine Gr.gr ?_ _ _ | with_reducible refine Gr.drew ?_ | with_reducible refine Gr.drewN ?_ _))⟩
theorem above_spec (u : Int) (w : World) :
    Calls Try.prog 85 #[.int .i64 u] w fun e w' => e = .returned (.agg #[.int .i64 (1000 + (ff false u) % 9000), .int .i64 ((ff false u) / 9000)]) ∧ Gr w w' := by
  have fb := ff_bd false u
  have hf := Lib.hid (fun W => first_spec u false W)
  have ha := Lib.hid (fun W => at_spec (ff false u) W (by omega) (by omega))
  generalize ff false u = f at *
  generalize 1000 + f % 9000 = d at *
  generalize f / 9000 = t at *
  go_enter Try.func85, Try.ntmps85
  go_wp2_with (first
    | (go_at_call 107; refine (hf.out _).mono ?_; rintro e w' ⟨rfl, k, os, rfl⟩)
    | (go_at_call 106; refine (ha.out _).mono ?_; rintro e w' ⟨rfl, k, os, rfl⟩))
  ((try simp only [Exit.inBlock, Exit.then]); refine bodyPost_ret (v := .agg #[.int .i64 d, .int .i64 t]) (by simp [results, Try.results85, go_sem]) rfl ?_)
  exact ⟨rfl, (by repeat (first | with_reducible exact Gr.refl _ | with_reducible refine Gr.alloc ?_ _ | with_reducible refine Gr.gr ?_ _ _ | with_reducible refine Gr.drew ?_ | with_reducible refine Gr.drewN ?_ _))⟩

end Go.Proofs.Ytphebmbapllinaa
