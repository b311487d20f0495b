/- Contracts of chapter 11: the figure that is read at a point, in the program. -/
import Derived.Test.YtddcdodbmbmdnaaDoorC11d
import Derived.Test.YtddcdodbmbmdnaaDoorC04a
import Derived.Test.YtddcdodbmbmdnaaDoor1A
import Derived.Test.YtddcdodbmbmdnaaDoor2A
import Derived.Test.YtddcdodbmbmdnaaDoorFg
import Derived.BigQuiet
namespace Go.Proofs.YtddcdodbmbmdnaaDoor
open Go.RowKit
set_option linter.unusedVariables false
set_option linter.unusedSimpArgs false

theorem bySz_any (a b c d : Int) (w : World) (h1 : -1000000 ≤ a) (h2 : a ≤ 1000000) (h3 : -1000000 ≤ b) (h4 : b ≤ 1000000) (h5 : -1000000 ≤ c) (h6 : c ≤ 1000000) (h7 : -1000000 ≤ d) (h8 : d ≤ 1000000) :
    Calls Tryd.prog 115 #[.agg #[.int .i64 a, .int .i64 b], .agg #[.int .i64 c, .int .i64 d]] w fun e w' => e = .returned (.int .i64 (cmpI (10000 * b + a) (10000 * d + c))) ∧ Gr w w' := by
  go_enter Tryd.func115, Tryd.ntmps115
  go_wp2
  ((first | refine region_gr_on (by kernel_rfl) (by kernel_rfl) ?_ | refine region_gr (by kernel_rfl) (by kernel_rfl) ?_); (repeat (quiet_step (first | (refine Calls.gr_of (rank_any _ _ _ ?_ ?_ ?_ ?_) <;> omega) | exact Calls.gr_same (cmp_any _ _ _)))); refine wpQuiet_nil ?_; intro _ hw'; obtain ⟨⟨kq, oq⟩, hw''⟩ := hw'; subst hw'')
  go_wp2
  go_ret
  exact ⟨rfl, (by repeat (first | with_reducible exact Gr.refl _ | with_reducible refine Gr.alloc ?_ _ | with_reducible refine Gr.gr ?_ _ _ | with_reducible refine Gr.drew ?_ | with_reducible refine Gr.drewN ?_ _))⟩
theorem or2_any (g : Nat) (x y : Int) (w : World) (c0 : w.cell? ⟨g, 0, none⟩ = some (.int .i64 x)) (c1 : w.cell? ⟨g, 1, none⟩ = some (.int .i64 y)) :
    Calls Tryd.prog 113 #[.slice (some ⟨g, 0, none⟩) 2 2] w fun e w' => e = .returned (.int .i64 (if x = 0 then y else x)) ∧ w = w' := by
  by_cases hx : x = 0
  · subst hx
    rw [if_pos rfl]
    by_cases hy : y = 0
    · subst hy
      go_enter Tryd.func113, Tryd.ntmps113
      go_wp2
      go_loop [8] (fun i => i = .int .i64 0 ∨ i = .int .i64 1 ∨ i = .int .i64 2) (fun i => 2 - (intOf i).toNat)
      case atStart => exact .inl rfl
      case round =>
        rcases hrel with rfl | rfl | rfl
        · go_wp2
          go_round
          case rel => exact .inr (.inl rfl)
          case measure => simp [intOf]
        · go_wp2
          go_round
          case rel => exact .inr (.inr rfl)
          case measure => simp [intOf]
        · go_wp2
          go_ret
          exact ⟨rfl, rfl⟩
    · have hb : (y == 0) = false := by simpa using hy
      clear hy
      go_enter Tryd.func113, Tryd.ntmps113
      go_wp2
      go_loop [8] (fun i => i = .int .i64 0 ∨ i = .int .i64 1) (fun i => 2 - (intOf i).toNat)
      case atStart => exact .inl rfl
      case round =>
        rcases hrel with rfl | rfl
        · go_wp2
          go_round
          case rel => exact .inr rfl
          case measure => simp [intOf]
        · go_wp2
          go_ret
          exact ⟨rfl, rfl⟩
  · rw [if_neg hx]
    have hb : (x == 0) = false := by simpa using hx
    clear hx
    go_enter Tryd.func113, Tryd.ntmps113
    go_wp2
    go_loop [8] (fun i => i = .int .i64 0) (fun i => 2 - (intOf i).toNat)
    case atStart => exact rfl
    case round =>
      subst hrel
      go_wp2
      go_ret
      exact ⟨rfl, rfl⟩

theorem fa1_any (bs bp : Nat) (s p d t : Int) (w : World) (hD : Dcs w) (hs : lsc s = true) (hf : fg d t = true) (c0 : w.cell? ⟨bs, 0, none⟩ = some (.int .i64 s)) (c1 : w.cell? ⟨bp, 0, none⟩ = some (.int .i64 p)) :
    Calls Tryd.prog 108 #[.agg #[.int .i64 d, .int .i64 t], .pointer (some ⟨bs, 0, none⟩), .pointer (some ⟨bp, 0, none⟩)] w fun e w' => e = .returned (.bool (decide (p ≤ pnt s d t))) ∧ Gr w w' := by
  have l0 := World.block_lt_of_cell? w _ c0
  have l1 := World.block_lt_of_cell? w _ c1
  have HP := Lib.hid (fun W h => pointOn_any s d t W h hf hs)
  have HD := Lib.hid hD
  generalize pnt s d t = x at *
  clear hD hs hf
  go_enter Tryd.func108, Tryd.ntmps108
  go_wp2
  ((first | refine region_gr_on (by kernel_rfl) (by kernel_rfl) ?_ | refine region_gr (by kernel_rfl) (by kernel_rfl) ?_); (repeat (quiet_step (exact Calls.gr_of (HP.out _ (HD.out.gr (by repeat (first | with_reducible exact Gr.refl _ | with_reducible refine Gr.alloc ?_ _ | with_reducible refine Gr.gr ?_ _ _ | with_reducible refine Gr.drew ?_ | with_reducible refine Gr.drewN ?_ _))))))); refine wpQuiet_nil ?_; intro _ hw'; obtain ⟨⟨kq, oq⟩, hw''⟩ := hw'; subst hw'')
  go_wp2
  go_ret
  exact ⟨rfl, (by repeat (first | with_reducible exact Gr.refl _ | with_reducible refine Gr.alloc ?_ _ | with_reducible refine Gr.gr ?_ _ _ | with_reducible refine Gr.drew ?_ | with_reducible refine Gr.drewN ?_ _))⟩

/-- How two figures compare at a point. -/
def cvV (s p d t e u : Int) : Int := if cmpI (gap p (pnt s d t)) (gap p (pnt s e u)) = 0 then cmpI (10000 * t + d) (10000 * u + e) else cmpI (gap p (pnt s d t)) (gap p (pnt s e u))
def ky2 (s p d t : Int) : Int := gap p (pnt s d t) * 1048576 + (10000 * t + d)
theorem cv_ky (s p d t e u : Int) (h1 : 0 ≤ 10000 * t + d) (h2 : 10000 * t + d ≤ 30000) (h3 : 0 ≤ 10000 * u + e) (h4 : 10000 * u + e ≤ 30000) : cvV s p d t e u < 0 ↔ ky2 s p d t < ky2 s p e u := by
  unfold cvV ky2
  generalize gap p (pnt s d t) = a at *
  generalize gap p (pnt s e u) = b at *
  generalize 10000 * t + d = x at *
  generalize 10000 * u + e = y at *
  rcases Int.lt_trichotomy a b with h | h | h
  · rw [cmpI_lt a b h]; simp; omega
  · rw [cmpI_eq a b h, if_pos rfl]
    rcases Int.lt_trichotomy x y with g | g | g
    · rw [cmpI_lt x y g]; simp; omega
    · rw [cmpI_eq x y g]; omega
    · rw [cmpI_gt x y g]; omega
  · rw [cmpI_gt a b h]; simp; omega
theorem gap_abs (p x : Int) : (((x - p).natAbs : Nat) : Int) = gap p x := by unfold gap; omega
def TwoF (x y : Int) (v : Value) (w : World) : Prop := ∃ g : Nat, v = .slice (some ⟨g, 0, none⟩) 2 2 ∧ w.cell? ⟨g, 0, none⟩ = some (.int .i64 x) ∧ w.cell? ⟨g, 1, none⟩ = some (.int .i64 y)
theorem TwoF.gr {x y : Int} (v : Value) (w w' : World) (hg : Gr w w') (h : TwoF x y v w) : TwoF x y v w' := by
  obtain ⟨g, e, h1, h2⟩ := h
  exact ⟨g, e, cell_up hg h1, cell_up hg h2⟩
theorem TwoF.new (w : World) (x y : Int) (T : TypeId) : TwoF x y (.slice (some ⟨w.heap.size, 0, none⟩) 2 2) (w.alloc (.cells #[.int .i64 x, .int .i64 y] T)) := by
  have B := (Blk.new w T #[.int .i64 x, .int .i64 y]).two
  exact ⟨_, rfl, B.1, B.2.1⟩
theorem two_boxesF (w : World) (T U : TypeId) (a b : Array Value) : Blk ((w.alloc (.cells a T)).alloc (.cells b U)) w.heap.size T a ∧ Blk ((w.alloc (.cells a T)).alloc (.cells b U)) (w.heap.size + 1) U b ∧ Gr w ((w.alloc (.cells a T)).alloc (.cells b U)) := by
  have B0 := (Blk.new w T a).alloc (.cells b U)
  have B1 := Blk.new (w.alloc (.cells a T)) U b
  rw [World.size_alloc] at B1
  exact ⟨B0, B1, (by repeat (first | with_reducible exact Gr.refl _ | with_reducible refine Gr.alloc ?_ _ | with_reducible refine Gr.gr ?_ _ _ | with_reducible refine Gr.drew ?_ | with_reducible refine Gr.drewN ?_ _))⟩
set_option maxHeartbeats 2000000 in
set_option maxRecDepth 100000 in
theorem fa2_any (bs bp : Nat) (s p d t e u : Int) (w : World) (hD : Dcs w) (hs : lsc s = true) (hp : -10000000 ≤ p ∧ p ≤ 10000000) (hf : fg d t = true) (hg : fg e u = true) (hd : 0 ≤ t ∧ t ≤ 2) (he : 0 ≤ u ∧ u ≤ 2) (c0 : w.cell? ⟨bs, 0, none⟩ = some (.int .i64 s)) (c1 : w.cell? ⟨bp, 0, none⟩ = some (.int .i64 p)) :
    Calls Tryd.prog 111 #[.agg #[.int .i64 d, .int .i64 t], .agg #[.int .i64 e, .int .i64 u], .pointer (some ⟨bs, 0, none⟩), .pointer (some ⟨bp, 0, none⟩)] w fun en w' => en = .returned (.int .i64 (cvV s p d t e u)) ∧ Gr w w' := by
  have HP1 := Lib.hid (fun W h => pointOn_any s d t W h hf hs)
  have HP2 := Lib.hid (fun W h => pointOn_any s e u W h hg hs)
  have b1 := pnt_bd s d t hf
  have b2 := pnt_bd s e u hg
  have f1 := (fg_iff d t).1 hf
  have f2 := (fg_iff e u).1 hg
  have HR := Lib.hid (show cvV s p d t e u = if cmpI (gap p (pnt s d t)) (gap p (pnt s e u)) = 0 then cmpI (10000 * t + d) (10000 * u + e) else cmpI (gap p (pnt s d t)) (gap p (pnt s e u)) from rfl)
  have HG1 := Lib.hid (fun W => distance_any (pnt s d t) p W (by omega) (by omega) (by omega) (by omega))
  have HG2 := Lib.hid (fun W => distance_any (pnt s e u) p W (by omega) (by omega) (by omega) (by omega))
  rw [gap_abs] at HG1 HG2
  have HS := Lib.hid (fun W => bySz_any d t e u W (by omega) (by omega) (by omega) (by omega) (by omega) (by omega) (by omega) (by omega))
  have g1 := gap_nn p (pnt s d t)
  have g2 := gap_nn p (pnt s e u)
  have HD := Lib.hid hD
  generalize cvV s p d t e u = R at *
  generalize gap p (pnt s d t) = x at *
  generalize gap p (pnt s e u) = y at *
  generalize pnt s d t = m1 at *
  generalize pnt s e u = m2 at *
  have HC := Lib.hid (fun W => cmp_any x y W)
  generalize cmpI x y = q1 at *
  generalize cmpI (10000 * t + d) (10000 * u + e) = q2 at *
  have l0 := World.block_lt_of_cell? w _ c0
  have l1 := World.block_lt_of_cell? w _ c1
  clear hD hs hf hg f1 f2
  go_enter Tryd.func111, Tryd.ntmps111
  go_wp2_with fail
  obtain ⟨B0, B1, G0⟩ := two_boxesF w 26 26 #[.int .i64 d, .int .i64 t] #[.int .i64 e, .int .i64 u]
  generalize (w.alloc (.cells #[.int .i64 d, .int .i64 t] 26)).alloc (.cells #[.int .i64 e, .int .i64 u] 26) = v at *
  have HD' := Lib.hid (HD.out.gr G0)
  have k0 := cell_up G0 c0
  have k1 := cell_up G0 c1
  have HG := Lib.hid G0
  clear c0 c1 l0 l1 HD G0
  obtain ⟨d0, d1, -⟩ := B0.two
  obtain ⟨e0, e1, -⟩ := B1.two
  have l0 := World.block_lt_of_cell? v _ k0
  have l1 := World.block_lt_of_cell? v _ k1
  have l2 := B0.lt
  have l3 := B1.lt
  ((first | refine region_gr_on (by kernel_rfl) (by kernel_rfl) ?_ | refine region_gr (by kernel_rfl) (by kernel_rfl) ?_); (repeat (quiet_step (first | (with_reducible refine Calls.gr_of (HP1.out _ ?_); exact HD'.out.gr (by repeat (first | with_reducible exact Gr.refl _ | with_reducible refine Gr.alloc ?_ _ | with_reducible refine Gr.gr ?_ _ _ | with_reducible refine Gr.drew ?_ | with_reducible refine Gr.drewN ?_ _))) | (with_reducible refine Calls.gr_of (HP2.out _ ?_); exact HD'.out.gr (by repeat (first | with_reducible exact Gr.refl _ | with_reducible refine Gr.alloc ?_ _ | with_reducible refine Gr.gr ?_ _ _ | with_reducible refine Gr.drew ?_ | with_reducible refine Gr.drewN ?_ _))) | (with_reducible refine Calls.gr_same (HG1.out _)) | (with_reducible refine Calls.gr_same (HG2.out _))))); refine wpQuiet_nil ?_; intro _ hw'; obtain ⟨⟨kq, oq⟩, hw''⟩ := hw'; subst hw'')
  go_wp2_with fail
  have hq : Gr v (Proofs.YtddcdodbmbmdnaaDoor.gr v kq oq) := ⟨kq, oq, rfl⟩
  replace B0 := B0.gr hq
  replace B1 := B1.gr hq
  have HGq := Lib.hid (HG.out.trans hq)
  generalize Proofs.YtddcdodbmbmdnaaDoor.gr v kq oq = v2 at *
  clear k0 k1 d0 d1 e0 e1 l0 l1 l2 l3 hq
  refine region_grows [(2, .is (.int .i64 q1)), (5, .is (.int .i64 q2)), (6, .ever (TwoF q1 q2) (fun _ _ _ => TwoF.gr _ _ _)), (7, .is (.int .i64 (if q1 = 0 then q2 else q1)))] (by kernel_rfl) (by kernel_rfl) ?_
  (refine lz_one rfl (fun K hK => ?_); refine ⟨rfl, ?_⟩; apply Exists.intro; refine ⟨fun wz hz => ?_, ?_⟩; (focus (skip; go_simp; (first | done | exact ⟨rfl, rfl⟩ | trivial))); (go_simp; refine hK _ _ ?_; clear hK K))
  (refine lz_one rfl (fun K hK => ?_); refine ⟨rfl, ?_⟩; apply Exists.intro; refine ⟨fun wz hz => ?_, ?_⟩; (focus (skip; go_simp; (first | done | exact ⟨rfl, rfl⟩ | trivial))); (go_simp; refine hK _ _ ?_; clear hK K))
  (refine lz_many _ rfl (fun K hK => ?_); refine ⟨rfl, fun wz hz ha => ?_, fun vz wz hz hf => ?_⟩; (focus (go_simp; exact lg_call hz ((HC.out _).mono fun e w' h => ⟨h.1, h.2 ▸ Gr.refl _⟩))); (obtain rfl := hf; clear hz wz; go_simp; refine hK _ _ ?_; clear hK K))
  (refine lz_one rfl (fun K hK => ?_); refine ⟨rfl, ?_⟩; apply Exists.intro; refine ⟨fun wz hz => ?_, ?_⟩; (focus (obtain ⟨d0, d1, -⟩ := (B0.gr hz).two; go_simp; (first | done | exact ⟨rfl, rfl⟩ | trivial))); (go_simp; refine hK _ _ ?_; clear hK K))
  (refine lz_one rfl (fun K hK => ?_); refine ⟨rfl, ?_⟩; apply Exists.intro; refine ⟨fun wz hz => ?_, ?_⟩; (focus (obtain ⟨e0, e1, -⟩ := (B1.gr hz).two; go_simp; (first | done | exact ⟨rfl, rfl⟩ | trivial))); (go_simp; refine hK _ _ ?_; clear hK K))
  (refine lz_many _ rfl (fun K hK => ?_); refine ⟨rfl, fun wz hz ha => ?_, fun vz wz hz hf => ?_⟩; (focus (go_simp; exact lg_call hz (HS.out _))); (obtain rfl := hf; clear hz wz; go_simp; refine hK _ _ ?_; clear hK K))
  (refine lz_many _ rfl (fun K hK => ?_); refine ⟨rfl, fun wz hz ha => ?_, fun vz wz hz hf => ?_⟩; (focus (go_simp; exact ⟨hz.alloc _, (Gr.refl _).alloc _, TwoF.new _ _ _ _⟩)); (obtain ⟨g, rfl, -, -⟩ := hf; clear hz wz; go_simp; refine hK _ _ ?_; clear hK K))
  (refine lz_many _ rfl (fun K hK => ?_); refine ⟨rfl, fun wz hz ha => ?_, fun vz wz hz hf => ?_⟩; (focus (obtain ⟨g', e', h0, h1⟩ := ha ⟨6, .data⟩ (by simp) rfl; cases e'; go_simp; exact lg_call hz ((or2_any _ _ _ _ h0 h1).mono fun e w' h => ⟨h.1, h.2 ▸ Gr.refl _⟩))); (obtain rfl := hf; clear hz wz; go_simp; refine hK _ _ ?_; clear hK K))
  (refine lz_one rfl (fun K hK => ?_); refine ⟨rfl, ?_⟩; apply Exists.intro; refine ⟨fun wz hz => ?_, ?_⟩; (focus (skip; go_simp; (first | done | exact ⟨rfl, rfl⟩ | trivial))); (go_simp; refine hK _ _ ?_; clear hK K))
  refine lz_nil ?_
  intro w' hz hgg
  generalize hR2 : (if q1 = 0 then q2 else q1) = R2 at *
  have HR2 := Lib.hid hR2
  clear hR2 hgg
  go_wp2_with fail
  go_ret
  exact ⟨ret_int (by rw [HR.out]), HGq.out.trans hz⟩
end Go.Proofs.YtddcdodbmbmdnaaDoor
