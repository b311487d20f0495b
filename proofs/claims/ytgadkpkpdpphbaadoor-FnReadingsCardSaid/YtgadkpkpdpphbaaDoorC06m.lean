/- Contracts of chapter 6: searches in a sheet. -/
import Derived.Test.YtgadkpkpdpphbaaDoorC06k
import Derived.Test.YtgadkpkpdpphbaaDoorC04a
import Derived.Test.YtgadkpkpdpphbaaDoorC01b
import Derived.OwnWalk
namespace Go.Proofs.YtgadkpkpdpphbaaDoor
open Go.RowKit Go.Maps
set_option linter.unusedVariables false
set_option linter.unusedSimpArgs false

/-- A world in which only the sheet's map may have turned. -/
structure SW (w : World) (sb mb : Nat) (s l : Int) where
  W : World
  gb : Gb mb w W
  sht : Sht W sb mb s l
theorem region_sw {P : Program} {id : Nat} {Q : Exit → Act → World → Prop} {a : Act} {w : World} {sb mb : Nat} {s l : Int} {L : List Oper} (hS : Sht w sb mb s l) (hm : P.follows .mixedOrders = true) (hB : Region.lexB .any L.toArray = true)
    (h : wpQuiet P L.toArray (fun w' => ∃ p : SW w sb mb s l, w' = p.W) (fun a' => ∀ w', (∃ p : SW w sb mb s l, w' = p.W) → Q .normal a' w') L a) : (Code.region id L.toArray true).wp P Q a w :=
  wp_region_quiet (C := fun w' => ∃ p : SW w sb mb s l, w' = p.W) hm hB ⟨⟨w.drew, (Gb.refl mb w).drew, hS.drew⟩, rfl⟩ (by simpa using h)
theorem SW.of_gr {P : Program} {f : FuncId} {args : Array Value} {w : World} {sb mb : Nat} {s l : Int} (p : SW w sb mb s l) {v : Value} (h : Calls P f args p.W fun e w' => e = .returned v ∧ Gr p.W w') :
    Calls P f args p.W fun e w'' => e = .returned v ∧ ∃ p' : SW w sb mb s l, w'' = p'.W :=
  h.mono fun _ w'' ⟨he, hg⟩ => ⟨he, ⟨w'', p.gb.trans (Gb.of hg), p.sht.gr hg⟩, rfl⟩
theorem SW.of_gb {P : Program} {f : FuncId} {args : Array Value} {w : World} {sb mb : Nat} {s l : Int} (p : SW w sb mb s l) {v : Value} (h : Calls P f args p.W fun e w' => e = .returned v ∧ Gb mb p.W w' ∧ Sht w' sb mb s l) :
    Calls P f args p.W fun e w'' => e = .returned v ∧ ∃ p' : SW w sb mb s l, w'' = p'.W :=
  h.mono fun _ w'' ⟨he, hg, hs⟩ => ⟨he, ⟨w'', p.gb.trans hg, hs⟩, rfl⟩
theorem SW.cell {w : World} {sb mb : Nat} {s l : Int} (hS : Sht w sb mb s l) {n i : Nat} {x : Value} (hc : w.cell? ⟨n, i, none⟩ = some x) (p : SW w sb mb s l) : p.W.cell? ⟨n, i, none⟩ = some x :=
  ((Same.of hS p.sht p.gb).cell n i (World.block_lt_of_cell? w _ hc)).trans hc

set_option maxHeartbeats 1000000 in
theorem search1_any (gh : Nat) (cbh : Array Value) (b : Bool) (ch cs sb mb : Nat) (s l : Int) (i : Nat) (w : World) (hS : Sht w sb mb s l) (hs : sc s = true) (hl : ln l = true) (hi : i < figs s)
    (hc1 : w.cell? ⟨ch, 0, none⟩ = some (.func (.func gh) #[] cbh)) (hc2 : w.cell? ⟨cs, 0, none⟩ = some (.pointer (some ⟨sb, 0, none⟩))) (eg : ∀ args w, (callFunc gh args).run Tryd.prog w = .ok (.enter gh args) w)
    (HH : ∀ W', Gb mb w W' → Sht W' sb mb s l → Calls Tryd.prog gh (#[.agg #[.int .i64 (loF s l i), .int .i64 (hiF s l i)]] ++ cbh) W' fun e w'' => e = .returned (.bool b) ∧ Gr W' w'') :
    Calls Tryd.prog 121 #[.int .i64 i, .pointer (some ⟨ch, 0, none⟩), .pointer (some ⟨cs, 0, none⟩)] w fun e w' => e = .returned (.bool b) ∧ Gb mb w w' ∧ Sht w' sb mb s l := by
  have HS := Lib.hid hS
  have H1 := Lib.hid (fun (p : SW w sb mb s l) => SW.of_gr p (figure_any sb mb s l i p.W p.sht hs hi))
  have hf := at_fg (onF s i) (by have := onF_lt s i hi; have := figs_bd s; omega)
  have ht := at_tens s (onF s i) (onF_lt s i hi)
  have H2 := Lib.hid (fun (p : SW w sb mb s l) => SW.of_gb p (endsOf_any sb mb s l (atD (onF s i)) (atT (onF s i)) p.W p.sht hs hl hf (dec_5 s _ ht.1 ht.2)))
  have H3 := Lib.hid (fun (p : SW w sb mb s l) => SW.of_gr p (HH p.W p.gb p.sht))
  have k1 := fun (p : SW w sb mb s l) => SW.cell hS hc1 p
  have k2 := fun (p : SW w sb mb s l) => SW.cell hS hc2 p
  rw [show (pl s (atD (onF s i)) (atT (onF s i)) l).1 = loF s l i from rfl, show (pl s (atD (onF s i)) (atT (onF s i)) l).2 = hiF s l i from rfl] at H2
  generalize atD (onF s i) = d at *
  generalize atT (onF s i) = t at *
  generalize loF s l i = x at *
  generalize hiF s l i = y at *
  clear hs hl hi hf ht hS HH
  go_enter Tryd.func121, Tryd.ntmps121
  go_wp2
  refine region_sw HS.out (by kernel_rfl) (by kernel_rfl) ?_
  repeat (quiet_step (first | exact H1.out _ | exact H2.out _ | exact H3.out _ | rfl))
  refine wpQuiet_nil ?_
  rintro _ ⟨p, rfl⟩
  go_wp2
  go_ret
  exact ⟨rfl, p.gb, p.sht⟩

set_option maxHeartbeats 1000000 in
/-- The library's search, in worlds of a class. -/
theorem search_in (g : Nat) (cb : Array Value) (N : Nat) (hN : N ≤ 1000000) (p : Nat → Bool) (w : World) (C : World → Prop) (hC : C w) (eg : ∀ args w, (callFunc g args).run Tryd.prog w = .ok (.enter g args) w)
    (hf : ∀ W, C W → ∀ i : Nat, i < N → Calls Tryd.prog g (#[.int .i64 i] ++ cb) W fun e w' => e = .returned (.bool (p i)) ∧ C w')
    (hm : ∀ a b, a ≤ b → b < N → p a = true → p b = true) :
    Calls Tryd.prog 120 #[.int .i64 N, .func (.func g) #[] cb] w fun e w' => e = .returned (.int .i64 (cntF p N : Nat)) ∧ C w' := by
  have HF := Lib.hid hf
  have M := Lib.hid hm
  have TH := Lib.hid (cntF_thr p N)
  have HC := Lib.hid hC
  clear hf hm hC
  go_enter Tryd.func120, Tryd.ntmps120
  go_wp2
  go_loopw [5, 6] (fun x y wr => ∃ lo hi : Nat, x = .int .i64 lo ∧ y = .int .i64 hi ∧ lo ≤ hi ∧ hi ≤ N ∧ Hid ((∀ t, t < lo → p t = false) ∧ (∀ t, hi ≤ t → t < N → p t = true)) ∧ Hid (C wr)) (fun x y _ => (intOf y - intOf x).toNat)
  case atStart => exact ⟨0, N, rfl, rfl, by omega, by omega, Lib.hid ⟨fun t h => by omega, fun t a b => by omega⟩, HC⟩
  case round =>
    obtain ⟨lo, hi, rfl, rfl, hlh, hin, I, hG⟩ := hrel
    by_cases hlt : lo < hi
    · have hc := HF.out wr hG.out ((lo + hi) / 2) (by omega)
      rw [show (((lo + hi) / 2 : Nat) : Int) = ((lo : Int) + (hi : Int)) / 2 by omega] at hc
      cases hp : p ((lo + hi) / 2)
      · rw [hp] at hc
        have HP := Lib.hid hp
        clear hp
        go_wp2_with (go_at_fn g; refine hc.mono ?_; rintro e w' ⟨rfl, hg⟩)
        go_roundw
        case rel => exact ⟨(lo + hi) / 2 + 1, hi, by rw [show ((lo : Int) + (hi : Int)) / 2 + 1 = (((lo + hi) / 2 + 1 : Nat) : Int) by omega], rfl, by omega, hin, Lib.hid ⟨fun t ht => (by
            cases h : p t
            · rfl
            · have := M.out t ((lo + hi) / 2) (by omega) (by omega) h
              rw [HP.out] at this; cases this), I.out.2⟩, hg⟩
        case measure => simp [intOf]; omega
      · rw [hp] at hc
        have HP := Lib.hid hp
        clear hp
        go_wp2_with (go_at_fn g; refine hc.mono ?_; rintro e w' ⟨rfl, hg⟩)
        go_roundw
        case rel => exact ⟨lo, (lo + hi) / 2, rfl, by rw [show ((lo : Int) + (hi : Int)) / 2 = (((lo + hi) / 2 : Nat) : Int) by omega], by omega, by omega, Lib.hid ⟨I.out.1, fun t ht htn => M.out ((lo + hi) / 2) t ht htn HP.out⟩, hg⟩
        case measure => simp [intOf]; omega
    · obtain rfl : hi = lo := by omega
      have e := TH.out hi hin I.out.1 I.out.2
      have E := Lib.hid e
      clear e
      go_wp2
      go_ret
      exact ⟨ret_int (by rw [E.out]), hG⟩

set_option maxHeartbeats 1000000 in
theorem sheetSearch_any (gh : Nat) (cbh : Array Value) (q : Nat → Bool) (sb mb : Nat) (s l : Int) (w : World) (hS : Sht w sb mb s l) (hs : sc s = true) (hl : ln l = true) (eg : ∀ args w, (callFunc gh args).run Tryd.prog w = .ok (.enter gh args) w)
    (HH : ∀ W', Gb mb w W' → Sht W' sb mb s l → ∀ i, i < figs s → Calls Tryd.prog gh (#[.agg #[.int .i64 (loF s l i), .int .i64 (hiF s l i)]] ++ cbh) W' fun e w'' => e = .returned (.bool (q i)) ∧ Gr W' w'')
    (hm : ∀ a b, a ≤ b → b < figs s → q a = true → q b = true) :
    Calls Tryd.prog 101 #[.pointer (some ⟨sb, 0, none⟩), .func (.func gh) #[] cbh] w fun e w' => e = .returned (.int .i64 (cntF q (figs s) : Nat)) ∧ Gb mb w w' ∧ Sht w' sb mb s l := by
  have HS := Lib.hid hS
  have HN := Lib.hid (figs_bd s)
  have H1 := Lib.hid (fun W (h : Sht W sb mb s l) => count_any sb mb s l W h hs)
  have HQ := Lib.hid (fun (ch cs : Nat) (i : Nat) W hi (h : Sht W sb mb s l) (hg : Gb mb w W) hc1 hc2 => search1_any gh cbh (q i) ch cs sb mb s l i W h hs hl hi hc1 hc2 eg (fun W' g1 h1 => HH W' (hg.trans g1) h1 i hi))
  have HM := Lib.hid hm
  clear hm HH hS hs hl
  generalize figs s = N at *
  have HX := Lib.hid (show Calls Tryd.prog 120 #[.int .i64 N, .func (.func 121) #[] #[.pointer (some ⟨w.heap.size + 1, 0, none⟩), .pointer (some ⟨w.heap.size, 0, none⟩)]]
      ((w.alloc (.cells #[.pointer (some ⟨sb, 0, none⟩)] 84)).alloc (.cells #[.func (.func gh) #[] cbh] 102)) (fun e w' => e = .returned (.int .i64 (cntF q N : Nat)) ∧ Gb mb w w' ∧ Sht w' sb mb s l) from by
    have B0 := (Blk.new w 84 #[.pointer (some ⟨sb, 0, none⟩)]).alloc (.cells #[.func (.func gh) #[] cbh] 102)
    have B1 := Blk.new (w.alloc (.cells #[.pointer (some ⟨sb, 0, none⟩)] 84)) 102 #[.func (.func gh) #[] cbh]
    rw [World.size_alloc] at B1
    have G0 : Gr w ((w.alloc (.cells #[.pointer (some ⟨sb, 0, none⟩)] 84)).alloc (.cells #[.func (.func gh) #[] cbh] 102)) := (by repeat (first | with_reducible exact Gr.refl _ | with_reducible refine Gr.alloc ?_ _ | with_reducible refine Gr.gr ?_ _ _ | with_reducible refine Gr.drew ?_ | with_reducible refine Gr.drewN ?_ _))
    have S0 := HS.out.gr G0
    generalize (w.alloc (.cells #[.pointer (some ⟨sb, 0, none⟩)] 84)).alloc (.cells #[.func (.func gh) #[] cbh] 102) = v at *
    have c0 : v.cell? ⟨w.heap.size, 0, none⟩ = some (.pointer (some ⟨sb, 0, none⟩)) := by rw [cell_of_row v _ 0 _ _ _ B0]; rfl
    have c1 : v.cell? ⟨w.heap.size + 1, 0, none⟩ = some (.func (.func gh) #[] cbh) := by rw [cell_of_row v _ 0 _ _ _ B1]; rfl
    refine (search_in 121 #[.pointer (some ⟨w.heap.size + 1, 0, none⟩), .pointer (some ⟨w.heap.size, 0, none⟩)] N (by have := HN.out; omega) q v (fun W => Gb mb v W ∧ Sht W sb mb s l) ⟨Gb.refl _ _, S0⟩ (fun _ _ => by kernel_rfl) ?_ HM.out).mono (fun e w' ⟨h1, h2, h3⟩ => ⟨h1, (Gb.of G0).trans h2, h3⟩)
    rintro W ⟨hg, hsh⟩ i hi
    change Calls Tryd.prog _ #[.int .i64 i, .pointer (some ⟨w.heap.size + 1, 0, none⟩), .pointer (some ⟨w.heap.size, 0, none⟩)] W _
    have sm := Same.of S0 hsh hg
    exact (HQ.out _ _ i W hi hsh ((Gb.of G0).trans hg) ((sm.cell _ _ B1.lt).trans c1) ((sm.cell _ _ B0.lt).trans c0)).mono (fun e w' ⟨h1, h2, h3⟩ => ⟨h1, hg.trans h2, h3⟩))
  clear HQ HM HN eg
  go_enter Tryd.func101, Tryd.ntmps101
  go_wp2_with (first
    | (go_at_call 105; refine (H1.out _ ((HS.out.alloc _).alloc _)).mono ?_; rintro e w' ⟨rfl, rfl⟩)
    | (go_at_call 120; refine HX.out.mono ?_; rintro e w' ⟨rfl, hg, hs'⟩))
  go_ret
  exact ⟨rfl, hg, hs'⟩

/-- A search's condition: a closure that reads the ends of a place (by a copy) and two numbers. -/
theorem ends_new (w : World) (T : TypeId) (x y : Value) : (w.alloc (.cells #[x, y] T)).cell? ⟨w.heap.size, 0, none⟩ = some x ∧ (w.alloc (.cells #[x, y] T)).cell? ⟨w.heap.size, 1, none⟩ = some y := by
  have B := Blk.new w T #[x, y]
  exact ⟨B.two.1, B.two.2.1⟩
theorem cond1_any (be bp : Nat) (e p x y : Int) (w : World) (hc : w.cell? ⟨be, 0, none⟩ = some (.int .i64 e)) (hc' : w.cell? ⟨bp, 0, none⟩ = some (.int .i64 p)) (y1 : -1000000 ≤ y) (y2 : y ≤ 1000000) (e1 : 0 ≤ e) (e2 : e ≤ 200) :
    Calls Tryd.prog 90 #[.agg #[.int .i64 x, .int .i64 y], .pointer (some ⟨be, 0, none⟩), .pointer (some ⟨bp, 0, none⟩)] w fun en w' => en = .returned (.bool (decide (p ≤ y + e))) ∧ Gr w w' := by
  have l1 := World.block_lt_of_cell? w _ hc
  have l2 := World.block_lt_of_cell? w _ hc'
  go_enter Tryd.func90, Tryd.ntmps90
  go_wp2
  go_ret
  exact ⟨ret_bool (by simp), (by repeat (first | with_reducible exact Gr.refl _ | with_reducible refine Gr.alloc ?_ _ | with_reducible refine Gr.gr ?_ _ _ | with_reducible refine Gr.drew ?_ | with_reducible refine Gr.drewN ?_ _))⟩
theorem cond2_any (be bp : Nat) (e p x y : Int) (w : World) (hc : w.cell? ⟨be, 0, none⟩ = some (.int .i64 e)) (hc' : w.cell? ⟨bp, 0, none⟩ = some (.int .i64 p)) (x1 : -1000000 ≤ x) (x2 : x ≤ 1000000) (e1 : 0 ≤ e) (e2 : e ≤ 200) :
    Calls Tryd.prog 91 #[.agg #[.int .i64 x, .int .i64 y], .pointer (some ⟨be, 0, none⟩), .pointer (some ⟨bp, 0, none⟩)] w fun en w' => en = .returned (.bool (decide (p < x - e))) ∧ Gr w w' := by
  have l1 := World.block_lt_of_cell? w _ hc
  have l2 := World.block_lt_of_cell? w _ hc'
  go_enter Tryd.func91, Tryd.ntmps91
  go_wp2
  go_ret
  exact ⟨ret_bool (by simp), (by repeat (first | with_reducible exact Gr.refl _ | with_reducible refine Gr.alloc ?_ _ | with_reducible refine Gr.gr ?_ _ _ | with_reducible refine Gr.drew ?_ | with_reducible refine Gr.drewN ?_ _))⟩
theorem cond3_any (bv : Nat) (v x y : Int) (w : World) (hc : w.cell? ⟨bv, 0, none⟩ = some (.int .i64 v)) (x1 : -1000000 ≤ x) (x2 : x ≤ 1000000) (y1 : -1000000 ≤ y) (y2 : y ≤ 1000000) :
    Calls Tryd.prog 102 #[.agg #[.int .i64 x, .int .i64 y], .pointer (some ⟨bv, 0, none⟩)] w fun en w' => en = .returned (.bool (decide (v ≤ x + y))) ∧ Gr w w' := by
  have l1 := World.block_lt_of_cell? w _ hc
  go_enter Tryd.func102, Tryd.ntmps102
  go_wp2
  go_ret
  exact ⟨ret_bool (by simp), (by repeat (first | with_reducible exact Gr.refl _ | with_reducible refine Gr.alloc ?_ _ | with_reducible refine Gr.gr ?_ _ _ | with_reducible refine Gr.drew ?_ | with_reducible refine Gr.drewN ?_ _))⟩
theorem cond4_any (bp bo : Nat) (p o x y : Int) (w : World) (hc : w.cell? ⟨bp, 0, none⟩ = some (.int .i64 p)) (hc' : w.cell? ⟨bo, 0, none⟩ = some (.int .i64 o)) (x1 : -1000000 ≤ x) (x2 : x ≤ 1000000) (y1 : -1000000 ≤ y) (y2 : y ≤ 1000000) (p1 : 0 ≤ p) (p2 : p ≤ 100000) (o1 : 0 ≤ o) (o2 : o ≤ 10000000) :
    Calls Tryd.prog 80 #[.agg #[.int .i64 x, .int .i64 y], .pointer (some ⟨bp, 0, none⟩), .pointer (some ⟨bo, 0, none⟩)] w fun en w' => en = .returned (.bool (decide (2 * p - o ≤ x + y))) ∧ Gr w w' := by
  have l1 := World.block_lt_of_cell? w _ hc
  have l2 := World.block_lt_of_cell? w _ hc'
  go_enter Tryd.func80, Tryd.ntmps80
  go_wp2
  go_ret
  exact ⟨ret_bool (by simp), (by repeat (first | with_reducible exact Gr.refl _ | with_reducible refine Gr.alloc ?_ _ | with_reducible refine Gr.gr ?_ _ _ | with_reducible refine Gr.drew ?_ | with_reducible refine Gr.drewN ?_ _))⟩
theorem cond5_any (bp bo : Nat) (p o x y : Int) (w : World) (hc : w.cell? ⟨bp, 0, none⟩ = some (.int .i64 p)) (hc' : w.cell? ⟨bo, 0, none⟩ = some (.int .i64 o)) (x1 : -1000000 ≤ x) (x2 : x ≤ 1000000) (y1 : -1000000 ≤ y) (y2 : y ≤ 1000000) (p1 : 0 ≤ p) (p2 : p ≤ 100000) (o1 : 0 ≤ o) (o2 : o ≤ 10000000) :
    Calls Tryd.prog 81 #[.agg #[.int .i64 x, .int .i64 y], .pointer (some ⟨bp, 0, none⟩), .pointer (some ⟨bo, 0, none⟩)] w fun en w' => en = .returned (.bool (decide (2 * p + o < x + y))) ∧ Gr w w' := by
  have l1 := World.block_lt_of_cell? w _ hc
  have l2 := World.block_lt_of_cell? w _ hc'
  go_enter Tryd.func81, Tryd.ntmps81
  go_wp2
  go_ret
  exact ⟨ret_bool (by simp), (by repeat (first | with_reducible exact Gr.refl _ | with_reducible refine Gr.alloc ?_ _ | with_reducible refine Gr.gr ?_ _ _ | with_reducible refine Gr.drew ?_ | with_reducible refine Gr.drewN ?_ _))⟩
end Go.Proofs.YtgadkpkpdpphbaaDoor

namespace Go.Proofs.YtgadkpkpdpphbaaDoor
open Go.RowKit Go.Maps
set_option linter.unusedVariables false
set_option linter.unusedSimpArgs false

theorem two_cells_new (w : World) (a b : Value) (t : TypeId) : ∀ j u, [a, b][j]? = some u → (w.alloc (.cells #[a, b] t)).cell? ((⟨w.heap.size, 0, none⟩ : Addr).add j) = some u := by
  intro j u hj
  match j, hj with
  | 0, hj => simp at hj; subst hj; simp [Addr.add]
  | 1, hj => simp at hj; subst hj; simp [Addr.add]
theorem info_fig : (Tryd.prog.info? 27).map (fun i => (i.zero, i.size, i.bytes)) = some (some (.agg #[.int .i64 0, .int .i64 0]), 2, 16) := by kernel_rfl
def figCells (D T : Nat → Int) : Nat → List Value
  | 0 => []
  | n + 1 => figCells D T n ++ [.int .i64 (D n), .int .i64 (T n)]
theorem figCells_len (D T : Nat → Int) : ∀ n, (figCells D T n).length = n * 2
  | 0 => rfl
  | n + 1 => by unfold figCells; rw [List.length_append, figCells_len D T n]; simp; omega
theorem figCells_at (D T : Nat → Int) : ∀ n k, k < n → (figCells D T n)[k * 2]? = some (.int .i64 (D k)) ∧ (figCells D T n)[k * 2 + 1]? = some (.int .i64 (T k))
  | 0, k, h => absurd h (by omega)
  | n + 1, k, h => by
    have hl := figCells_len D T n
    unfold figCells
    rcases Nat.lt_succ_iff_lt_or_eq.1 h with h1 | rfl
    · have ih := figCells_at D T n k h1
      rw [List.getElem?_append_left (by omega), List.getElem?_append_left (by omega)]
      exact ih
    · rw [List.getElem?_append_right (by omega), List.getElem?_append_right (by omega), hl, show k * 2 - k * 2 = 0 by omega, show k * 2 + 1 - k * 2 = 1 by omega]
      exact ⟨rfl, rfl⟩
theorem addr0 (g k : Nat) : (⟨g, 0, none⟩ : Addr).add k = ⟨g, k, none⟩ := by unfold Addr.add; split <;> simp_all
/-- A slice of figures in blocks of the call's own. -/
abbrev Figs (w : World) (B : Nat) (v : Value) (n : Nat) (D T : Nat → Int) : Prop := w.ownsRow B 27 2 v n (figCells D T n)
theorem Figs.gb {w w' : World} {B mb n : Nat} {v : Value} {D T : Nat → Int} (h : Figs w B v n D T) (hg : Gb mb w w') (hm : mb < B) : Figs w' B v n D T :=
  World.ownsRow.kept h hg (.inr fun e => by have := (World.ownsRow.lt h mb e).1; omega)
theorem Figs.val {w : World} {B n : Nat} {v : Value} {D T : Nat → Int} (h : Figs w B v n D T) : ∃ A c, v = .slice A n c := by
  rcases h.2 with ⟨rfl, rfl⟩ | ⟨g, cap, cur, rfl, -⟩
  · exact ⟨none, 0, rfl⟩
  · exact ⟨_, _, rfl⟩
theorem Figs.row {w : World} {B n : Nat} {v : Value} {D T : Nat → Int} (h : Figs w B v n D T) (hn : 1 ≤ n) : ∃ g c : Nat, v = .slice (some ⟨g, 0, none⟩) n c ∧ FigRow w g 0 n D T := by
  have hc := fun g hg => World.ownsRow.cells h (g := g) hg
  rcases h.2 with ⟨rfl, rfl⟩ | ⟨g, cap, cur, rfl, -⟩
  · omega
  · refine ⟨g, cap, rfl, fun k hk => ?_⟩
    obtain ⟨a, b⟩ := figCells_at D T n k hk
    have x := hc g rfl _ _ a
    have y := hc g rfl _ _ b
    rw [addr0] at x y
    rw [Nat.zero_add]
    exact ⟨x, y⟩
/-- An append: the row alone may have turned. -/
theorem Gb.app {w v v' : World} {mb B n : Nat} {x : Value} {T : TypeId} {xs : List Value} (h : Gb mb w v) (hB : w.heap.size ≤ B) (hx : v.ownsRow B T 2 x n xs) (hg : v.grownBy v' x.ownBlock) : Gb mb w v' :=
  ⟨hg.os.trans h.os, hg.tape.trans h.tape, hg.output.trans h.output, Nat.le_trans h.size hg.size, fun k hk hm => (hg.block k (Nat.lt_of_lt_of_le hk h.size) (fun e => by have := (hx.lt k e.symm).1; omega)).trans (h.block k hk hm)⟩
theorem Memo.app {v v' : World} {mb B n : Nat} {x : Value} {T : TypeId} {xs : List Value} {P : Program} {k : TypeId} {f : Int → Int → Int × Int} (h : Memo P k v mb f) (hB : mb < B) (hx : v.ownsRow B T 2 x n xs) (hg : v.grownBy v' x.ownBlock) : Memo P k v' mb f :=
  h.kept (hg.block mb h.lt (fun e => by have := (hx.lt mb e.symm).1; omega))

set_option maxRecDepth 100000 in
set_option maxHeartbeats 4000000 in
theorem midFigs_any (g1 g2 : Nat) (cb1 cb2 : Array Value) (q1 q2 : Nat → Bool) (sb mb : Nat) (s l : Int) (w : World) (hS : Sht w sb mb s l) (hs : sc s = true) (hl : ln l = true)
    (eg1 : ∀ args w, (callFunc g1 args).run Tryd.prog w = .ok (.enter g1 args) w) (eg2 : ∀ args w, (callFunc g2 args).run Tryd.prog w = .ok (.enter g2 args) w)
    (H1 : ∀ W', Gb mb w W' → Sht W' sb mb s l → ∀ i, i < figs s → Calls Tryd.prog g1 (#[.agg #[.int .i64 (loF s l i), .int .i64 (hiF s l i)]] ++ cb1) W' fun e w'' => e = .returned (.bool (q1 i)) ∧ Gr W' w'')
    (H2 : ∀ W', Gb mb w W' → Sht W' sb mb s l → ∀ i, i < figs s → Calls Tryd.prog g2 (#[.agg #[.int .i64 (loF s l i), .int .i64 (hiF s l i)]] ++ cb2) W' fun e w'' => e = .returned (.bool (q2 i)) ∧ Gr W' w'')
    (m1 : ∀ a b, a ≤ b → b < figs s → q1 a = true → q1 b = true) (m2 : ∀ a b, a ≤ b → b < figs s → q2 a = true → q2 b = true) :
    Calls Tryd.prog 79 #[.pointer (some ⟨sb, 0, none⟩), .func (.func g1) #[] cb1, .func (.func g2) #[] cb2] w fun e w' => (∃ v, e = .returned v ∧ Figs w' w.heap.size v (cntF q2 (figs s) - cntF q1 (figs s)) (fun k => atD (onF s (cntF q1 (figs s) + k))) (fun k => atT (onF s (cntF q1 (figs s) + k)))) ∧ Gb mb w w' ∧ Sht w' sb mb s l := by
  have HS := Lib.hid hS
  have ml := hS.cells.2.1
  have HA := Lib.hid (fun W (hg : Gb mb w W) (h : Sht W sb mb s l) => sheetSearch_any g1 cb1 q1 sb mb s l W h hs hl eg1 (fun W' g h' => H1 W' (hg.trans g) h') m1)
  have HB := Lib.hid (fun W (hg : Gb mb w W) (h : Sht W sb mb s l) => sheetSearch_any g2 cb2 q2 sb mb s l W h hs hl eg2 (fun W' g h' => H2 W' (hg.trans g) h') m2)
  have HF := Lib.hid (fun (i : Nat) W hi (h : Sht W sb mb s l) => figure_any sb mb s l i W h hs hi)
  have hN := figs_bd s
  have ha := cntF_le q1 (figs s)
  have hb := cntF_le q2 (figs s)
  generalize cntF q1 (figs s) = a at *
  generalize cntF q2 (figs s) = b at *
  generalize figs s = N at *
  obtain ⟨i0, hi, hz0, hz1, hz2⟩ := info_parts info_fig
  clear hS hs hl eg1 eg2 H1 H2 m1 m2
  generalize hD : (fun k => atD (onF s (a + k))) = D at *
  generalize hT : (fun k => atT (onF s (a + k))) = T at *
  have eD : ∀ k, atD (onF s (a + k)) = D k := fun k => by rw [← hD]
  have eT : ∀ k, atT (onF s (a + k)) = T k := fun k => by rw [← hT]
  have HE := Lib.hid (And.intro eD eT)
  clear hD hT eD eT
  go_enter Tryd.func79, Tryd.ntmps79
  go_wp2_with (first
    | (go_at_call 101; with_reducible refine (HA.out _ (by first | exact (Gb.refl _ _).alloc _) (HS.out.alloc _)).mono ?_; rintro e w1 ⟨rfl, hg1, hs1⟩)
    | (go_at_call 101; with_reducible refine (HB.out _ (((Gb.refl _ _).alloc _).trans hg1) hs1).mono ?_; rintro e w2 ⟨rfl, hg2, hs2⟩))
  have O1 : Figs (w.alloc (.cells #[] 27)) w.heap.size (.slice (some ⟨w.heap.size, 0, none⟩) 0 0) 0 D T := World.ownsRow_made w #[] 0 (Nat.le_refl _) (Nat.zero_le _) rfl
  have O2 := O1.gb (hg1.trans hg2) ml
  have G2 := (((Gb.refl mb w).alloc (.cells #[] 27)).trans hg1).trans hg2
  clear O1 hg1 hg2 hs1
  go_loopw [7, 10] (fun v i wr => ∃ k : Nat, i = .int .i64 (a + k : Nat) ∧ k ≤ b - a ∧ Figs wr w.heap.size v k D T ∧ Gb mb w wr ∧ Sht wr sb mb s l) (fun _ i _ => b - (intOf i).toNat)
  case atStart => exact ⟨0, rfl, by omega, O2, G2, hs2⟩
  case round =>
    obtain ⟨k, rfl, hk, hown, hG, hSh⟩ := hrel
    by_cases hlt : a + k < b
    · have hf := Lib.hid (HF.out (a + k) wr (by omega) hSh)
      rw [HE.out.1, HE.out.2] at hf
      have HW := Lib.hid hown
      have HGl := Lib.hid hG
      have HSl := Lib.hid hSh
      have hsz := hG.size
      clear hown hG hSh O2 G2 hs2
      go_wp2_with (first
        | (go_at_call 106; refine hf.out.mono ?_; rintro e w3 ⟨rfl, hg3⟩; have hrow := HW.out.gb (Gb.of hg3 (b := mb)) ml; have hsz3 := hg3.below.size; have HG3 := Lib.hid hg3; clear hg3)
        | (at_builtin; refine wpList_append_own _ rfl _ _ 66 rfl w.heap.size 27 i0 (.agg #[.int .i64 0, .int .i64 0]) 2 16 Tryd.underlying66 hi hz0 hz1 hz2 rfl (by decide) _ _ _ rfl (hrow.alloc _) ⟨w3.heap.size, 0, none⟩ 1 1 [.int .i64 (D k), .int .i64 (T k)] rfl rfl (two_cells_new _ _ _ _) (by simp [Value.oneCell']) (by unfold maxLen; omega) (by omega) (by simp; omega) ?_; intro v' w4 hown' hgrow _))
      go_roundw
      case rel => exact ⟨k + 1, by go_num, by omega, hown', ((HGl.out.trans (Gb.of HG3.out)).alloc _).app (Nat.le_refl _) (hrow.alloc _) hgrow, HS.out.kept (((HGl.out.trans (Gb.of HG3.out)).alloc _).app (Nat.le_refl _) (hrow.alloc _) hgrow) ((((HSl.out.gr HG3.out).alloc _).memo).app ml (hrow.alloc _) hgrow)⟩
      case measure => simp [intOf]; omega
    · go_wp2
      go_ret
      refine ⟨⟨_, rfl, ?_⟩, hG, hSh⟩
      rw [show b - a = k by omega]
      exact hown

theorem maxInt_any (a b : Int) (w : World) :
    Calls Tryd.prog 103 #[.int .i64 a, .int .i64 b] w fun e w' => e = .returned (.int .i64 (max a b)) ∧ w = w' := by
  by_cases h : a < b
  all_goals
    go_enter Tryd.func103, Tryd.ntmps103
    go_wp2
    go_ret
    exact ⟨ret_int (by omega), rfl⟩
theorem minInt_any (a b : Int) (w : World) :
    Calls Tryd.prog 104 #[.int .i64 a, .int .i64 b] w fun e w' => e = .returned (.int .i64 (min a b)) ∧ w = w' := by
  by_cases h : b < a
  all_goals
    go_enter Tryd.func104, Tryd.ntmps104
    go_wp2
    go_ret
    exact ⟨ret_int (by omega), rfl⟩
theorem max64_any (a b : Int) (w : World) :
    Calls Tryd.prog 108 #[.int .i64 a, .int .i64 b] w fun e w' => e = .returned (.int .i64 (max a b)) ∧ w = w' :=
  (max_any a b w).mono fun e w' ⟨h1, h2⟩ => ⟨by rw [h1]; exact ret_int (by split <;> omega), h2⟩
theorem min64_any (a b : Int) (w : World) :
    Calls Tryd.prog 107 #[.int .i64 a, .int .i64 b] w fun e w' => e = .returned (.int .i64 (min a b)) ∧ w = w' :=
  (min_any a b w).mono fun e w' ⟨h1, h2⟩ => ⟨by rw [h1]; exact ret_int (by split <;> omega), h2⟩

/-- The least of some gaps, beginning with the greatest number. -/
def lstG (G : Nat → Int) (a : Nat) : Nat → Int
  | 0 => 9223372036854775807
  | k + 1 => min (lstG G a k) (G (a + k))
/-- Where the loop begins, and how often it goes round. -/
def ldN (n N : Nat) : Nat := if n = 0 then 1 else if n < N then 2 else 1
theorem lst_off (s l v : Int) (hs : sc s = true) (hl : ln l = true) (hv : -10000000 ≤ v ∧ v ≤ 10000000) : lstG (fun i => gap v (smF s l i)) (nxF s l v - 1) (ldN (nxF s l v) (figs s)) = offR s l v := by
  have hN := figs_bd s
  have hn := nx_le s l v
  have bd : ∀ i, i < figs s → gap v (smF s l i) ≤ 9223372036854775807 := fun i hi => by
    have := plF_bd s l hs hl i hi
    unfold gap smF; omega
  unfold offR ldN
  generalize nxF s l v = n at *
  simp only
  by_cases h0 : n = 0
  · subst h0
    rw [if_pos rfl, if_pos rfl]
    unfold lstG lstG
    have := bd 0 (by omega)
    simp only [Nat.zero_sub, Nat.add_zero]
    omega
  · rw [if_neg h0, if_neg h0]
    by_cases h1 : n < figs s
    · rw [if_pos h1, if_pos h1]
      unfold lstG lstG lstG
      have := bd (n - 1) (by omega)
      simp only [Nat.add_zero]
      rw [show n - 1 + 1 = n by omega]
      omega
    · rw [if_neg h1, if_neg h1]
      unfold lstG lstG
      have := bd (n - 1) (by omega)
      simp only [Nat.add_zero]
      omega
theorem ld_bd (n N : Nat) (hn : n ≤ N) (hN : 900 ≤ N) : (max ((n : Int) - 1) 0) = ((n - 1 : Nat) : Int) ∧ (min (n : Int) ((N : Int) - 1)) = ((n - 1 + ldN n N : Nat) : Int) - 1 ∧ 1 ≤ ldN n N ∧ n - 1 + ldN n N ≤ N := by
  unfold ldN
  split
  · omega
  · split <;> omega
theorem gap_bd (s l v : Int) (hs : sc s = true) (hl : ln l = true) (hv : -10000000 ≤ v ∧ v ≤ 10000000) (i : Nat) (hi : i < figs s) : 0 ≤ gap v (smF s l i) ∧ gap v (smF s l i) ≤ 20000000 := by
  have := plF_bd s l hs hl i hi
  unfold gap smF
  omega
theorem lstG_bd (G : Nat → Int) (a : Nat) : ∀ k, (∀ j, j < k → 0 ≤ G (a + j)) → 0 ≤ lstG G a k ∧ lstG G a k ≤ 9223372036854775807
  | 0, _ => by unfold lstG; omega
  | k + 1, h => by
    have ih := lstG_bd G a k (fun j hj => h j (by omega))
    have := h k (by omega)
    unfold lstG
    omega

set_option maxRecDepth 100000 in
set_option maxHeartbeats 4000000 in
theorem leastDifference_any (sb mb : Nat) (s l v : Int) (w : World) (hS : Sht w sb mb s l) (hs : sc s = true) (hl : ln l = true) (hv : -10000000 ≤ v ∧ v ≤ 10000000) :
    Calls Tryd.prog 78 #[.pointer (some ⟨sb, 0, none⟩), .int .i64 v] w fun e w' => e = .returned (.int .i64 (offR s l v)) ∧ Gb mb w w' ∧ Sht w' sb mb s l := by
  have HS := Lib.hid hS
  have ml := hS.cells.2.1
  have HO := Lib.hid (lst_off s l v hs hl hv)
  have HG := Lib.hid (gap_bd s l v hs hl hv)
  have HP := Lib.hid (plF_bd s l hs hl)
  have hN := figs_bd s
  have hn := nx_le s l v
  have HL := Lib.hid (ld_bd (nxF s l v) (figs s) hn hN.1)
  have HA := Lib.hid (fun W (h : Sht W sb mb s l) (bv : Nat) (hc : W.cell? ⟨bv, 0, none⟩ = some (.int .i64 v)) => show Calls Tryd.prog 101 #[.pointer (some ⟨sb, 0, none⟩), .func (.func 102) #[] #[.pointer (some ⟨bv, 0, none⟩)]] W (fun e w' => e = .returned (.int .i64 (nxF s l v : Nat)) ∧ Gb mb W w' ∧ Sht w' sb mb s l) from
    sheetSearch_any _ _ (fun i => decide (v ≤ smF s l i)) sb mb s l W h hs hl (fun _ _ => by kernel_rfl)
      (fun W' hg hs' i hi => by
        have := plF_bd s l hs hl i hi
        exact cond3_any bv v (loF s l i) (hiF s l i) W' (((Same.of h hs' hg).cell _ _ (World.block_lt_of_cell? W _ hc)).trans hc) (by omega) (by omega) (by omega) (by omega))
      (fun a b x y z => by
        have := sm_mono s l hs hl a b x y
        have z := of_decide_eq_true z
        exact decide_eq_true (by omega)))
  have HF := Lib.hid (fun (i : Nat) W hi (h : Sht W sb mb s l) => figure_any sb mb s l i W h hs hi)
  have HC := Lib.hid (fun W (h : Sht W sb mb s l) => count_any sb mb s l W h hs)
  have HE := Lib.hid (fun (i : Nat) W (hi : i < figs s) (h : Sht W sb mb s l) => show Calls Tryd.prog 98 #[.pointer (some ⟨sb, 0, none⟩), .agg #[.int .i64 (atD (onF s i)), .int .i64 (atT (onF s i))]] W (fun e w' => e = .returned (.agg #[.int .i64 (loF s l i), .int .i64 (hiF s l i)]) ∧ Gb mb W w' ∧ Sht w' sb mb s l ∧ Same W w') from by
    have ht := at_tens s (onF s i) (onF_lt s i hi)
    exact endsOf_eq sb mb s l (atD (onF s i)) (atT (onF s i)) W h hs hl (at_fg _ (by have := onF_lt s i hi; omega)) (dec_5 s _ ht.1 ht.2))
  have HGa := Lib.hid (fun i => show gap v (smF s l i) = max (loF s l i + hiF s l i - v) (v - loF s l i - hiF s l i) from by unfold gap smF; omega)
  generalize nxF s l v = n at *
  generalize figs s = N at *
  generalize ldN n N = c at *
  generalize offR s l v = o at *
  have HM1 := Lib.hid HL.out.1
  have HM2 := Lib.hid (show min (n : Int) ((N : Int) - 1) = ((n - 1 : Nat) : Int) + (c : Int) - 1 by rw [HL.out.2.1, Int.natCast_add])
  have hc1 := HL.out.2.2.1
  have hcN := HL.out.2.2.2
  have hn1 : n ≤ 2700 := by omega
  have hN1 : N ≤ 2700 := hN.2
  have hN0 : 900 ≤ N := hN.1
  have hst1 : n - 1 + c ≤ 2700 := by omega
  clear HL hS hs hl hn hN
  generalize n - 1 = st at *
  have v1 := hv.1
  have v2 := hv.2
  clear hv
  go_enter Tryd.func78, Tryd.ntmps78
  go_wp2_with fail
  have B0 := Blk.new w 2 #[.int .i64 v]
  have G0 : Gr w (w.alloc (.cells #[.int .i64 v] 2)) := (by repeat (first | with_reducible exact Gr.refl _ | with_reducible refine Gr.alloc ?_ _ | with_reducible refine Gr.gr ?_ _ _ | with_reducible refine Gr.drew ?_ | with_reducible refine Gr.drewN ?_ _))
  have S0 := HS.out.gr G0
  generalize (w.alloc (.cells #[.int .i64 v] 2)) = u at *
  have cu : u.cell? ⟨w.heap.size, 0, none⟩ = some (.int .i64 v) := by rw [cell_of_row u _ 0 _ _ _ B0]; rfl
  refine (HA.out u S0 _ cu).mono ?_
  rintro e w1 ⟨rfl, hg1, hs1⟩
  have c1 := ((Same.of S0 hs1 hg1).cell _ _ B0.lt).trans cu
  have G1 := (Gb.of G0 (b := mb)).trans hg1
  clear B0 G0 S0 cu hg1
  go_wp2_with (go_at_call 103; refine (maxInt_any _ _ _).mono ?_; rw [HM1.out]; rintro e w' ⟨rfl, rfl⟩)
  go_loopw [6, 7] (fun x i wr => ∃ k : Nat, i = .int .i64 ((st : Int) + k) ∧ k ≤ c ∧ x = .int .i64 (lstG (fun i => gap v (smF s l i)) st k) ∧ Gb mb w wr ∧ Sht wr sb mb s l ∧ wr.cell? ⟨w.heap.size, 0, none⟩ = some (.int .i64 v)) (fun _ i _ => (st + c) - (intOf i).toNat)
  case atStart => exact ⟨0, by simp, by omega, rfl, G1, hs1, c1⟩
  case round =>
    obtain ⟨k, rfl, hk, rfl, hG, hSh, hc⟩ := hrel
    clear c1 G1 hs1
    have lb := lstG_bd (fun i => gap v (smF s l i)) st k (fun j hj => (HG.out (st + j) (by omega)).1)
    have HC' := Lib.hid (HC.out wr hSh)
    by_cases hlt : k < c
    · have hcond : (st : Int) + k ≤ (st : Int) + c - 1 := by omega
      have HF' := Lib.hid (show Calls Tryd.prog 106 #[.pointer (some ⟨sb, 0, none⟩), .int .i64 ((st : Int) + k)] wr (fun e w' => e = .returned (.agg #[.int .i64 (atD (onF s (st + k))), .int .i64 (atT (onF s (st + k)))]) ∧ Gr wr w') from by
        have := HF.out (st + k) wr (by omega) hSh
        rwa [Int.natCast_add] at this)
      have HE' := Lib.hid (fun W h => HE.out (st + k) W (by omega) h)
      have HX := Lib.hid (HGa.out (st + k))
      have HK := Lib.hid (show lstG (fun i => gap v (smF s l i)) st (k + 1) = min (lstG (fun i => gap v (smF s l i)) st k) (gap v (smF s l (st + k))) from rfl)
      obtain ⟨P1, P2, P3, P4, -⟩ := HP.out (st + k) (by omega)
      generalize hy1 : lstG (fun i => gap v (smF s l i)) st (k + 1) = y1 at *
      have HY := Lib.hid hy1
      clear hy1
      generalize lstG (fun i => gap v (smF s l i)) st k = y0 at *
      generalize gap v (smF s l (st + k)) = gp at *
      generalize loF s l (st + k) = lo at *
      generalize hiF s l (st + k) = hi at *
      generalize atD (onF s (st + k)) = d at *
      generalize atT (onF s (st + k)) = t at *
      go_wp2_with (first
        | (go_at_call 105; refine HC'.out.mono ?_; rintro e w' ⟨rfl, rfl⟩)
        | (go_at_call 104; refine (minInt_any _ _ _).mono ?_; rw [HM2.out]; rintro e w' ⟨rfl, rfl⟩)
        | (go_at_call 106; refine HF'.out.mono ?_; rintro e w2 ⟨rfl, hg2⟩; have hs2 := hSh.gr hg2; have hc2 := (hg2.below.cell (p := ⟨w.heap.size, 0, none⟩) (World.block_lt_of_cell? wr _ hc)).trans hc)
        | (go_at_call 98; refine (HE'.out w2 hs2).mono ?_; rintro e w3 ⟨rfl, hg3, hs3, hsm⟩; have hc3 := (hsm.cell _ _ (World.block_lt_of_cell? w2 _ hc2)).trans hc2; have l3 := World.block_lt_of_cell? w3 _ hc3; clear hsm)
        | (go_at_call 108; refine (max64_any _ _ _).mono ?_; rw [← HX.out]; rintro e w' ⟨rfl, rfl⟩)
        | (go_at_call 107; refine (min64_any _ _ _).mono ?_; rw [← HK.out]; rintro e w' ⟨rfl, rfl⟩))
      go_roundw
      case rel => exact ⟨k + 1, by go_num, by omega, by rw [HY.out], (((hG.trans (Gb.of hg2)).trans hg3).alloc _), hs3.alloc _, (World.cell?_of_block (Below.heap_alloc _ _ _ l3)).trans hc3⟩
      case measure => simp [intOf]; omega
    · obtain rfl : k = c := by omega
      have hcond : ¬ ((st : Int) + k ≤ (st : Int) + k - 1) := by omega
      go_wp2_with (first
        | (go_at_call 105; refine HC'.out.mono ?_; rintro e w' ⟨rfl, rfl⟩)
        | (go_at_call 104; refine (minInt_any _ _ _).mono ?_; rw [HM2.out]; rintro e w' ⟨rfl, rfl⟩))
      go_ret
      exact ⟨ret_int HO.out, hG, hSh⟩
end Go.Proofs.YtgadkpkpdpphbaaDoor
