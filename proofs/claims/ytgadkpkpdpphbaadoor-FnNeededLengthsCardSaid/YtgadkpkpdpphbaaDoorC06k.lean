/- Contracts of chapter 6: the methods of a sheet. -/
import Derived.Test.YtgadkpkpdpphbaaDoorMp
import Derived.Test.YtgadkpkpdpphbaaDoorC06h
import Derived.Test.YtgadkpkpdpphbaaDoorMB
import Derived.Deep.RegionHeld3
import Derived.Test.YtgadkpkpdpphbaaDoorGn
import Derived.BigRegion
namespace Go.Proofs.YtgadkpkpdpphbaaDoor
open Go.RowKit Go.Maps
set_option linter.unusedVariables false
set_option linter.unusedSimpArgs false

theorem fig_keyed : Keyed Tryd.prog 27 := Keyed.of_law (deep_law_laid (m := 4) (by kernel_rfl) (by decide) (of_decide_eq_true (by kernel_rfl)) (by kernel_rfl) (by kernel_rfl))
theorem fig_wf {d t : Int} (h : fg d t = true) : (Lit.int .i64 d).wf = true ∧ (Lit.int .i64 t).wf = true := by
  obtain ⟨⟨d1, d2⟩, t1, t2⟩ := (fg_iff d t).1 h
  exact ⟨WalkArith.wf_i64 (by omega), WalkArith.wf_i64 (by omega)⟩
theorem fig_key {d t : Int} (h : fg d t = true) : ∃ l, keyOf Tryd.prog 27 (figV d t) = some l :=
  ⟨_, keyOf_two (e := 2) (by kernel_rfl) (by kernel_rfl) (by kernel_rfl) (by kernel_rfl) (by kernel_rfl) ⟨Tryd.prog.types.size - 1, by kernel_rfl⟩ (fig_wf h).1 (fig_wf h).2⟩
theorem map_under : Tryd.prog.underlying 86 = some (.map 27 101) := by kernel_rfl
theorem ends_zero (w : World) : (zeroValue 101).run Tryd.prog w = .ok (endV (0, 0)) w := by kernel_rfl
end Go.Proofs.YtgadkpkpdpphbaaDoor

namespace Go.Proofs.YtgadkpkpdpphbaaDoor
open Go.RowKit Go.Maps
open Go.WideElems (Fit)
set_option linter.unusedVariables false
set_option linter.unusedSimpArgs false

abbrev plF (s l : Int) : Int → Int → Int × Int := fun d t => pl s d t l
/-- A sheet: its scale, its length, its map. -/
structure Sht (w : World) (sb mb : Nat) (s l : Int) : Prop where
  blk : Blk w sb 88 #[.int .i64 s, .int .i64 l, .map (some mb)]
  memo : Memo Tryd.prog 27 w mb (plF s l)
  dcs : Dcs w
theorem Sht.ne {w : World} {sb mb : Nat} {s l : Int} (h : Sht w sb mb s l) : sb ≠ mb := by
  rintro rfl
  obtain ⟨es, c, hb, -⟩ := h.memo
  have := h.blk
  unfold Blk at this
  rw [hb] at this
  cases this
theorem Dcs.gb {w w' : World} {mb : Nat} {es : Array MapEntry} {c : Nat} (h : Dcs w) (hm : MapAt w mb es c) (hg : Gb mb w w') : Dcs w' := by
  intro i hi
  have hc := h i hi
  exact (World.cell?_of_block (hg.block _ (World.block_lt_of_cell? w _ hc) (fun e => hm.ne hc (by cases e; rfl)))).trans hc
theorem Sht.kept {w w' : World} {sb mb : Nat} {s l : Int} (h : Sht w sb mb s l) (hg : Gb mb w w') (hm : Memo Tryd.prog 27 w' mb (plF s l)) : Sht w' sb mb s l := by
  obtain ⟨es, c, hb, r⟩ := h.memo
  exact ⟨(hg.block sb h.blk.lt (fun e => h.ne (by cases e; rfl))).trans h.blk, hm, h.dcs.gb (mb := mb) (es := es) (c := c) hb hg⟩
theorem Sht.gr {w w' : World} {sb mb : Nat} {s l : Int} (h : Sht w sb mb s l) (hg : Gr w w') : Sht w' sb mb s l :=
  h.kept (Gb.of hg) (h.memo.kept (hg.below.block mb h.memo.lt))
/-- What the walk wants to know of a sheet. -/
theorem Sht.cells {w : World} {sb mb : Nat} {s l : Int} (h : Sht w sb mb s l) : sb < w.heap.size ∧ mb < w.heap.size ∧ w.cell? ⟨sb, 0, none⟩ = some (.int .i64 s) ∧ w.cell? ⟨sb, 1, none⟩ = some (.int .i64 l) ∧ w.cell? ⟨sb, 2, none⟩ = some (.map (some mb)) := by
  have c0 := cell_of_row w sb 0 _ _ _ h.blk
  have c1 := cell_of_row w sb 1 _ _ _ h.blk
  have c2 := cell_of_row w sb 2 _ _ _ h.blk
  simp at c0 c1 c2
  exact ⟨h.blk.lt, h.memo.lt, c0, c1, c2⟩

theorem Sht.turned {w w' : World} {sb mb : Nat} {s l : Int} (h : Sht w sb mb s l) (hg : Gb mb w w') {es' : Array MapEntry} {c' : Nat} (hm : MapAt w' mb es' c') (F : Fit Tryd.prog 27 R0 es' c')
    (hall : ∀ x ∈ es'.toList, ∃ d t, fg d t = true ∧ x.key = figV d t ∧ x.val = endV (plF s l d t)) : Gb mb w w' ∧ Sht w' sb mb s l := ⟨hg, h.kept hg ⟨es', c', hm, F, hall⟩⟩

set_option maxRecDepth 100000 in
set_option maxHeartbeats 1000000 in
theorem endsOf_any (sb mb : Nat) (s l d t : Int) (w : World) (hS : Sht w sb mb s l) (hs : sc s = true) (hl : ln l = true) (hf : fg d t = true) (h5 : ¬ (s = 5 ∧ t ≠ 0)) :
    Calls Tryd.prog 98 #[.pointer (some ⟨sb, 0, none⟩), .agg #[.int .i64 d, .int .i64 t]] w fun e w' => e = .returned (.agg #[.int .i64 (pl s d t l).1, .int .i64 (pl s d t l).2]) ∧ Gb mb w w' ∧ Sht w' sb mb s l := by
  have HS := Lib.hid hS
  obtain ⟨sl, ml, c0, c1, c2⟩ := hS.cells
  obtain ⟨es, c, hb, F, hall⟩ := hS.memo
  have hm : MapAt w mb es c := hb
  obtain ⟨lk, hkey⟩ := fig_key hf
  have HP := Lib.hid (pl_ok s d t l hf hs h5 hl)
  have HL := look_memo fig_keyed map_under ends_zero F (plF s l) hall mb d t hkey
  have HN := Lib.hid (fun hno => store_memo fig_keyed map_under F (plF s l) hall mb d t hf hkey hno)
  have HD := Lib.hid hS.dcs
  have hall' := Lib.hid hall
  clear hS hb hall
  show Calls Tryd.prog 98 #[.pointer (some ⟨sb, 0, none⟩), figV d t] w fun e w' => e = .returned (endV (pl s d t l)) ∧ Gb mb w w' ∧ Sht w' sb mb s l
  rcases HL with ⟨hno, hlk⟩ | hlk
  · obtain ⟨es', c', hst, F', hall2⟩ := HN.out hno
    have hall2' := Lib.hid hall2
    clear hno HN hall2
    change ∀ w, MapAt w mb es c → (Instr.lookup _ (.map (some mb)) (.agg #[.int .i64 d, .int .i64 t]) true).run _ w = .ok (.tuple #[.agg #[.int .i64 0, .int .i64 0], .bool false]) w at hlk
    change ∀ w, MapAt w mb es c → (Instr.mapUpdate _ (.map (some mb)) (.agg #[.int .i64 d, .int .i64 t]) (.agg #[.int .i64 (pl s d t l).1, .int .i64 (pl s d t l).2])).run _ w = .ok () (turnMap w mb es c es' c') at hst
    change Calls Tryd.prog 98 #[.pointer (some ⟨sb, 0, none⟩), .agg #[.int .i64 d, .int .i64 t]] w fun e w' => e = .returned (.agg #[.int .i64 (pl s d t l).1, .int .i64 (pl s d t l).2]) ∧ Gb mb w w' ∧ Sht w' sb mb s l
    go_enter Tryd.func98, Tryd.ntmps98
    go_wp2
    obtain ⟨nv, B0, B1, G0⟩ := two_new w 27 101 (.int .i64 d) (.int .i64 t) (.int .i64 0) (.int .i64 0)
    have HG := Lib.hid G0
    have HSv := HS.out.gr G0
    have hmv : MapAt ((w.alloc (.cells #[.int .i64 d, .int .i64 t] 27)).alloc (.cells #[.int .i64 0, .int .i64 0] 101)) mb es c := by simp [mapAt_cells, hm]
    clear hm sl ml c0 c1 c2 G0
    generalize (w.alloc (.cells #[.int .i64 d, .int .i64 t] 27)).alloc (.cells #[.int .i64 0, .int .i64 0] 101) = v at *
    have NV := Lib.hid nv
    have lt0 := B0.lt
    have lt1 := B1.lt
    obtain ⟨x0, x1, xf⟩ := B0.two
    obtain ⟨y0, y1, yf⟩ := B1.two
    obtain ⟨sl, ml, c0, c1, c2⟩ := HSv.cells
    have HS2 := Lib.hid HSv
    have HB := Lib.hid (And.intro B0 B1)
    clear HSv B0 B1 nv
    go_region
    have hm2 : MapAt (v.alloc (.cells #[.int .i64 0, .int .i64 0] 101)).drew mb es c := by rw [mapAt_drew, mapAt_cells]; exact hmv
    have G2 : Gr v (v.alloc (.cells #[.int .i64 0, .int .i64 0] 101)).drew := ((Gr.refl v).alloc _).drew
    have Z2 : Blk (v.alloc (.cells #[.int .i64 0, .int .i64 0] 101)).drew v.heap.size 101 #[.int .i64 0, .int .i64 0] := Blk.new v _ _
    clear x0 x1 xf y0 y1 yf sl ml c0 c1 c2 hmv lt0 lt1
    have GU := Lib.hid (HG.out.trans G2)
    generalize (v.alloc (.cells #[.int .i64 0, .int .i64 0] 101)).drew = u at *
    have X2 := HB.out.1.gr G2
    have Y2 := HB.out.2.gr G2
    obtain ⟨x0, x1, xf⟩ := X2.two
    obtain ⟨y0, y1, yf⟩ := Y2.two
    obtain ⟨z0, z1, zf⟩ := Z2.two
    have lt0 := X2.lt
    have lt1 := Y2.lt
    have lt2 := Z2.lt
    have HS3 := Lib.hid (HS2.out.gr G2)
    obtain ⟨sl, ml, c0, c1, c2⟩ := HS3.out.cells
    have HD3 := Lib.hid HS3.out.dcs
    have HG3 := Lib.hid (And.intro HG.out.below.size G2.below.size)
    clear X2 Y2 Z2 G2 HS2
    have ltv := HB.out.1.lt
    have ltv1 := HB.out.2.lt
    have ne0 : ¬ w.heap.size = v.heap.size := by omega
    have ne0' : ¬ v.heap.size = w.heap.size := by omega
    have ne1 : ¬ w.heap.size + 1 = v.heap.size := by omega
    have ne1' : ¬ v.heap.size = w.heap.size + 1 := by omega
    have hg0 := Lib.hid (turn_read hm2 es' c' ne1 lt1 y0)
    have hg1 := Lib.hid (turn_read hm2 es' c' ne1 lt1 y1)
    go_wp2
    go_region_held3 (fun w' => w'.cell? ⟨sb, 0, none⟩ = some (.int .i64 s) ∧ w'.cell? ⟨sb, 1, none⟩ = some (.int .i64 l) ∧ w'.cell? ⟨w.heap.size, 0, none⟩ = some (.int .i64 d) ∧ w'.cell? ⟨w.heap.size, 1, none⟩ = some (.int .i64 t)) (first | (go_simp; done) | exact ⟨keepB (by repeat (first | with_reducible exact Bl.refl _ | with_reducible refine Bl.alloc ?_ _ | with_reducible refine Bl.gr ?_ _ _ | with_reducible refine Bl.drew ?_ | with_reducible refine Bl.set ?_ _ _ (by first | (simp; done) | (simp; omega) | omega | (simp [gr_size]; done) | (simp [gr_size]; omega) | (simp [gr_size, turn_size]; omega)))) sl c0, keepB (by repeat (first | with_reducible exact Bl.refl _ | with_reducible refine Bl.alloc ?_ _ | with_reducible refine Bl.gr ?_ _ _ | with_reducible refine Bl.drew ?_ | with_reducible refine Bl.set ?_ _ _ (by first | (simp; done) | (simp; omega) | omega | (simp [gr_size]; done) | (simp [gr_size]; omega) | (simp [gr_size, turn_size]; omega)))) sl c1, keepB (by repeat (first | with_reducible exact Bl.refl _ | with_reducible refine Bl.alloc ?_ _ | with_reducible refine Bl.gr ?_ _ _ | with_reducible refine Bl.drew ?_ | with_reducible refine Bl.set ?_ _ _ (by first | (simp; done) | (simp; omega) | omega | (simp [gr_size]; done) | (simp [gr_size]; omega) | (simp [gr_size, turn_size]; omega)))) lt0 x0, keepB (by repeat (first | with_reducible exact Bl.refl _ | with_reducible refine Bl.alloc ?_ _ | with_reducible refine Bl.gr ?_ _ _ | with_reducible refine Bl.drew ?_ | with_reducible refine Bl.set ?_ _ _ (by first | (simp; done) | (simp; omega) | omega | (simp [gr_size]; done) | (simp [gr_size]; omega) | (simp [gr_size, turn_size]; omega)))) lt0 x1⟩) (first
      | (go_at_call 23; refine (plR_impl s d t l _ (HD3.out.gr (by repeat (first | with_reducible exact Gr.refl _ | with_reducible refine Gr.alloc ?_ _ | with_reducible refine Gr.gr ?_ _ _ | with_reducible refine Gr.drew ?_ | with_reducible refine Gr.drewN ?_ _)))).mono ?_; rw [HP.out]; rintro e w' ⟨rfl, k, os, rfl⟩))
    all_goals
      go_wp2
      go_region
      go_wp2
      ((try simp only [Exit.inBlock, Exit.then]); refine bodyPost_ret (v := .agg #[.int .i64 (pl s d t l).1, .int .i64 (pl s d t l).2]) (by simp [results, Tryd.results98, go_sem, hg0.out.1, hg0.out.2, hg1.out.1, hg1.out.2, World.cell?_setCell_same']) rfl ?_)
      exact ⟨rfl, HS.out.turned (by repeat (first | with_reducible exact Gb.of GU.out | with_reducible refine Gb.alloc ?_ _ | with_reducible refine Gb.gr ?_ _ _ | with_reducible refine Gb.drew ?_ | with_reducible refine Gb.set ?_ _ _ (by first | (simp; done) | (simp; omega) | omega) | with_reducible refine Gb.turn ?_ (by go_simp) _ _)) (by simp only [mapAt_setCell]; exact turn_at (by go_simp) _ _) F' hall2'.out⟩
  · have HF := Lib.hid F
    clear HN
    change ∀ w, MapAt w mb es c → (Instr.lookup _ (.map (some mb)) (.agg #[.int .i64 d, .int .i64 t]) true).run _ w = .ok (.tuple #[.agg #[.int .i64 (pl s d t l).1, .int .i64 (pl s d t l).2], .bool true]) w at hlk
    change Calls Tryd.prog 98 #[.pointer (some ⟨sb, 0, none⟩), .agg #[.int .i64 d, .int .i64 t]] w fun e w' => e = .returned (.agg #[.int .i64 (pl s d t l).1, .int .i64 (pl s d t l).2]) ∧ Gb mb w w' ∧ Sht w' sb mb s l
    go_enter Tryd.func98, Tryd.ntmps98
    go_wp2
    obtain ⟨nv, B0, B1, G0⟩ := two_new w 27 101 (.int .i64 d) (.int .i64 t) (.int .i64 0) (.int .i64 0)
    have HG := Lib.hid G0
    have HSv := HS.out.gr G0
    have hmv : MapAt ((w.alloc (.cells #[.int .i64 d, .int .i64 t] 27)).alloc (.cells #[.int .i64 0, .int .i64 0] 101)) mb es c := by simp [mapAt_cells, hm]
    clear hm sl ml c0 c1 c2 G0
    generalize (w.alloc (.cells #[.int .i64 d, .int .i64 t] 27)).alloc (.cells #[.int .i64 0, .int .i64 0] 101) = v at *
    have NV := Lib.hid nv
    have lt0 := B0.lt
    have lt1 := B1.lt
    obtain ⟨x0, x1, xf⟩ := B0.two
    obtain ⟨y0, y1, yf⟩ := B1.two
    obtain ⟨sl, ml, c0, c1, c2⟩ := HSv.cells
    have HS2 := Lib.hid HSv
    have HB := Lib.hid (And.intro B0 B1)
    clear HSv B0 B1 nv
    have ltv : w.heap.size < v.heap.size := lt0
    go_region
    all_goals
      go_wp2
      ((try simp only [Exit.inBlock, Exit.then]); refine bodyPost_ret (v := .agg #[.int .i64 (pl s d t l).1, .int .i64 (pl s d t l).2]) (by simp [results, Tryd.results98, go_sem, y0, y1, lt1, World.cell?_setCell_same']) rfl ?_)
      exact ⟨rfl, HS.out.turned (by repeat (first | with_reducible exact Gb.of HG.out | with_reducible refine Gb.alloc ?_ _ | with_reducible refine Gb.gr ?_ _ _ | with_reducible refine Gb.drew ?_ | with_reducible refine Gb.set ?_ _ _ (by first | (simp; done) | (simp; omega) | omega))) (by simp only [mapAt_drew, mapAt_cells, mapAt_setCell]; exact hmv) HF.out hall'.out⟩
end Go.Proofs.YtgadkpkpdpphbaaDoor

namespace Go.Proofs.YtgadkpkpdpphbaaDoor
open Go.RowKit Go.Maps
open Go.WideElems (Fit)
set_option linter.unusedVariables false
set_option linter.unusedSimpArgs false

/-- What a callee that may turn the map leaves as it was: for the walk. -/
structure Same (w w' : World) : Prop where
  cell : ∀ n i, n < w.heap.size → w'.cell? ⟨n, i, none⟩ = w.cell? ⟨n, i, none⟩
  frozen : ∀ n i, n < w.heap.size → w'.frozen? ⟨n, i, none⟩ = w.frozen? ⟨n, i, none⟩
  lt : ∀ n, n < w.heap.size → n < w'.heap.size
  le : w.heap.size ≤ w'.heap.size
theorem Same.refl (w : World) : Same w w := ⟨fun _ _ _ => rfl, fun _ _ _ => rfl, fun _ h => h, Nat.le_refl _⟩
theorem Same.trans {u v w : World} (h : Same u v) (h' : Same v w) : Same u w :=
  ⟨fun n i hn => (h'.cell n i (h.lt n hn)).trans (h.cell n i hn), fun n i hn => (h'.frozen n i (h.lt n hn)).trans (h.frozen n i hn), fun n hn => h'.lt n (h.lt n hn), Nat.le_trans h.le h'.le⟩
theorem Same.alloc {u v : World} (h : Same u v) (o : Obj) : Same u (v.alloc o) :=
  h.trans ⟨fun n i hn => World.cell?_of_block (Below.heap_alloc v o n hn), fun n i hn => World.frozen?_of_block (Below.heap_alloc v o n hn), fun n hn => by rw [World.size_alloc]; omega, by rw [World.size_alloc]; omega⟩
theorem Same.drew {u v : World} (h : Same u v) : Same u v.drew := ⟨h.cell, h.frozen, h.lt, h.le⟩
theorem Same.set {u v : World} (h : Same u v) (a : Addr) (x : Value) (ha : u.heap.size ≤ a.block) : Same u (v.setCell a x) :=
  ⟨fun n i hn => (World.cell?_of_block (Below.heap_setCell v a x n (by omega))).trans (h.cell n i hn), fun n i hn => (World.frozen?_of_block (Below.heap_setCell v a x n (by omega))).trans (h.frozen n i hn),
    fun n hn => by have := h.lt n hn; simpa [World.setCell] using this, by simpa [World.setCell] using h.le⟩
theorem Same.ne {u v : World} (h : Same u v) : (∀ n, n < u.heap.size → ¬ v.heap.size = n) ∧ (∀ n, n < u.heap.size → ¬ n = v.heap.size) :=
  ⟨fun n hn e => by have := h.lt n hn; omega, fun n hn e => by have := h.lt n hn; omega⟩
theorem Same.undrew {u v : World} (h : Same u.drew v) : Same u v := ⟨h.cell, h.frozen, h.lt, h.le⟩
theorem map_none {w : World} {mb c : Nat} {es : Array MapEntry} (h : MapAt w mb es c) (i : Nat) : w.cell? ⟨mb, i, none⟩ = none ∧ w.frozen? ⟨mb, i, none⟩ = false := by
  unfold MapAt at h
  constructor
  · simp only [World.cell?, h]
  · simp only [World.frozen?, h]
theorem Same.of {w w' : World} {sb mb : Nat} {s l : Int} (h : Sht w sb mb s l) (h' : Sht w' sb mb s l) (hg : Gb mb w w') : Same w w' := by
  obtain ⟨es, c, hb, -⟩ := h.memo
  obtain ⟨es', c', hb', -⟩ := h'.memo
  refine ⟨fun n i hn => ?_, fun n i hn => ?_, fun n hn => Nat.lt_of_lt_of_le hn hg.size, hg.size⟩
  · by_cases e : n = mb
    · subst e; rw [(map_none (c := c) (es := es) hb i).1, (map_none (c := c') (es := es') hb' i).1]
    · exact World.cell?_of_block (hg.block n hn (fun x => e (by cases x; rfl)))
  · by_cases e : n = mb
    · subst e; rw [(map_none (c := c) (es := es) hb i).2, (map_none (c := c') (es := es') hb' i).2]
    · exact World.frozen?_of_block (hg.block n hn (fun x => e (by cases x; rfl)))
theorem endsOf_eq (sb mb : Nat) (s l d t : Int) (w : World) (hS : Sht w sb mb s l) (hs : sc s = true) (hl : ln l = true) (hf : fg d t = true) (h5 : ¬ (s = 5 ∧ t ≠ 0)) :
    Calls Tryd.prog 98 #[.pointer (some ⟨sb, 0, none⟩), .agg #[.int .i64 d, .int .i64 t]] w fun e w' => e = .returned (.agg #[.int .i64 (pl s d t l).1, .int .i64 (pl s d t l).2]) ∧ Gb mb w w' ∧ Sht w' sb mb s l ∧ Same w w' :=
  (endsOf_any sb mb s l d t w hS hs hl hf h5).mono fun e w' ⟨h1, h2, h3⟩ => ⟨h1, h2, h3, Same.of hS h3 h2⟩

theorem newSheet_any (s l : Int) (w : World) (hD : Dcs w) :
    Calls Tryd.prog 62 #[.int .i64 s, .int .i64 l] w fun e w' => e = .returned (.pointer (some ⟨w.heap.size + 1, 0, none⟩)) ∧ Gr w w' ∧ Sht w' (w.heap.size + 1) w.heap.size s l := by
  have HD := Lib.hid hD
  clear hD
  have hmm := @run_makeMap Tryd.prog
  go_enter Tryd.func62, Tryd.ntmps62
  go_wp2
  go_ret
  have G : Gr w ((w.alloc (.map #[] 0)).alloc (.cells #[.int .i64 s, .int .i64 l, .map (some w.heap.size)] 88)) := (by repeat (first | with_reducible exact Gr.refl _ | with_reducible refine Gr.alloc ?_ _ | with_reducible refine Gr.gr ?_ _ _ | with_reducible refine Gr.drew ?_ | with_reducible refine Gr.drewN ?_ _))
  refine ⟨rfl, G, ?_, ?_, HD.out.gr G⟩
  · have := Blk.new (w.alloc (.map #[] 0)) 88 #[.int .i64 s, .int .i64 l, .map (some w.heap.size)]
    simpa using this
  · exact (Memo.made w (plF s l)).kept (Below.heap_alloc _ _ _ (by simp))

theorem figure_any (sb mb : Nat) (s l : Int) (i : Nat) (w : World) (hS : Sht w sb mb s l) (hs : sc s = true) (hi : i < figs s) :
    Calls Tryd.prog 106 #[.pointer (some ⟨sb, 0, none⟩), .int .i64 i] w fun e w' => e = .returned (.agg #[.int .i64 (atD (onF s i)), .int .i64 (atT (onF s i))]) ∧ Gr w w' := by
  obtain ⟨sl, ml, c0, c1, c2⟩ := hS.cells
  have hb := figs_bd s
  have hi2 : i < 2700 := by omega
  have hoi := onF_lt s i hi
  have E := Lib.hid (show atD (onF s i) = 1000 + 10 * (((onF s i : Nat) : Int) % 900) ∧ atT (onF s i) = ((onF s i : Nat) : Int) / 900 from ⟨rfl, rfl⟩)
  generalize atD (onF s i) = x at *
  generalize atT (onF s i) = y at *
  rcases scale_cases s hs with rfl | rfl | rfl | rfl | rfl | rfl
  · rw [onF_id 0 i (by decide) (by decide)] at E
    have e1 : (i : Int).tmod 900 = (i : Int) % 900 := Int.tmod_eq_emod_of_nonneg (by omega)
    have e2 : (i : Int).tdiv 900 = (i : Int) / 900 := Int.tdiv_eq_ediv_of_nonneg (by omega)
    clear hS hs hoi hi hb
    go_enter Tryd.func106, Tryd.ntmps106
    go_wp2
    ((try simp only [Exit.inBlock, Exit.then]); refine bodyPost_ret (v := .agg #[.int .i64 (1000 + (i : Int) % 900 * 10), .int .i64 ((i : Int) / 900)]) (by simp [results, Tryd.results106, go_sem]) rfl ?_)
    exact ⟨ret_agg (by rw [E.out.1]; omega) (by rw [E.out.2]), (by repeat (first | with_reducible exact Gr.refl _ | with_reducible refine Gr.alloc ?_ _ | with_reducible refine Gr.gr ?_ _ _ | with_reducible refine Gr.drew ?_ | with_reducible refine Gr.drewN ?_ _))⟩
  · rw [onF_id 1 i (by decide) (by decide)] at E
    have e1 : (i : Int).tmod 900 = (i : Int) % 900 := Int.tmod_eq_emod_of_nonneg (by omega)
    have e2 : (i : Int).tdiv 900 = (i : Int) / 900 := Int.tdiv_eq_ediv_of_nonneg (by omega)
    clear hS hs hoi hi hb
    go_enter Tryd.func106, Tryd.ntmps106
    go_wp2
    ((try simp only [Exit.inBlock, Exit.then]); refine bodyPost_ret (v := .agg #[.int .i64 (1000 + (i : Int) % 900 * 10), .int .i64 ((i : Int) / 900)]) (by simp [results, Tryd.results106, go_sem]) rfl ?_)
    exact ⟨ret_agg (by rw [E.out.1]; omega) (by rw [E.out.2]), (by repeat (first | with_reducible exact Gr.refl _ | with_reducible refine Gr.alloc ?_ _ | with_reducible refine Gr.gr ?_ _ _ | with_reducible refine Gr.drew ?_ | with_reducible refine Gr.drewN ?_ _))⟩
  · rw [onF_id 2 i (by decide) (by decide)] at E
    have e1 : (i : Int).tmod 900 = (i : Int) % 900 := Int.tmod_eq_emod_of_nonneg (by omega)
    have e2 : (i : Int).tdiv 900 = (i : Int) / 900 := Int.tdiv_eq_ediv_of_nonneg (by omega)
    clear hS hs hoi hi hb
    go_enter Tryd.func106, Tryd.ntmps106
    go_wp2
    ((try simp only [Exit.inBlock, Exit.then]); refine bodyPost_ret (v := .agg #[.int .i64 (1000 + (i : Int) % 900 * 10), .int .i64 ((i : Int) / 900)]) (by simp [results, Tryd.results106, go_sem]) rfl ?_)
    exact ⟨ret_agg (by rw [E.out.1]; omega) (by rw [E.out.2]), (by repeat (first | with_reducible exact Gr.refl _ | with_reducible refine Gr.alloc ?_ _ | with_reducible refine Gr.gr ?_ _ _ | with_reducible refine Gr.drew ?_ | with_reducible refine Gr.drewN ?_ _))⟩
  · rw [figs_3] at hi
    rw [onF_3, show ((899 - i : Nat) : Int) = 899 - (i : Int) by omega] at E
    have e1 : (899 - (i : Int)).tmod 900 = (899 - (i : Int)) % 900 := Int.tmod_eq_emod_of_nonneg (by omega)
    have e2 : (899 - (i : Int)).tdiv 900 = (899 - (i : Int)) / 900 := Int.tdiv_eq_ediv_of_nonneg (by omega)
    clear hS hs hoi hb
    go_enter Tryd.func106, Tryd.ntmps106
    go_wp2
    ((try simp only [Exit.inBlock, Exit.then]); refine bodyPost_ret (v := .agg #[.int .i64 (1000 + (899 - (i : Int)) % 900 * 10), .int .i64 ((899 - (i : Int)) / 900)]) (by simp [results, Tryd.results106, go_sem]) rfl ?_)
    exact ⟨ret_agg (by rw [E.out.1]; omega) (by rw [E.out.2]), (by repeat (first | with_reducible exact Gr.refl _ | with_reducible refine Gr.alloc ?_ _ | with_reducible refine Gr.gr ?_ _ _ | with_reducible refine Gr.drew ?_ | with_reducible refine Gr.drewN ?_ _))⟩
  · rw [figs_4] at hi
    rw [onF_4, show (((i + 215) % 900 : Nat) : Int) = ((i : Int) + 215) % 900 by omega] at E
    have e0 : ((i : Int) + 215).tmod 900 = ((i : Int) + 215) % 900 := Int.tmod_eq_emod_of_nonneg (by omega)
    have m0 : 0 ≤ ((i : Int) + 215) % 900 := by omega
    have m1 : ((i : Int) + 215) % 900 < 900 := by omega
    have e1 : (((i : Int) + 215) % 900).tmod 900 = (((i : Int) + 215) % 900) % 900 := Int.tmod_eq_emod_of_nonneg m0
    have e2 : (((i : Int) + 215) % 900).tdiv 900 = (((i : Int) + 215) % 900) / 900 := Int.tdiv_eq_ediv_of_nonneg m0
    have E1 := Lib.hid (And.intro m0 m1)
    clear hS hs hoi hb
    go_enter Tryd.func106, Tryd.ntmps106
    go_wp2
    ((try simp only [Exit.inBlock, Exit.then]); refine bodyPost_ret (v := .agg #[.int .i64 (1000 + ((i : Int) + 215) % 900 * 10), .int .i64 (((i : Int) + 215) % 900 / 900)]) (by simp [results, Tryd.results106, go_sem]) rfl ?_)
    exact ⟨ret_agg (by rw [E.out.1]; omega) (by rw [E.out.2]), (by repeat (first | with_reducible exact Gr.refl _ | with_reducible refine Gr.alloc ?_ _ | with_reducible refine Gr.gr ?_ _ _ | with_reducible refine Gr.drew ?_ | with_reducible refine Gr.drewN ?_ _))⟩
  · rw [onF_id 5 i (by decide) (by decide)] at E
    have e1 : (i : Int).tmod 900 = (i : Int) % 900 := Int.tmod_eq_emod_of_nonneg (by omega)
    have e2 : (i : Int).tdiv 900 = (i : Int) / 900 := Int.tdiv_eq_ediv_of_nonneg (by omega)
    clear hS hs hoi hi hb
    go_enter Tryd.func106, Tryd.ntmps106
    go_wp2
    ((try simp only [Exit.inBlock, Exit.then]); refine bodyPost_ret (v := .agg #[.int .i64 (1000 + (i : Int) % 900 * 10), .int .i64 ((i : Int) / 900)]) (by simp [results, Tryd.results106, go_sem]) rfl ?_)
    exact ⟨ret_agg (by rw [E.out.1]; omega) (by rw [E.out.2]), (by repeat (first | with_reducible exact Gr.refl _ | with_reducible refine Gr.alloc ?_ _ | with_reducible refine Gr.gr ?_ _ _ | with_reducible refine Gr.drew ?_ | with_reducible refine Gr.drewN ?_ _))⟩

theorem count_any (sb mb : Nat) (s l : Int) (w : World) (hS : Sht w sb mb s l) (hs : sc s = true) :
    Calls Tryd.prog 105 #[.pointer (some ⟨sb, 0, none⟩)] w fun e w' => e = .returned (.int .i64 (figs s : Nat)) ∧ w = w' := by
  obtain ⟨sl, ml, c0, c1, c2⟩ := hS.cells
  have F := Lib.hid (figs_is s)
  have d0 := hS.dcs 0 (by omega)
  rw [show dec ((0 : Nat) : Int) = 1 from rfl] at d0
  have d1 := hS.dcs 1 (by omega)
  rw [show dec ((1 : Nat) : Int) = 2 from rfl] at d1
  have d2 := hS.dcs 2 (by omega)
  rw [show dec ((2 : Nat) : Int) = 3 from rfl] at d2
  have d3 := hS.dcs 3 (by omega)
  rw [show dec ((3 : Nat) : Int) = 1 from rfl] at d3
  have d4 := hS.dcs 4 (by omega)
  rw [show dec ((4 : Nat) : Int) = 1 from rfl] at d4
  have d5 := hS.dcs 5 (by omega)
  rw [show dec ((5 : Nat) : Int) = 1 from rfl] at d5
  generalize ((figs s : Nat) : Int) = n at *
  rcases scale_cases s hs with rfl | rfl | rfl | rfl | rfl | rfl
  all_goals
    clear hS hs
    go_enter Tryd.func105, Tryd.ntmps105
    go_wp2
    go_ret
    exact ⟨ret_int (by rw [F.out]; rfl), rfl⟩

/-- Only these two blocks may have turned. -/
structure Gs (sb mb : Nat) (w w' : World) : Prop where
  os : w'.os = w.os
  tape : w'.tape = w.tape
  output : w'.output = w.output
  size : w.heap.size ≤ w'.heap.size
  block : ∀ k, k < w.heap.size → k ≠ sb → k ≠ mb → w'.heap[k]? = w.heap[k]?
theorem clear_run {es : Array MapEntry} {c mb : Nat} {ty : TypeId} (w : World) (h : MapAt w mb es c) : (Builtin.clear_ #[86] ty #[.map (some mb)]).run Tryd.prog w = .ok (.tuple #[]) (turnMap w mb es c #[] c) := by
  have hb : w.heap[mb]? = some (.map es c) := h
  simp [Builtin.clear_, run_underlying map_under, MapKept.run_getObj_map hb, MapKept.run_setObj_map _ hb, Result.andThen, turnMap, Go.ChangeMaps.setBlock]
theorem Sht.tab {w : World} {sb mb : Nat} {s l : Int} (h : Sht w sb mb s l) : sb ≠ 0 := by
  rintro rfl
  have a := h.dcs 5 (by omega)
  rw [cell_of_row w _ 5 _ _ _ h.blk] at a
  simp at a
theorem printOn_any (sb mb : Nat) (s l l2 : Int) (w : World) (hS : Sht w sb mb s l) :
    Calls Tryd.prog 63 #[.pointer (some ⟨sb, 0, none⟩), .int .i64 l2] w fun e w' => e = .returned (.tuple #[]) ∧ Sht w' sb mb s l2 ∧ Gs sb mb w w' := by
  have HS := Lib.hid hS
  obtain ⟨sl, ml, c0, c1, c2⟩ := hS.cells
  obtain ⟨es, c, hb, F, hall⟩ := hS.memo
  have hm : MapAt w mb es c := hb
  have fr : ∀ i, w.frozen? ⟨sb, i, none⟩ = false := fun i => free_row hS.blk i
  have hcl := fun (ty : TypeId) (W : World) (h : MapAt W mb es c) => clear_run (ty := ty) W h
  clear hS hb F hall
  go_enter Tryd.func63, Tryd.ntmps63
  go_wp2
  go_end0
  have hw : MapAt (w.setCell ⟨sb, 1, none⟩ (.int .i64 l2)) mb es c := by rw [mapAt_setCell]; exact hm
  have other : ∀ k, k ≠ sb → k ≠ mb → (turnMap (w.setCell ⟨sb, 1, none⟩ (.int .i64 l2)) mb es c #[] c).heap[k]? = w.heap[k]? := fun k h1 h2 =>
    (Go.ChangeMaps.heap_setBlock_other (show (w.setCell ⟨sb, 1, none⟩ (.int .i64 l2)).heap[mb]? = some (.map es c) from hw) _ h2).trans (Below.heap_setCell _ _ _ _ h1)
  refine ⟨rfl, ⟨?_, Memo.empty (turn_at hw _ _) _, fun i hi => ?_⟩, ⟨rfl, rfl, rfl, ?_, fun k _ h1 h2 => other k h1 h2⟩⟩
  · have hB := HS.out.blk.set 1 (.int .i64 l2)
    have e := Go.ChangeMaps.heap_setBlock_other (show (w.setCell ⟨sb, 1, none⟩ (.int .i64 l2)).heap[mb]? = some (.map es c) from hw) (.map #[] c) HS.out.ne
    exact e.trans (by simpa [Blk] using hB)
  · have hc := HS.out.dcs i hi
    have n1 : (0 : Nat) ≠ mb := fun e => by subst e; exact hm.ne hc rfl
    rw [← hc]
    exact World.cell?_of_block (other _ (fun e => HS.out.tab e.symm) n1)
  · simp [turn_size, World.setCell]

theorem Sht.alloc {w : World} {sb mb : Nat} {s l : Int} (h : Sht w sb mb s l) (o : Obj) : Sht (w.alloc o) sb mb s l := h.gr (by repeat (first | with_reducible exact Gr.refl _ | with_reducible refine Gr.alloc ?_ _ | with_reducible refine Gr.gr ?_ _ _ | with_reducible refine Gr.drew ?_ | with_reducible refine Gr.drewN ?_ _))
theorem Sht.drew {w : World} {sb mb : Nat} {s l : Int} (h : Sht w sb mb s l) : Sht w.drew sb mb s l := h.gr (by repeat (first | with_reducible exact Gr.refl _ | with_reducible refine Gr.alloc ?_ _ | with_reducible refine Gr.gr ?_ _ _ | with_reducible refine Gr.drew ?_ | with_reducible refine Gr.drewN ?_ _))

theorem Memo.set {P : Program} {k : TypeId} {w : World} {b : Nat} {g : Int → Int → Int × Int} (h : Memo P k w b g) (a : Addr) (v : Value) : Memo P k (w.setCell a v) b g := by
  obtain ⟨es, c, hb, r⟩ := h
  exact ⟨es, c, by have : MapAt (w.setCell a v) b es c := by { rw [mapAt_setCell]; exact hb }; exact this, r⟩
theorem Memo.cells {P : Program} {k : TypeId} {w : World} {b : Nat} {g : Int → Int → Int × Int} (h : Memo P k w b g) (cs : Array Value) (t : TypeId) (f : Nat × Nat) : Memo P k (w.alloc (.cells cs t f)) b g := by
  obtain ⟨es, c, hb, r⟩ := h
  exact ⟨es, c, by have : MapAt (w.alloc (.cells cs t f)) b es c := by { rw [mapAt_cells]; exact hb }; exact this, r⟩
theorem Memo.drew {P : Program} {k : TypeId} {w : World} {b : Nat} {g : Int → Int → Int × Int} (h : Memo P k w b g) : Memo P k w.drew b g := h
theorem Sht.fin {w w' : World} {sb mb : Nat} {s l : Int} (h : Sht w sb mb s l) (hg : Gb mb w w') (hm : Memo Tryd.prog 27 w' mb (plF s l)) : Gb mb w w' ∧ Sht w' sb mb s l := ⟨hg, h.kept hg hm⟩

end Go.Proofs.YtgadkpkpdpphbaaDoor
