/- Contracts of chapter 6: whether two places are apart. -/
import Derived.Test.YtgadkpkpdpphbaaDoorC06k
namespace Go.Proofs.YtgadkpkpdpphbaaDoor
open Go.RowKit Go.Maps
open Go.WideElems (Fit)
set_option linter.unusedVariables false
set_option linter.unusedSimpArgs false

set_option maxHeartbeats 40000000 in
set_option maxRecDepth 100000 in
theorem areApart_any (sb mb : Nat) (s l a t b u x : Int) (w : World) (hS : Sht w sb mb s l) (hs : sc s = true) (hl : ln l = true) (hf : fg a t = true) (h5 : ¬ (s = 5 ∧ t ≠ 0)) (hf' : fg b u = true) (h5' : ¬ (s = 5 ∧ u ≠ 0)) (x1 : 0 ≤ x) (x2 : x ≤ 200) :
    Calls Tryd.prog 64 #[.pointer (some ⟨sb, 0, none⟩), .agg #[.int .i64 a, .int .i64 t], .agg #[.int .i64 b, .int .i64 u], .int .i64 x] w fun e w' => e = .returned (.bool (apt s a t b u l x)) ∧ Gb mb w w' ∧ Sht w' sb mb s l := by
  have HS := hS
  have ml := hS.cells.2.1
  have HE := Lib.hid (fun W (h : Sht W sb mb s l) => endsOf_eq sb mb s l a t W h hs hl hf h5)
  have HF := Lib.hid (fun W (h : Sht W sb mb s l) => endsOf_eq sb mb s l b u W h hs hl hf' h5')
  obtain ⟨p1, p2, p3, p4, -⟩ := pl_bd s a t l hf hl
  obtain ⟨q1, q2, q3, q4, -⟩ := pl_bd s b u l hf' hl
  have HA := Lib.hid (show apt s a t b u l x = decide ((pl s b u l).2 + x ≤ (pl s a t l).1 ∨ (pl s a t l).2 + x ≤ (pl s b u l).1) from rfl)
  generalize apt s a t b u l x = ap at *
  generalize pl s a t l = p at *
  generalize pl s b u l = q at *
  obtain ⟨pa, pb⟩ := p
  obtain ⟨qa, qb⟩ := q
  simp only at *
  clear hs hl hf h5 hf' h5' hS
  go_enter Tryd.func64, Tryd.ntmps64
  go_wp2
  obtain ⟨nv, B0, B1, G0⟩ := two_new w 27 27 (.int .i64 a) (.int .i64 t) (.int .i64 b) (.int .i64 u)
  have HG := Lib.hid G0
  have HSv := HS.gr G0
  generalize (w.alloc (.cells #[.int .i64 a, .int .i64 t] 27)).alloc (.cells #[.int .i64 b, .int .i64 u] 27) = v at *
  obtain ⟨x0, x1, xf⟩ := B0.two
  obtain ⟨y0, y1, yf⟩ := B1.two
  have lt0 := B0.lt
  have lt1 := B1.lt
  have HB := Lib.hid (And.intro B0 B1)
  have H0 := Lib.hid HS
  clear B0 B1 nv G0 HS ml
  go_region_held3 (fun w' => w'.cell? ⟨w.heap.size, 0, none⟩ = some (.int .i64 a) ∧ w'.cell? ⟨w.heap.size, 1, none⟩ = some (.int .i64 t) ∧ w'.cell? ⟨w.heap.size + 1, 0, none⟩ = some (.int .i64 b) ∧ w'.cell? ⟨w.heap.size + 1, 1, none⟩ = some (.int .i64 u)) (first | exact ⟨(((by repeat (first | assumption | with_reducible exact Same.refl _ | with_reducible refine Same.alloc ?_ _ | with_reducible refine Same.drew ?_ | with_reducible refine Same.set ?_ _ _ (by first | omega | (simp; done) | (simp; omega)))) : Same v _).cell _ _ lt0).trans x0, (((by repeat (first | assumption | with_reducible exact Same.refl _ | with_reducible refine Same.alloc ?_ _ | with_reducible refine Same.drew ?_ | with_reducible refine Same.set ?_ _ _ (by first | omega | (simp; done) | (simp; omega)))) : Same v _).cell _ _ lt0).trans x1, (((by repeat (first | assumption | with_reducible exact Same.refl _ | with_reducible refine Same.alloc ?_ _ | with_reducible refine Same.drew ?_ | with_reducible refine Same.set ?_ _ _ (by first | omega | (simp; done) | (simp; omega)))) : Same v _).cell _ _ lt1).trans y0, (((by repeat (first | assumption | with_reducible exact Same.refl _ | with_reducible refine Same.alloc ?_ _ | with_reducible refine Same.drew ?_ | with_reducible refine Same.set ?_ _ _ (by first | omega | (simp; done) | (simp; omega)))) : Same v _).cell _ _ lt1).trans y1⟩ | (go_simp; done)) (first
    | (go_at_call 98; with_reducible refine (HE.out _ (by repeat (first | assumption | refine Sht.alloc ?_ _ | refine Sht.drew ?_))).mono ?_; rintro e w' ⟨rfl, hg, hS', hsn⟩; (try replace hsn := Same.undrew hsn); have hsv := Same.trans ((by repeat (first | assumption | with_reducible exact Same.refl _ | with_reducible refine Same.alloc ?_ _ | with_reducible refine Same.drew ?_ | with_reducible refine Same.set ?_ _ _ (by first | omega | (simp; done) | (simp; omega)))) : Same v _) hsn; (try (have hsx := Same.trans hsm (Same.trans (by repeat (first | assumption | with_reducible exact Same.refl _ | with_reducible refine Same.alloc ?_ _ | with_reducible refine Same.drew ?_ | with_reducible refine Same.set ?_ _ _ (by first | omega | (simp; done) | (simp; omega)))) hsn); have qcx := hsx.cell; have qfx := hsx.frozen; have qlx := hsx.lt; obtain ⟨qnx, qmx⟩ := hsx.ne)); have hsm := hsn; have qc := hsm.cell; have qf := hsm.frozen; have ql := hsm.lt; obtain ⟨qn, qm⟩ := hsm.ne; (try (have qv1 := hsm.ne.1 _ (lt_new v _); have qv2 := hsm.ne.2 _ (lt_new v _))); have hle := hsv.le; have hgw := Gb.trans (by repeat (first | assumption | exact Gb.of HG.out | with_reducible refine Gb.alloc ?_ _ | with_reducible refine Gb.drew ?_) : Gb mb w _) hg)
    | (go_at_call 98; with_reducible refine (HF.out _ (by repeat (first | assumption | refine Sht.alloc ?_ _ | refine Sht.drew ?_))).mono ?_; rintro e w' ⟨rfl, hg, hS', hsn⟩; (try replace hsn := Same.undrew hsn); have hsv := Same.trans ((by repeat (first | assumption | with_reducible exact Same.refl _ | with_reducible refine Same.alloc ?_ _ | with_reducible refine Same.drew ?_ | with_reducible refine Same.set ?_ _ _ (by first | omega | (simp; done) | (simp; omega)))) : Same v _) hsn; (try (have hsx := Same.trans hsm (Same.trans (by repeat (first | assumption | with_reducible exact Same.refl _ | with_reducible refine Same.alloc ?_ _ | with_reducible refine Same.drew ?_ | with_reducible refine Same.set ?_ _ _ (by first | omega | (simp; done) | (simp; omega)))) hsn); have qcx := hsx.cell; have qfx := hsx.frozen; have qlx := hsx.lt; obtain ⟨qnx, qmx⟩ := hsx.ne)); have hsm := hsn; have qc := hsm.cell; have qf := hsm.frozen; have ql := hsm.lt; obtain ⟨qn, qm⟩ := hsm.ne; (try (have qv1 := hsm.ne.1 _ (lt_new v _); have qv2 := hsm.ne.2 _ (lt_new v _))); have hle := hsv.le; have hgw := Gb.trans (by repeat (first | assumption | exact Gb.of HG.out | with_reducible refine Gb.alloc ?_ _ | with_reducible refine Gb.drew ?_) : Gb mb w _) hg))
  all_goals
    have hlw := HG.out.below.size
    by_cases k1 : qb + x ≤ pa
    rotate_left
    by_cases k2 : pb + x ≤ qa
  all_goals first
    | (go_wp2; go_ret; exact ⟨ret_bool (by rw [HA.out]; simp [*]), H0.out.fin (by repeat (first | assumption | with_reducible refine Gb.alloc ?_ _ | with_reducible refine Gb.drew ?_ | with_reducible refine Gb.set ?_ _ _ (by first | omega | (simp; done) | (simp; omega)))) (by repeat (first | exact hS'.memo | with_reducible refine Memo.set ?_ _ _ | with_reducible refine Memo.cells ?_ _ _ _ | with_reducible refine Memo.drew ?_))⟩)
    | (trace_state; sorry)
end Go.Proofs.YtgadkpkpdpphbaaDoor
