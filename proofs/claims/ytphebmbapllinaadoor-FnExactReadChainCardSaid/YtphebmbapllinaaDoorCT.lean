/- Plain mathematics, merged. -/
import Derived.Test.YtphebmbapllinaaDoorSA
import Derived.Test.YtphebmbapllinaaDoorBk
import Derived.Test.YtphebmbapllinaaDoorMH
import Derived.Test.YtphebmbapllinaaDoor2A
import Derived.Test.YtphebmbapllinaaDoor7C
import Derived.Test.YtphebmbapllinaaDoorLX
import Derived.Test.YtphebmbapllinaaDoorDl
/- Terms in memory: their cells, comparisons. -/
namespace Go.Proofs.YtphebmbapllinaaDoor
open Go.RowKit Go.ChangeShapes Go.WideShapes Go.ChangeAt
set_option linter.unusedVariables false
set_option linter.unusedSimpArgs false

/-- The cells of a term, of terms. -/
def tcl (m : Tm) : List Value := [vi m.1, vi m.2.1, .bool m.2.2]
theorem tcl_len (m : Tm) : (tcl m).length = 3 := rfl
def tcells (ms : List Tm) : List Value := ms.flatMap tcl
theorem tcells_len (ms : List Tm) : (tcells ms).length = ms.length * 3 := by
  unfold tcells
  induction ms with
  | nil => rfl
  | cons m r ih => rw [List.flatMap_cons, List.length_append, ih, List.length_cons, Nat.add_mul]; show 3 + _ = _; omega
theorem tcells_append (xs ys : List Tm) : tcells (xs ++ ys) = tcells xs ++ tcells ys := by unfold tcells; rw [List.flatMap_append]
theorem tcells_one (m : Tm) : tcells [m] = tcl m := by simp [tcells]
theorem tcells_drop (ms : List Tm) (k : Nat) (hk : k ≤ ms.length) : (tcells ms).drop (k * 3) = tcells (ms.drop k) := by
  have e : tcells ms = tcells (ms.take k) ++ tcells (ms.drop k) := by rw [← tcells_append, List.take_append_drop]
  have hl : (tcells (ms.take k)).length = k * 3 := by rw [tcells_len, List.length_take, Nat.min_eq_left hk]
  rw [e, ← hl, List.drop_left]
theorem tcells_at (ms : List Tm) (k : Nat) (m : Tm) (hm : ms[k]? = some m) : (tcells ms)[k * 3]? = some (vi m.1) ∧ (tcells ms)[k * 3 + 1]? = some (vi m.2.1) ∧ (tcells ms)[k * 3 + 2]? = some (.bool m.2.2) := by
  obtain ⟨hk, e⟩ := List.getElem?_eq_some_iff.1 hm
  have h1 : ∀ j, j < 3 → (tcells ms)[k * 3 + j]? = (tcl m)[j]? := fun j hj => by
    rw [← List.getElem?_drop, tcells_drop ms k (by omega), List.drop_eq_getElem_cons hk, e]
    unfold tcells
    rw [List.flatMap_cons, List.getElem?_append_left (by show j < 3; exact hj)]
  refine ⟨?_, ?_, ?_⟩
  · have := h1 0 (by omega); rw [Nat.add_zero] at this; rw [this]; rfl
  · rw [h1 1 (by omega)]; rfl
  · rw [h1 2 (by omega)]; rfl
theorem Reads.att {w : World} {B : Nat} {A : Option Addr} {ms : List Tm} (h : Reads w B A (tcells ms)) {i : Nat} {m : Tm} (hm : ms[i]? = some m) :
    ∃ g o : Nat, A = some ⟨g, o, none⟩ ∧ g < B ∧ w.cell? ⟨g, o + i * 3, none⟩ = some (vi m.1) ∧ w.cell? ⟨g, o + i * 3 + 1, none⟩ = some (vi m.2.1) ∧ w.cell? ⟨g, o + i * 3 + 2, none⟩ = some (.bool m.2.2) := by
  obtain ⟨c0, c1, c2⟩ := tcells_at ms i m hm
  obtain ⟨g, o, e0, h0, x0⟩ := h.at_ c0
  obtain ⟨g1, o1, e1, -, x1⟩ := h.at_ c1
  obtain ⟨g2, o2, e2, -, x2⟩ := h.at_ c2
  rw [e0] at e1 e2
  injection e1 with e1
  injection e2 with e2
  injection e1 with a1 b1
  injection e2 with a2 b2
  subst a1 b1 a2 b2
  exact ⟨g, o, e0, h0, x0, by rw [Nat.add_assoc]; exact x1, by rw [Nat.add_assoc]; exact x2⟩
theorem tm_at {ms : List Tm} {k : Nat} {m : Tm} (h : ms[k]? = some m) : tcells (ms.take (k + 1)) = tcells (ms.take k) ++ tcl m := by
  obtain ⟨h1, e⟩ := List.getElem?_eq_some_iff.1 h
  rw [List.take_succ_eq_append_getElem h1, e, tcells_append]
  unfold tcells
  simp
theorem Blk.trioT {w : World} {g : Nat} {t : TypeId} {x y z : Value} (h : Blk w g t #[x, y, z]) : w.cell? ⟨g, 0, none⟩ = some x ∧ w.cell? ⟨g, 1, none⟩ = some y ∧ w.cell? ⟨g, 2, none⟩ = some z ∧ (∀ i, w.frozen? ⟨g, i, none⟩ = false) := by
  have c0 := cell_of_row w g 0 _ _ _ h
  have c1 := cell_of_row w g 1 _ _ _ h
  have c2 := cell_of_row w g 2 _ _ _ h
  simp at c0 c1 c2
  exact ⟨c0, c1, c2, fun i => free_row h i⟩
theorem boxes3T (w : World) (T U X : TypeId) (a b d : Array Value) : Blk (((w.alloc (.cells a T)).alloc (.cells b U)).alloc (.cells d X)) w.heap.size T a ∧ Blk (((w.alloc (.cells a T)).alloc (.cells b U)).alloc (.cells d X)) (w.heap.size + 1) U b ∧
    Blk (((w.alloc (.cells a T)).alloc (.cells b U)).alloc (.cells d X)) (w.heap.size + 1 + 1) X d ∧ Gr w (((w.alloc (.cells a T)).alloc (.cells b U)).alloc (.cells d X)) := by
  have B0 := ((Blk.new w T a).alloc (.cells b U)).alloc (.cells d X)
  have B1 := (Blk.new (w.alloc (.cells a T)) U b).alloc (.cells d X)
  have B2 := Blk.new ((w.alloc (.cells a T)).alloc (.cells b U)) X d
  rw [World.size_alloc] at B1
  rw [World.size_alloc, World.size_alloc] at B2
  exact ⟨B0, B1, B2, (by repeat (first | with_reducible exact Gr.refl _ | with_reducible refine Gr.alloc ?_ _ | with_reducible refine Gr.gr ?_ _ _ | with_reducible refine Gr.drew ?_ | with_reducible refine Gr.drewN ?_ _))⟩
/-- Terms from the second on. -/
theorem Reads.tailt {w : World} {B g o : Nat} {ms : List Tm} (h : Reads w B (some ⟨g, o, none⟩) (tcells ms)) (k : Nat) (hk : k ≤ ms.length) : Reads w B (some ⟨g, o + k * 3, none⟩) (tcells (ms.drop k)) := by
  intro i hi
  have hl : k * 3 + i < (tcells ms).length := by
    rw [tcells_len] at *
    rw [List.length_drop] at hi
    omega
  obtain ⟨g2, o2, e, h1, h2⟩ := h (k * 3 + i) hl
  injection e with e
  injection e with a b
  subst a b
  refine ⟨g, o + k * 3, rfl, h1, ?_⟩
  rw [Nat.add_assoc, h2]
  congr 1
  have e2 := tcells_drop ms k hk
  have e3 : (tcells ms)[k * 3 + i]? = (tcells (ms.drop k))[i]? := by rw [← e2, List.getElem?_drop]
  rw [List.getElem?_eq_getElem hl, List.getElem?_eq_getElem hi] at e3
  exact Option.some.inj e3
end Go.Proofs.YtphebmbapllinaaDoor

/- Terms as arguments of a law: opened; lists of them made, compared, counted. -/
namespace Go.Proofs.YtphebmbapllinaaDoor
open Go.RowKit Go.ChangeShapes Go.WideShapes Go.ChangeAt
set_option linter.unusedVariables false
set_option linter.unusedSimpArgs false

section
variable {P : Program} {H : Type} {enc : TypeId × Value → H} {W : World}
theorem trod_term {t : TypeId} {f0 f1 g0 g1 : Field} {fuel : Nat} {cs : List Value} {x : DataW H × List MemPlace} (ht : P.underlying t = some (.struct #[f0, f1])) (hg : P.underlying f0.type = some (.struct #[g0, g1]))
    (o0 : f0.offset = 0) (o1 : f1.offset = 2) (p0 : g0.offset = 0) (p1 : g1.offset = 1) (k1 : P.underlying f1.type = some .bool) (k2 : P.underlying g0.type = some (.int .i64)) (k3 : P.underlying g1.type = some (.int .i64))
    (c0 : P.cellsOf f0.type = 2) (c1 : P.cellsOf f1.type = 1) (d0 : P.cellsOf g0.type = 1) (d1 : P.cellsOf g1.type = 1) (hl : cs.length = 3)
    (h : DataW.trod enc P W 0 (fun _ => true) true fuel t cs = some x) :
    ∃ m : Tm, cs = tcl m := by
  obtain ⟨y0, y1, n, -, -, t0, t1⟩ := trod_struct2 ht h
  match cs, hl with
  | [v0, v1, v2], _ =>
    rw [o0, c0] at t0
    rw [o1, c1] at t1
    simp at t0 t1
    obtain ⟨z0, z1, n2, -, -, s0, s1⟩ := trod_struct2 hg t0
    rw [p0, d0] at s0
    rw [p1, d1] at s1
    simp at s0 s1
    obtain ⟨b, e1, -⟩ := DataW.trod_bool k1 t1
    obtain ⟨c, e2, -, w2⟩ := DataW.trod_int k2 s0
    obtain ⟨d, e3, -, w3⟩ := DataW.trod_int k3 s1
    simp at e1 e2 e3
    subst e1 e2 e3
    exact ⟨(c, d, b), rfl⟩
theorem open_t3 {t e : TypeId} {f0 f1 g0 g1 : Field} {v : Value} {d : DataW H} {ps : List MemPlace} (ht : P.underlying t = some (.slice e)) (he : P.underlying e = some (.struct #[f0, f1])) (hg : P.underlying f0.type = some (.struct #[g0, g1])) (ce : P.cellsOf e = 3)
    (o0 : f0.offset = 0) (o1 : f1.offset = 2) (p0 : g0.offset = 0) (p1 : g1.offset = 1) (k1 : P.underlying f1.type = some .bool) (k2 : P.underlying g0.type = some (.int .i64)) (k3 : P.underlying g1.type = some (.int .i64))
    (c0 : P.cellsOf f0.type = 2) (c1 : P.cellsOf f1.type = 1) (d0 : P.cellsOf g0.type = 1) (d1 : P.cellsOf g1.type = 1) {r : Reach} {b0 : Nat}
    (hval : Value.okWide P W r b0 t v) (h : DataW.Trod enc P W 0 (fun _ => true) true t v d ps) :
    ∃ (A : Option Addr) (n c : Nat) (zs : List Tm), v = .slice A n c ∧ zs.length = n ∧ Reads W W.heap.size A (tcells zs) ∧ n ≤ maxLen := by
  obtain ⟨A, n, c, rfl⟩ := okWide_slice ht hval
  obtain ⟨fuel, hf⟩ := h
  rcases Deep.open_slice ht hf with ⟨hv, -⟩ | ⟨a, len, cap, m, nn, D, Pl, hv, -, hl, hm, hmm, -, hx⟩
  · simp [Value.cells] at hv
    obtain ⟨rfl, rfl, rfl⟩ := hv
    exact ⟨none, 0, 0, [], rfl, rfl, Reads.nil _ _ _, by simp⟩
  · simp [Value.cells] at hv
    obtain ⟨rfl, rfl, rfl⟩ := hv
    simp at hmm
    subst hmm
    rcases Nat.eq_zero_or_pos n with hn0 | hn0
    · subst hn0
      exact ⟨some a, 0, _, [], rfl, rfl, Reads.nil _ _ _, by simp⟩
    obtain ⟨g, o, rfl⟩ : ∃ g o, a = ⟨g, o, none⟩ := by
      obtain ⟨cs', h1, -⟩ := hx 0 (by omega)
      rw [ce] at h1
      obtain ⟨_, hlen, hcell⟩ := World.cells?_some h1
      have q0 := hcell 0 (by omega)
      rw [Deep.add_add] at q0
      simp only [Nat.zero_mul, Nat.add_zero] at q0
      match cs', hlen with
      | [v0, v1, v2], _ => exact cell_spot0 (x := v0) (by simpa using q0)
    have each : ∀ i, i < n → ∃ p : Tm, ∀ j, j < 3 → W.cell? ⟨g, o + (i * 3 + j), none⟩ = (tcl p)[j]? := by
      intro i hi
      obtain ⟨cs', h1, h2⟩ := hx i (by omega)
      rw [ce] at h1
      obtain ⟨_, hlen, hcell⟩ := World.cells?_some h1
      obtain ⟨p, e⟩ := trod_term he hg o0 o1 p0 p1 k1 k2 k3 c0 c1 d0 d1 hlen h2
      refine ⟨p, fun j hj => ?_⟩
      have q := hcell j (by omega)
      rw [Deep.add_add, add_plain] at q
      rw [q, ← e, List.getElem?_eq_getElem (by omega)]
    obtain ⟨q, hq⟩ := Deep.choose_lt each
    have hget : ∀ i, i < n → ((List.range n).map q)[i]? = some (q i) := fun i hi => by simp [List.getElem?_map, List.getElem?_range hi]
    refine ⟨some ⟨g, o, none⟩, n, _, (List.range n).map q, rfl, by simp, ?_, by omega⟩
    intro k hk
    have hkl := hk
    rw [tcells_len, List.length_map, List.length_range] at hk
    have hi : k / 3 < n := by omega
    have x := hq (k / 3) hi (k % 3) (by omega)
    have hk3 : k / 3 * 3 + k % 3 = k := by omega
    rw [hk3] at x
    have y : (tcells ((List.range n).map q))[k]? = (tcl (q (k / 3)))[k % 3]? := by
      obtain ⟨y0, y1, y2⟩ := tcells_at _ _ _ (hget (k / 3) hi)
      rcases (show k % 3 = 0 ∨ k % 3 = 1 ∨ k % 3 = 2 by omega) with e | e | e
      · rw [e] at hk3 ⊢; rw [← hk3, Nat.add_zero]; rw [Nat.add_zero] at hk3; rw [show k / 3 * 3 / 3 = k / 3 by omega]; exact y0
      · rw [e] at hk3 ⊢; rw [← hk3]; rw [show (k / 3 * 3 + 1) / 3 = k / 3 by omega]; exact y1
      · rw [e] at hk3 ⊢; rw [← hk3]; rw [show (k / 3 * 3 + 2) / 3 = k / 3 by omega]; exact y2
    rw [List.getElem?_eq_getElem hkl] at y
    rw [← y] at x
    exact ⟨g, o, rfl, World.block_lt_of_cell? W _ x, x⟩
end

/-- k elements are filled in. -/
def tz : Tm := (0, 0, false)
def fillt (zs : List Tm) (k : Nat) : List Value := tcells (zs.take k) ++ tcells (List.replicate (zs.length - k) tz)
theorem fillt_all (zs : List Tm) : fillt zs zs.length = tcells zs := by simp [fillt, tcells]
theorem tcells_take_len (zs : List Tm) (k : Nat) (h : k ≤ zs.length) : (tcells (zs.take k)).length = k * 3 := by rw [tcells_len, List.length_take]; congr 1; omega
theorem fillt_split (zs : List Tm) (k : Nat) (h : k < zs.length) : fillt zs k = tcells (zs.take k) ++ (vi 0 :: vi 0 :: .bool false :: tcells (List.replicate (zs.length - (k + 1)) tz)) := by
  unfold fillt
  rw [show zs.length - k = zs.length - (k + 1) + 1 by omega, List.replicate_succ]
  rfl
theorem fillt_at (zs : List Tm) (k : Nat) (h : k < zs.length) : (fillt zs k)[k * 3]? = some (vi 0) ∧ (fillt zs k)[k * 3 + 1]? = some (vi 0) ∧ (fillt zs k)[k * 3 + 2]? = some (.bool false) := by
  have hl := tcells_take_len zs k (by omega)
  rw [fillt_split zs k h, List.getElem?_append_right (by omega), List.getElem?_append_right (by omega), List.getElem?_append_right (by omega), hl,
    show k * 3 - k * 3 = 0 by omega, show k * 3 + 1 - k * 3 = 1 by omega, show k * 3 + 2 - k * 3 = 2 by omega]
  exact ⟨rfl, rfl, rfl⟩
theorem fillt_put (zs : List Tm) (k : Nat) (p : Tm) (hp : zs[k]? = some p) : (((fillt zs k).set (k * 3) (vi p.1)).set (k * 3 + 1) (vi p.2.1)).set (k * 3 + 2) (.bool p.2.2) = fillt zs (k + 1) := by
  obtain ⟨hk, e⟩ := List.getElem?_eq_some_iff.1 hp
  have hl := tcells_take_len zs k (by omega)
  rw [fillt_split zs k hk, List.set_append_right _ _ (by omega), List.set_append_right _ _ (by omega), List.set_append_right _ _ (by omega), hl,
    show k * 3 - k * 3 = 0 by omega, show k * 3 + 1 - k * 3 = 1 by omega, show k * 3 + 2 - k * 3 = 2 by omega]
  simp only [List.set_cons_zero, List.set_cons_succ]
  unfold fillt
  rw [tm_at hp, List.append_assoc]
  rfl
theorem made_tm (n : Nat) : madeCells #[vi 0, vi 0, .bool false] (n * 3) = (tcells (List.replicate n tz)).toArray := by
  apply Array.ext_getElem?
  intro i
  have hl : (tcells (List.replicate n tz)).length = n * 3 := by rw [tcells_len, List.length_replicate]
  rw [show (tcells (List.replicate n tz)).toArray[i]? = (tcells (List.replicate n tz))[i]? by simp]
  unfold madeCells
  by_cases h : i < n * 3
  · have hi : i / 3 < n := by omega
    obtain ⟨y0, y1, y2⟩ := tcells_at (List.replicate n tz) (i / 3) tz (by rw [List.getElem?_replicate, if_pos hi])
    rcases (show i % 3 = 0 ∨ i % 3 = 1 ∨ i % 3 = 2 by omega) with h3 | h3 | h3
    · have e : i / 3 * 3 = i := by omega
      rw [e] at y0
      rw [y0]
      simp [h, h3]
      rfl
    · have e : i / 3 * 3 + 1 = i := by omega
      rw [e] at y1
      rw [y1]
      simp [h, h3]
      rfl
    · have e : i / 3 * 3 + 2 = i := by omega
      rw [e] at y2
      rw [y2]
      simp [h, h3]
      rfl
  · rw [List.getElem?_eq_none (l := tcells (List.replicate n tz)) (by omega)]
    simp [h]
theorem run_mkt {P : Program} {t e : TypeId} {b : Nat} (ht : P.underlying t = some (.slice e)) (hi : (P.info? e).map (fun i => (i.zero, i.size, i.bytes)) = some (some (.agg #[vi 0, vi 0, .bool false]), 3, b)) (hb : b ≤ 64) (n : Nat) (hn : n ≤ 4194304) (w : World) :
    (Instr.makeSlice t (.int .i64 (n : Int)) (.int .i64 (n : Int))).run P w = .ok (.slice (some ⟨w.heap.size, 0, none⟩) n n) (w.alloc (.cells (tcells (List.replicate n tz)).toArray e)) := by
  obtain ⟨i0, hi, hz0, hz1, hz2⟩ := info_parts hi
  have hbb : (i0.bytes : Int) * (n : Int) ≤ 281474976710656 := by
    have h1 : i0.bytes * n ≤ 64 * 4194304 := Nat.mul_le_mul (by omega) hn
    have h2 : ((i0.bytes * n : Nat) : Int) ≤ 281474976710656 := by omega
    rwa [Int.natCast_mul] at h2
  have hr := run_make (P := P) w t e i0 _ ht hi hz0 .i64 .i64 n n (by omega) (Int.le_refl _) hbb (by omega)
  simp only [Int.toNat_natCast, hz1, Value.cells, made_tm] at hr
  exact hr
theorem mkTerms (n : Nat) (hn : n ≤ 4194304) (w : World) :
    (Instr.makeSlice 24 (.int .i64 (n : Int)) (.int .i64 (n : Int))).run Tryd.prog w = .ok (.slice (some ⟨w.heap.size, 0, none⟩) n n) (w.alloc (.cells (tcells (List.replicate n tz)).toArray 45)) :=
  run_mkt (b := 24) Tryd.underlying24 (by kernel_rfl) (by omega) n hn w
theorem toTerm_any (a b : Int) (c : Bool) (w : World) :
    Calls Tryd.prog 31 #[.agg #[.int .i64 a, .int .i64 b, .bool c]] w fun e w' => e = .returned (.agg #[.int .i64 a, .int .i64 b, .bool c]) ∧ Gr w w' := by
  have HF := Lib.hid (fun W => toFigure_any a b W)
  go_enter Tryd.func31, Tryd.ntmps31
  go_wp2_with (go_at_call 47; (with_reducible refine (HF.out _).mono ?_); rintro e w' ⟨rfl, k, os, rfl⟩)
  ((try simp only [Exit.inBlock, Exit.then]); refine bodyPost_ret (v := .agg #[.int .i64 a, .int .i64 b, .bool c]) (by simp [results, Tryd.results31, go_sem]) rfl ?_)
  exact ⟨rfl, (by repeat (first | with_reducible exact Gr.refl _ | with_reducible refine Gr.alloc ?_ _ | with_reducible refine Gr.gr ?_ _ _ | with_reducible refine Gr.drew ?_ | with_reducible refine Gr.drewN ?_ _))⟩
/-- A list of terms was made. -/
def MadeT (zs : List Tm) (w : World) (e : Ending) (w' : World) : Prop :=
  ∃ b : Nat, e = .returned (.slice (some ⟨b, 0, none⟩) zs.length zs.length) ∧ w.heap.size ≤ b ∧ Row w' b 45 (tcells zs) ∧ Below w.heap.size w w'
set_option maxHeartbeats 4000000 in
theorem toTerms_any (A : Option Addr) (n c : Nat) (zs : List Tm) (w : World) (hn : zs.length = n) (hN : n ≤ 1048576) (hR : Reads w w.heap.size A (tcells zs)) :
    Calls Tryd.prog 15 #[.slice A n c] w (MadeT zs w) := by
  have hmk := mkTerms n (by omega)
  have HL := Lib.hid hn
  have HR := Lib.hid hR
  clear hn hR
  go_enter Tryd.func15, Tryd.ntmps15
  go_wp2
  clear hmk
  go_loopw [4] (fun i wr => ∃ k : Nat, k ≤ n ∧ i = .int .i64 k ∧ Row wr w.heap.size 45 (fillt zs k) ∧ Below w.heap.size w wr) (fun i _ => n - (intOf i).toNat)
  case atStart => exact ⟨0, by omega, rfl, by (have e : fillt zs 0 = tcells (List.replicate n tz) := by rw [← HL.out]; simp [fillt, tcells]); rw [e]; exact Row.new w _ _, (Below.refl _ _).alloc (Nat.le_refl _) _⟩
  case round =>
    obtain ⟨k, hk, rfl, hrow, hb⟩ := hrel
    by_cases hlt : k < n
    · obtain ⟨z, hz⟩ := some_at (l := zs) (k := k) (by rw [HL.out]; exact hlt)
      obtain ⟨g, o, rfl, hg, x0, x1, x2⟩ := HR.out.att hz
      have FS := Lib.hid (fillt_put zs k z hz)
      have y0 : wr.cell? ⟨g, o + k * 3, none⟩ = some (vi z.1) := (hb.cell (p := ⟨g, o + k * 3, none⟩) hg).trans x0
      have y1 : wr.cell? ⟨g, o + k * 3 + 1, none⟩ = some (vi z.2.1) := (hb.cell (p := ⟨g, o + k * 3 + 1, none⟩) hg).trans x1
      have y2 : wr.cell? ⟨g, o + k * 3 + 2, none⟩ = some (.bool z.2.2) := (hb.cell (p := ⟨g, o + k * 3 + 2, none⟩) hg).trans x2
      have hbs := hb.size
      clear hz x0 x1 x2
      obtain ⟨za, zb, zc⟩ := z
      simp only at y0 y1 y2 FS
      go_wp2_with fail
      refine (toTerm_any _ _ _ _).mono ?_
      rintro e w2 ⟨rfl, hg2⟩
      have hrow2 := hrow.gr hg2
      have hb2 := hb.trans (hg2.below.mono hbs)
      have c0 := hrow2.cell (k * 3)
      have c1 := hrow2.cell (k * 3 + 1)
      have c2 := hrow2.cell (k * 3 + 2)
      obtain ⟨q0, q1, q2⟩ := fillt_at zs k (by rw [HL.out]; exact hlt)
      rw [q0] at c0
      rw [q1] at c1
      rw [q2] at c2
      have fr := fun j => hrow2.free j
      have lr := hrow2.lt
      clear q0 q1 q2
      go_wp2_with fail
      go_roundw
      case rel => exact ⟨k + 1, by omega, by go_num, by
          rw [← FS.out]
          exact ((hrow2.set (k * 3) (vi za)).set (k * 3 + 1) (vi zb)).set (k * 3 + 2) (.bool zc), ((hb2.setCell (p := ⟨w.heap.size, k * 3, none⟩) (Nat.le_refl _) _).setCell (p := ⟨w.heap.size, k * 3 + 1, none⟩) (Nat.le_refl _) _).setCell (p := ⟨w.heap.size, k * 3 + 2, none⟩) (Nat.le_refl _) _⟩
      case measure => simp [intOf]; omega
    · obtain rfl : k = n := by omega
      have HF := Lib.hid (fillt_all zs)
      rw [HL.out] at HF
      go_wp2
      go_ret
      exact ⟨w.heap.size, by rw [HL.out]; rfl, Nat.le_refl _, by rw [← HF.out]; exact hrow, hb⟩
theorem eqTerm_same (a b : Int) (c : Bool) (w : World) :
    Calls Tryd.prog 32 #[.agg #[.int .i64 a, .int .i64 b, .bool c], .agg #[.int .i64 a, .int .i64 b, .bool c]] w fun e w' => e = .returned (.bool true) ∧ Gr w w' := by
  have HF := Lib.hid (fun W => eqFigure_same a b W)
  go_enter Tryd.func32, Tryd.ntmps32
  go_wp2_with (go_at_call 48; (with_reducible refine (HF.out _).mono ?_); rintro e w' ⟨rfl, k, os, rfl⟩)
  go_ret
  exact ⟨rfl, (by repeat (first | with_reducible exact Gr.refl _ | with_reducible refine Gr.alloc ?_ _ | with_reducible refine Gr.gr ?_ _ _ | with_reducible refine Gr.drew ?_ | with_reducible refine Gr.drewN ?_ _))⟩
set_option maxHeartbeats 1000000 in
theorem eqTerms_same (A B : Option Addr) (n c d : Nat) (zs : List Tm) (w : World) (hn : zs.length = n) (hN : n ≤ 16777216) (hA : Reads w w.heap.size A (tcells zs)) (hB : Reads w w.heap.size B (tcells zs)) :
    Calls Tryd.prog 16 #[.slice A n c, .slice B n d] w fun e w' => e = .returned (.bool true) ∧ Gr w w' := by
  have HL := Lib.hid hn
  have HA := Lib.hid hA
  have HB := Lib.hid hB
  clear hn hA hB
  go_enter Tryd.func16, Tryd.ntmps16
  go_wp2
  go_loopw [5] (fun i wr => ∃ k : Nat, k ≤ n ∧ i = .int .i64 k ∧ Gr w wr) (fun i _ => n - (intOf i).toNat)
  case atStart => exact ⟨0, by omega, rfl, Gr.refl _⟩
  case round =>
    obtain ⟨k, hk, rfl, hG⟩ := hrel
    by_cases hlt : k < n
    · obtain ⟨z, hz⟩ := some_at (l := zs) (k := k) (by rw [HL.out]; exact hlt)
      obtain ⟨g, o, rfl, hg, x0, x1, x2⟩ := (HA.out.gr hG).att hz
      obtain ⟨g2, o2, rfl, hg2, y0, y1, y2⟩ := (HB.out.gr hG).att hz
      have HG := Lib.hid hG
      clear hz hG
      obtain ⟨za, zb, zc⟩ := z
      simp only at x0 x1 x2 y0 y1 y2
      go_wp2
      ((first | refine region_gr_on (by kernel_rfl) (by kernel_rfl) ?_ | refine region_gr (by kernel_rfl) (by kernel_rfl) ?_); (repeat (quiet_step (exact Calls.gr_of (eqTerm_same _ _ _ _)))); refine wpQuiet_nil ?_; intro _ hw'; obtain ⟨⟨kq, oq⟩, hw''⟩ := hw'; subst hw'')
      go_wp2
      go_roundw
      case rel => exact ⟨k + 1, by omega, by go_num, HG.out.trans (by repeat (first | with_reducible exact Gr.refl _ | with_reducible refine Gr.alloc ?_ _ | with_reducible refine Gr.gr ?_ _ _ | with_reducible refine Gr.drew ?_ | with_reducible refine Gr.drewN ?_ _))⟩
      case measure => simp [intOf]; omega
    · go_wp2
      go_ret
      exact ⟨rfl, hG⟩
theorem szTerms_any (A : Option Addr) (n c : Nat) (l : Int) (w : World) (hn : n ≤ maxLen) (h0 : 0 ≤ l) (h1 : l ≤ 1048576) :
    Calls Tryd.prog 14 #[.slice A n c, .int .i64 l] w fun e w' => e = .returned (.int .i64 (if l - n < 0 then -1 else l - n)) ∧ w = w' := by
  unfold maxLen at hn
  by_cases h : l - n < 0
  · rw [if_pos h]
    go_enter Tryd.func14, Tryd.ntmps14
    go_wp2
    go_ret
    exact ⟨rfl, rfl⟩
  · rw [if_neg h]
    go_enter Tryd.func14, Tryd.ntmps14
    go_wp2
    go_ret
    exact ⟨rfl, rfl⟩
end Go.Proofs.YtphebmbapllinaaDoor

/- Lists of terms with room to spare, that a law marks and holds. -/
namespace Go.Proofs.YtphebmbapllinaaDoor
open Go.RowKit
set_option linter.unusedVariables false
set_option linter.unusedSimpArgs false

/-- The mark of element i, where j elements were marked before. -/
def mkTe (i : Nat) : Tm := (1 + 3 * (i : Int), 1 + 3 * (i : Int) + 1, true)
def mkT (j n : Nat) : List Tm := (List.range n).map fun i => mkTe (j + i)
theorem mkT_len (j n : Nat) : (mkT j n).length = n := by simp [mkT]
theorem mkT_at (j n k : Nat) (h : k < n) : (mkT j n)[k]? = some (mkTe (j + k)) := by simp [mkT, h]
def mixT (j : Nat) (xs : List Tm) (k : Nat) : List Tm := (mkT j xs.length).take k ++ xs.drop k
theorem mixT_len (j : Nat) (xs : List Tm) (k : Nat) (h : k ≤ xs.length) : (mixT j xs k).length = xs.length := by unfold mixT; rw [List.length_append, List.length_take, mkT_len, List.length_drop]; omega
theorem mixT_zero (j : Nat) (xs : List Tm) : mixT j xs 0 = xs := by simp [mixT]
theorem mixT_all (j : Nat) (xs : List Tm) : mixT j xs xs.length = mkT j xs.length := by
  unfold mixT
  rw [List.drop_length, List.append_nil, List.take_of_length_le (by rw [mkT_len]; exact Nat.le_refl _)]
theorem mixT_at (j : Nat) (xs : List Tm) (k : Nat) (h : k < xs.length) : (mixT j xs k)[k]? = xs[k]? := by
  unfold mixT
  rw [List.getElem?_append_right (by rw [List.length_take, mkT_len]; omega), List.length_take, mkT_len, List.getElem?_drop]
  congr 1; omega
theorem mixT_cells (j : Nat) (xs : List Tm) (rest : List Value) (k : Nat) (h : k < xs.length) :
    (((tcells (mixT j xs k) ++ rest).set (k * 3) (vi (1 + 3 * ((j + k : Nat) : Int)))).set (k * 3 + 1) (vi (1 + 3 * ((j + k : Nat) : Int) + 1))).set (k * 3 + 2) (.bool true) = tcells (mixT j xs (k + 1)) ++ rest := by
  have hl : (tcells ((mkT j xs.length).take k)).length = k * 3 := by rw [tcells_len, List.length_take, mkT_len]; congr 1; omega
  obtain ⟨hm, e⟩ := List.getElem?_eq_some_iff.1 (mkT_at j xs.length k h)
  have e1 : tcells (mixT j xs k) = tcells ((mkT j xs.length).take k) ++ (vi xs[k].1 :: vi xs[k].2.1 :: .bool xs[k].2.2 :: tcells (xs.drop (k + 1))) := by
    unfold mixT
    rw [tcells_append, List.drop_eq_getElem_cons h]
    rfl
  have e2 : tcells (mixT j xs (k + 1)) = tcells ((mkT j xs.length).take k) ++ (vi (1 + 3 * ((j + k : Nat) : Int)) :: vi (1 + 3 * ((j + k : Nat) : Int) + 1) :: .bool true :: tcells (xs.drop (k + 1))) := by
    unfold mixT
    rw [tcells_append, List.take_succ_eq_append_getElem hm, e, tcells_append, tcells_one, List.append_assoc]
    rfl
  rw [e1, e2, List.append_assoc, List.append_assoc, List.set_append_right _ _ (by omega), List.set_append_right _ _ (by omega), List.set_append_right _ _ (by omega), hl,
    show k * 3 - k * 3 = 0 by omega, show k * 3 + 1 - k * 3 = 1 by omega, show k * 3 + 2 - k * 3 = 2 by omega]
  rfl
theorem mod3 (q : Nat) : ((1 + 3 * (q : Int) + 1 + 1) % 3 == 0) = true := by
  simp only [beq_iff_eq]
  omega
theorem markTermsNil_any (A : Option Addr) (c j : Nat) (w : World) :
    Calls Tryd.prog 17 #[.slice A 0 c, .int .i64 (1 + 3 * (j : Int))] w fun e w' => e = .returned (.int .i64 (1 + 3 * (j : Int))) ∧ w = w' := by
  go_enter Tryd.func17, Tryd.ntmps17
  go_wp2
  go_loop [1, 5] (fun x i => x = .int .i64 (1 + 3 * (j : Int)) ∧ i = .int .i64 0) (fun _ _ => 0)
  case atStart => exact ⟨rfl, rfl⟩
  case round =>
    obtain ⟨rfl, rfl⟩ := hrel
    go_wp2
    go_ret
    exact ⟨rfl, rfl⟩
theorem heldTermsNil_any (A : Option Addr) (c j : Nat) (w : World) :
    Calls Tryd.prog 18 #[.slice A 0 c, .int .i64 (1 + 3 * (j : Int))] w fun e w' => e = .returned (.int .i64 (1 + 3 * (j : Int))) ∧ w = w' := by
  go_enter Tryd.func18, Tryd.ntmps18
  go_wp2
  go_loop [1, 5] (fun x i => x = .int .i64 (1 + 3 * (j : Int)) ∧ i = .int .i64 0) (fun _ _ => 0)
  case atStart => exact ⟨rfl, rfl⟩
  case round =>
    obtain ⟨rfl, rfl⟩ := hrel
    go_wp2
    go_ret
    exact ⟨rfl, rfl⟩
set_option maxHeartbeats 1000000 in
theorem markTermsRow_any (g n c j : Nat) (xs : List Tm) (rest : List Value) (w : World) (hn : xs.length = n) (hN : n ≤ 16777216) (hj : j ≤ 16777216) (hR : Row w g 45 (tcells xs ++ rest)) :
    Calls Tryd.prog 17 #[.slice (some ⟨g, 0, none⟩) n c, .int .i64 (1 + 3 * (j : Int))] w fun e w' => e = .returned (.int .i64 (1 + 3 * ((j + n : Nat) : Int))) ∧ Row w' g 45 (tcells (mkT j n) ++ rest) ∧ Dr g w w' := by
  have HN := Lib.hid hn
  clear hn
  go_enter Tryd.func17, Tryd.ntmps17
  go_wp2
  go_loopw [1, 5] (fun x i wr => ∃ k : Nat, k ≤ n ∧ x = .int .i64 (1 + 3 * ((j + k : Nat) : Int)) ∧ i = .int .i64 k ∧ Row wr g 45 (tcells (mixT j xs k) ++ rest) ∧ Dr g w wr) (fun _ i _ => n - (intOf i).toNat)
  case atStart => exact ⟨0, by omega, by simp, rfl, by rw [mixT_zero]; exact hR, Dr.refl _ _⟩
  case round =>
    obtain ⟨k, hk, rfl, rfl, hrow, hd⟩ := hrel
    by_cases hlt : k < n
    · have hk2 : k < xs.length := by rw [HN.out]; exact hlt
      have hlen : (tcells (mixT j xs k)).length = n * 3 := by rw [tcells_len, mixT_len _ _ _ (by omega), HN.out]
      obtain ⟨z, hz⟩ := some_at hk2
      rw [← mixT_at j xs k hk2] at hz
      obtain ⟨q0, q1, q2⟩ := tcells_at _ _ _ hz
      have c0 := hrow.cell (k * 3)
      have c1 := hrow.cell (k * 3 + 1)
      have c2 := hrow.cell (k * 3 + 2)
      rw [List.getElem?_append_left (by omega), q0] at c0
      rw [List.getElem?_append_left (by omega), q1] at c1
      rw [List.getElem?_append_left (by omega), q2] at c2
      have f0 := hrow.free (k * 3)
      have f1 := hrow.free (k * 3 + 1)
      have f2 := hrow.free (k * 3 + 2)
      have HS := Lib.hid (mixT_cells j xs rest k hk2)
      have hm := mod3 (j + k)
      have HE := Lib.hid (show ((j + (k + 1) : Nat) : Int) = ((j + k : Nat) : Int) + 1 by omega)
      have hb : ((j + k : Nat) : Int) ≤ 33554432 := by omega
      have hb0 : (0 : Int) ≤ ((j + k : Nat) : Int) := by omega
      generalize ((j + k : Nat) : Int) = q at *
      clear hz hk2 hlen q0 q1 q2
      go_wp2
      go_roundw
      case rel => exact ⟨k + 1, by omega, by rw [HE.out]; congr 1; omega, by go_num, by rw [← HS.out]; exact ((hrow.set _ _).set _ _).set _ _, ((hd.setCell (.inl rfl) _).setCell (.inl rfl) _).setCell (.inl rfl) _⟩
      case measure => simp [intOf]; omega
    · obtain rfl : k = n := by omega
      have HM := Lib.hid (mixT_all j xs)
      rw [HN.out] at HM
      go_wp2
      go_ret
      exact ⟨rfl, by rw [← HM.out]; exact hrow, hd⟩
set_option maxHeartbeats 1000000 in
theorem heldTermsRow_any (g n c j : Nat) (rest : List Value) (w : World) (hN : n ≤ 16777216) (hj : j ≤ 16777216) (hR : Row w g 45 (tcells (mkT j n) ++ rest)) :
    Calls Tryd.prog 18 #[.slice (some ⟨g, 0, none⟩) n c, .int .i64 (1 + 3 * (j : Int))] w fun e w' => e = .returned (.int .i64 (1 + 3 * ((j + n : Nat) : Int))) ∧ w = w' := by
  go_enter Tryd.func18, Tryd.ntmps18
  go_wp2
  go_loop [1, 5] (fun x i => ∃ k : Nat, k ≤ n ∧ x = .int .i64 (1 + 3 * ((j + k : Nat) : Int)) ∧ i = .int .i64 k) (fun _ i => n - (intOf i).toNat)
  case atStart => exact ⟨0, by omega, by simp, rfl⟩
  case round =>
    obtain ⟨k, hk, rfl, rfl⟩ := hrel
    by_cases hlt : k < n
    · have hlen : (tcells (mkT j n)).length = n * 3 := by rw [tcells_len, mkT_len]
      obtain ⟨q0, q1, q2⟩ := tcells_at _ _ _ (mkT_at j n k hlt)
      have c0 := hR.cell (k * 3)
      have c1 := hR.cell (k * 3 + 1)
      have c2 := hR.cell (k * 3 + 2)
      rw [List.getElem?_append_left (by omega), q0] at c0
      rw [List.getElem?_append_left (by omega), q1] at c1
      rw [List.getElem?_append_left (by omega), q2] at c2
      unfold mkTe at c0 c1 c2
      simp only at c0 c1 c2
      have hm := mod3 (j + k)
      have HE := Lib.hid (show ((j + (k + 1) : Nat) : Int) = ((j + k : Nat) : Int) + 1 by omega)
      have hb : ((j + k : Nat) : Int) ≤ 33554432 := by omega
      have hb0 : (0 : Int) ≤ ((j + k : Nat) : Int) := by omega
      clear hR
      generalize ((j + k : Nat) : Int) = q at *
      clear hlen q0 q1 q2
      go_wp2
      go_round
      case rel => exact ⟨k + 1, by omega, by rw [HE.out]; congr 1; omega, by go_num⟩
      case measure => simp [intOf]; omega
    · obtain rfl : k = n := by omega
      go_wp2
      go_ret
      exact ⟨rfl, rfl⟩
/-- A list is marked. -/
theorem markTermsLst_any (v : Value) (xs : List Tm) (B j : Nat) (w : World) (h : LstG tcl 3 45 w B v xs) (hB : B ≤ w.heap.size) (hN : xs.length ≤ 16777216) (hj : j ≤ 16777216) :
    Calls Tryd.prog 17 #[v, .int .i64 (1 + 3 * (j : Int))] w fun e w' => e = .returned (.int .i64 (1 + 3 * ((j + xs.length : Nat) : Int))) ∧ LstG tcl 3 45 w' B v (mkT j xs.length) ∧ Below B w w' := by
  rcases LstG.row h with ⟨rfl, rfl⟩ | ⟨g, cap, rest, rfl, hg, hr, h1, h2, h3⟩
  · refine (markTermsNil_any none 0 j w).mono ?_
    rintro e w' ⟨rfl, rfl⟩
    exact ⟨by simp, by simpa [mkT] using h, Below.refl _ _⟩
  · refine (markTermsRow_any g xs.length cap j xs rest w rfl hN hj hr).mono ?_
    rintro e w' ⟨rfl, hr2, hd⟩
    refine ⟨rfl, ?_, hd.below hg hB⟩
    have := LstG.of_row (cl := tcl) (m := 3) (w := w') (xs := mkT j xs.length) tcl_len hg hr2 h2 (by rw [mkT_len]; exact h1) (by rw [mkT_len]; exact h3)
    rwa [mkT_len] at this
theorem heldTermsLst_any (v : Value) (n : Nat) (B j : Nat) (w : World) (h : LstG tcl 3 45 w B v (mkT j n)) (hN : n ≤ 16777216) (hj : j ≤ 16777216) :
    Calls Tryd.prog 18 #[v, .int .i64 (1 + 3 * (j : Int))] w fun e w' => e = .returned (.int .i64 (1 + 3 * ((j + n : Nat) : Int))) ∧ w = w' := by
  rcases LstG.row h with ⟨rfl, h0⟩ | ⟨g, cap, rest, rfl, hg, hr, h1, h2, h3⟩
  · obtain rfl : n = 0 := by have := mkT_len j n; rw [h0] at this; exact this.symm
    refine (heldTermsNil_any none 0 j w).mono ?_
    rintro e w' ⟨rfl, rfl⟩
    exact ⟨by simp, rfl⟩
  · rw [mkT_len]
    exact heldTermsRow_any g n cap j rest w hN hj hr
theorem markTermsLst_0 (v : Value) (xs : List Tm) (B : Nat) (w : World) (h : LstG tcl 3 45 w B v xs) (hB : B ≤ w.heap.size) (hN : xs.length ≤ 16777216) :
    Calls Tryd.prog 17 #[v, .int .i64 1] w fun e w' => e = .returned (.int .i64 (1 + 3 * (xs.length : Int))) ∧ LstG tcl 3 45 w' B v (mkT 0 xs.length) ∧ Below B w w' := by
  simpa using markTermsLst_any v xs B 0 w h hB hN (by omega)
theorem heldTermsLst_0 (v : Value) (n : Nat) (B : Nat) (w : World) (h : LstG tcl 3 45 w B v (mkT 0 n)) (hN : n ≤ 16777216) :
    Calls Tryd.prog 18 #[v, .int .i64 1] w fun e w' => e = .returned (.int .i64 (1 + 3 * (n : Int))) ∧ w = w' := by
  simpa using heldTermsLst_any v n B 0 w h hN (by omega)
theorem markTermsRow_0 (g n c : Nat) (xs : List Tm) (w : World) (hn : xs.length = n) (hN : n ≤ 16777216) (hR : Row w g 45 (tcells xs)) :
    Calls Tryd.prog 17 #[.slice (some ⟨g, 0, none⟩) n c, .int .i64 1] w fun e w' => e = .returned (.int .i64 (1 + 3 * (n : Int))) ∧ Dr g w w' := by
  have h := markTermsRow_any g n c 0 xs [] w hn hN (by omega) (by simpa using hR)
  simp only [Nat.zero_add] at h
  refine (show Calls _ _ #[_, .int .i64 1] _ _ from by simpa using h).mono ?_
  rintro e w' ⟨he, -, hd⟩
  exact ⟨he, hd⟩
theorem markTermsRow_j (g n c j : Nat) (xs : List Tm) (w : World) (hn : xs.length = n) (hN : n ≤ 16777216) (hj : j ≤ 16777216) (hR : Row w g 45 (tcells xs)) :
    Calls Tryd.prog 17 #[.slice (some ⟨g, 0, none⟩) n c, .int .i64 (1 + 3 * (j : Int))] w fun e w' => e = .returned (.int .i64 (1 + 3 * ((j + n : Nat) : Int))) ∧ Dr g w w' :=
  (markTermsRow_any g n c j xs [] w hn hN hj (by simpa using hR)).mono fun e w' ⟨he, _, hd⟩ => ⟨he, hd⟩
theorem eqTermsLst_any (v u : Value) (xs : List Tm) (B C : Nat) (w : World) (h : LstG tcl 3 45 w B v xs) (k : LstG tcl 3 45 w C u xs) (hN : xs.length ≤ 16777216) :
    Calls Tryd.prog 16 #[v, u] w fun e w' => e = .returned (.bool true) ∧ Gr w w' := by
  obtain ⟨A1, c1, rfl, r1⟩ := LstG.slice h
  obtain ⟨A2, c2, rfl, r2⟩ := LstG.slice k
  exact eqTerms_same A1 A2 xs.length c1 c2 xs w rfl hN r1 r2
theorem LstG.keepT {T : TypeId} {w w' : World} {B : Nat} {v : Value} {xs : List Tm} (h : LstG tcl 3 T w B v xs) (hk : ∀ g, v.ownBlock = some g → g < w.heap.size → w'.heap[g]? = w.heap[g]?) : LstG tcl 3 T w' B v xs := by
  refine ⟨h.1, ?_⟩
  rcases h.2 with h0 | ⟨g, cap, cur, rfl, hB, hg, r⟩
  · exact .inl h0
  · exact .inr ⟨g, cap, cur, rfl, hB, (hk g rfl (Array.getElem?_eq_some_iff.1 hg).1).trans hg, r⟩
end Go.Proofs.YtphebmbapllinaaDoor
