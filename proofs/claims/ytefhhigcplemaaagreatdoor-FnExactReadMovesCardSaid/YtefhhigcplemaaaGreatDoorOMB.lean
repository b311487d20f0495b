/- Plain mathematics, merged. -/
import Derived.Test.YtefhhigcplemaaaGreatDoorSA
import Derived.Lib.SmallJoins
import Derived.Test.YtefhhigcplemaaaGreatDoor12A
import Derived.Test.YtefhhigcplemaaaGreatDoor2A
import Derived.Test.YtefhhigcplemaaaGreatDoor7C
/- A slice of integers that is a field of a struct, opened. -/
namespace Go.Proofs.YtefhhigcplemaaaGreatDoor
open Go.RowKit Go.ChangeShapes Go.WideShapes Go.ChangeAt
set_option linter.unusedVariables false
set_option linter.unusedSimpArgs false
section
variable {P : Program} {H : Type} {enc : TypeId × Value → H} {W : World}
theorem open_icell {t e : TypeId} {v : Value} {fuel : Nat} {x : DataW H × List MemPlace} (ht : P.underlying t = some (.slice e)) (he : P.underlying e = some (.int .i64)) (hc : P.cellsOf e = 1)
    (hf : DataW.trod enc P W 0 (fun _ => true) true fuel t [v] = some x) :
    ∃ (A : Option Addr) (n c : Nat) (zs : List Int), v = .slice A n c ∧ zs.length = n ∧ Reads W W.heap.size A (zs.map vi) ∧ n ≤ maxLen ∧ ∀ z ∈ zs, (Lit.int .i64 z).wf = true := by
  rcases open_ints ht he hc hf with ⟨hv, -⟩ | ⟨a, len, cap, zs, hv, hbase, hlen, hcap, hz, -, hcell, hwf⟩
  · simp at hv
    subst hv
    exact ⟨none, 0, 0, [], rfl, rfl, Reads.nil _ _ _, by simp [maxLen], by simp⟩
  · simp at hv
    subst hv
    simp at hz
    refine ⟨some a, len, cap, zs.take len, rfl, by rw [List.length_take]; omega, ?_, by omega, fun z hz' => hwf z (List.mem_of_mem_take hz')⟩
    intro k hk
    rw [List.length_map, List.length_take] at hk
    have hkz : k < zs.length := by omega
    have h1 := hcell k hkz
    have hs : a.spot = none := by
      have h0 := hcell 0 (by omega)
      cases hsp : a.spot with
      | none => rfl
      | some s =>
        have : (a.add 0) = a := by unfold Addr.add; simp
        rw [this] at h0
        unfold World.cell? at h0
        rw [hsp] at h0
        split at h0 <;> simp at h0
    obtain ⟨g, o, sp⟩ := a
    simp at hs
    subst hs
    have hadd : (⟨g, o, none⟩ : Addr).add k = ⟨g, o + k, none⟩ := add_plain ..
    rw [hadd] at h1
    refine ⟨g, o, rfl, World.block_lt_of_cell? W _ h1, ?_⟩
    rw [h1]
    simp [List.getD, hkz]
end
end Go.Proofs.YtefhhigcplemaaaGreatDoor

/- Moves as arguments of a law: opened; lists of them made, compared, counted. -/
namespace Go.Proofs.YtefhhigcplemaaaGreatDoor
open Go.RowKit Go.ChangeShapes Go.WideShapes Go.ChangeAt
set_option linter.unusedVariables false
set_option linter.unusedSimpArgs false

section
variable {P : Program} {H : Type} {enc : TypeId × Value → H} {W : World}
theorem trod_move {t : TypeId} {f0 f1 f2 g0 g1 : Field} {fuel : Nat} {cs : List Value} {x : DataW H × List MemPlace} (ht : P.underlying t = some (.struct #[f0, f1, f2])) (hg : P.underlying f2.type = some (.struct #[g0, g1]))
    (o0 : f0.offset = 0) (o1 : f1.offset = 1) (o2 : f2.offset = 2) (p0 : g0.offset = 0) (p1 : g1.offset = 1) (k0 : P.underlying f0.type = some (.int .i64)) (k1 : P.underlying f1.type = some (.int .i64)) (k2 : P.underlying g0.type = some (.int .i64)) (k3 : P.underlying g1.type = some (.int .i64))
    (c0 : P.cellsOf f0.type = 1) (c1 : P.cellsOf f1.type = 1) (c2 : P.cellsOf f2.type = 2) (d0 : P.cellsOf g0.type = 1) (d1 : P.cellsOf g1.type = 1) (hl : cs.length = 4)
    (h : DataW.trod enc P W 0 (fun _ => true) true fuel t cs = some x) :
    ∃ m : Mv, cs = mcl m ∧ ((Lit.int .i64 m.1).wf = true ∧ (Lit.int .i64 m.2.1).wf = true ∧ (Lit.int .i64 m.2.2.1).wf = true ∧ (Lit.int .i64 m.2.2.2).wf = true) := by
  obtain ⟨y0, y1, y2, n, -, -, t0, t1, t2⟩ := Deep.trod_struct3 ht h
  match cs, hl with
  | [v0, v1, v2, v3], _ =>
    rw [o0, c0] at t0
    rw [o1, c1] at t1
    rw [o2, c2] at t2
    simp at t0 t1 t2
    obtain ⟨z0, z1, n2, -, -, s0, s1⟩ := trod_struct2 hg t2
    rw [p0, d0] at s0
    rw [p1, d1] at s1
    simp at s0 s1
    obtain ⟨a, e0, -, w0⟩ := DataW.trod_int k0 t0
    obtain ⟨b, e1, -, w1⟩ := DataW.trod_int k1 t1
    obtain ⟨c, e2, -, w2⟩ := DataW.trod_int k2 s0
    obtain ⟨d, e3, -, w3⟩ := DataW.trod_int k3 s1
    simp at e0 e1 e2 e3
    subst e0 e1 e2 e3
    exact ⟨(a, b, c, d), rfl, w0, w1, w2, w3⟩
theorem open_mv {t : TypeId} {f0 f1 f2 g0 g1 : Field} {v : Value} {d : DataW H} {ps : List MemPlace} {r : Reach} {b0 : Nat} (ht : P.underlying t = some (.struct #[f0, f1, f2])) (hg : P.underlying f2.type = some (.struct #[g0, g1])) (ct : P.cellsOf t = 4)
    (o0 : f0.offset = 0) (o1 : f1.offset = 1) (o2 : f2.offset = 2) (p0 : g0.offset = 0) (p1 : g1.offset = 1) (k0 : P.underlying f0.type = some (.int .i64)) (k1 : P.underlying f1.type = some (.int .i64)) (k2 : P.underlying g0.type = some (.int .i64)) (k3 : P.underlying g1.type = some (.int .i64))
    (c0 : P.cellsOf f0.type = 1) (c1 : P.cellsOf f1.type = 1) (c2 : P.cellsOf f2.type = 2) (d0 : P.cellsOf g0.type = 1) (d1 : P.cellsOf g1.type = 1)
    (hv : Value.okWide P W r b0 t v) (h : DataW.Trod enc P W 0 (fun _ => true) true t v d ps) : ∃ k s u e : Int, v = .agg #[.int .i64 (k), .int .i64 (s), .int .i64 (u), .int .i64 (e)] := by
  obtain ⟨cs, rfl, hsz⟩ := okWide_struct ht hv
  obtain ⟨fuel, hf⟩ := h
  obtain ⟨m, e, -⟩ := trod_move ht hg o0 o1 o2 p0 p1 k0 k1 k2 k3 c0 c1 c2 d0 d1 (by simpa [Value.cells] using hsz.trans ct) hf
  refine ⟨m.1, m.2.1, m.2.2.1, m.2.2.2, ?_⟩
  have e2 : cs.toList = mcl m := by simpa [Value.cells] using e
  rw [← Array.toArray_toList (xs := cs), e2]
  rfl
theorem open_p4 {t e : TypeId} {f0 f1 f2 g0 g1 : Field} {v : Value} {d : DataW H} {ps : List MemPlace} (ht : P.underlying t = some (.slice e)) (he : P.underlying e = some (.struct #[f0, f1, f2])) (hg : P.underlying f2.type = some (.struct #[g0, g1])) (ce : P.cellsOf e = 4)
    (o0 : f0.offset = 0) (o1 : f1.offset = 1) (o2 : f2.offset = 2) (p0 : g0.offset = 0) (p1 : g1.offset = 1) (k0 : P.underlying f0.type = some (.int .i64)) (k1 : P.underlying f1.type = some (.int .i64)) (k2 : P.underlying g0.type = some (.int .i64)) (k3 : P.underlying g1.type = some (.int .i64))
    (c0 : P.cellsOf f0.type = 1) (c1 : P.cellsOf f1.type = 1) (c2 : P.cellsOf f2.type = 2) (d0 : P.cellsOf g0.type = 1) (d1 : P.cellsOf g1.type = 1) {r : Reach} {b0 : Nat}
    (hval : Value.okWide P W r b0 t v) (h : DataW.Trod enc P W 0 (fun _ => true) true t v d ps) :
    ∃ (A : Option Addr) (n c : Nat) (zs : List Mv), v = .slice A n c ∧ zs.length = n ∧ Reads W W.heap.size A (mcells zs) ∧ n ≤ maxLen := by
  obtain ⟨A, n, c, rfl⟩ := okWide_slice ht hval
  obtain ⟨fuel, hf⟩ := h
  rcases Deep.open_slice ht hf with ⟨hv, -⟩ | ⟨a, len, cap, m, nn, D, Pl, hv, -, hl, hm, hmm, -, hx⟩
  · simp [Value.cells] at hv
    obtain ⟨rfl, rfl, rfl⟩ := hv
    exact ⟨none, 0, 0, [], rfl, rfl, Reads.nil _ _ _, by simp⟩
  · simp [Value.cells] at hv
    obtain ⟨rfl, rfl, rfl⟩ := hv
    simp at hmm
    subst hmm
    rcases Nat.eq_zero_or_pos n with hn0 | hn0
    · subst hn0
      exact ⟨some a, 0, _, [], rfl, rfl, Reads.nil _ _ _, by simp⟩
    obtain ⟨g, o, rfl⟩ : ∃ g o, a = ⟨g, o, none⟩ := by
      obtain ⟨cs', h1, -⟩ := hx 0 (by omega)
      rw [ce] at h1
      obtain ⟨_, hlen, hcell⟩ := World.cells?_some h1
      have q0 := hcell 0 (by omega)
      rw [Deep.add_add] at q0
      simp only [Nat.zero_mul, Nat.add_zero] at q0
      match cs', hlen with
      | [v0, v1, v2, v3], _ => exact cell_spot0 (x := v0) (by simpa using q0)
    have each : ∀ i, i < n → ∃ p : Mv, ∀ j, j < 4 → W.cell? ⟨g, o + (i * 4 + j), none⟩ = (mcl p)[j]? := by
      intro i hi
      obtain ⟨cs', h1, h2⟩ := hx i (by omega)
      rw [ce] at h1
      obtain ⟨_, hlen, hcell⟩ := World.cells?_some h1
      obtain ⟨p, e, -⟩ := trod_move he hg o0 o1 o2 p0 p1 k0 k1 k2 k3 c0 c1 c2 d0 d1 hlen h2
      refine ⟨p, fun j hj => ?_⟩
      have q := hcell j (by omega)
      rw [Deep.add_add, add_plain] at q
      rw [q, ← e, List.getElem?_eq_getElem (by omega)]
    obtain ⟨q, hq⟩ := Deep.choose_lt each
    have hget : ∀ i, i < n → ((List.range n).map q)[i]? = some (q i) := fun i hi => by simp [List.getElem?_map, List.getElem?_range hi]
    refine ⟨some ⟨g, o, none⟩, n, _, (List.range n).map q, rfl, by simp, ?_, by omega⟩
    intro k hk
    have hkl := hk
    rw [mcells_len, List.length_map, List.length_range] at hk
    have hi : k / 4 < n := by omega
    have x := hq (k / 4) hi (k % 4) (by omega)
    have hk4 : k / 4 * 4 + k % 4 = k := by omega
    rw [hk4] at x
    have y : (mcells ((List.range n).map q))[k]? = (mcl (q (k / 4)))[k % 4]? := by
      obtain ⟨y0, y1, y2, y3⟩ := mcells_at _ _ _ (hget (k / 4) hi)
      rcases (show k % 4 = 0 ∨ k % 4 = 1 ∨ k % 4 = 2 ∨ k % 4 = 3 by omega) with e | e | e | e
      · rw [e] at hk4 ⊢; rw [← hk4, Nat.add_zero]; rw [Nat.add_zero] at hk4; rw [show k / 4 * 4 / 4 = k / 4 by omega]; exact y0
      · rw [e] at hk4 ⊢; rw [← hk4]; rw [show (k / 4 * 4 + 1) / 4 = k / 4 by omega]; exact y1
      · rw [e] at hk4 ⊢; rw [← hk4]; rw [show (k / 4 * 4 + 2) / 4 = k / 4 by omega]; exact y2
      · rw [e] at hk4 ⊢; rw [← hk4]; rw [show (k / 4 * 4 + 3) / 4 = k / 4 by omega]; exact y3
    rw [List.getElem?_eq_getElem hkl] at y
    rw [← y] at x
    exact ⟨g, o, rfl, World.block_lt_of_cell? W _ x, x⟩
end

/-- k elements are filled in. -/
def fill4 (zs : List Mv) (k : Nat) : List Value := mcells (zs.take k) ++ List.replicate ((zs.length - k) * 4) (vi 0)
theorem fill4_zero (zs : List Mv) : fill4 zs 0 = List.replicate (zs.length * 4) (vi 0) := by simp [fill4, mcells]
theorem fill4_all (zs : List Mv) : fill4 zs zs.length = mcells zs := by simp [fill4]
theorem mcells_take_len (zs : List Mv) (k : Nat) (h : k ≤ zs.length) : (mcells (zs.take k)).length = k * 4 := by rw [mcells_len, List.length_take]; congr 1; omega
theorem fill4_split (zs : List Mv) (k : Nat) (h : k < zs.length) : fill4 zs k = mcells (zs.take k) ++ (vi 0 :: vi 0 :: vi 0 :: vi 0 :: List.replicate ((zs.length - (k + 1)) * 4) (vi 0)) := by
  unfold fill4
  rw [show (zs.length - k) * 4 = (zs.length - (k + 1)) * 4 + 1 + 1 + 1 + 1 by omega, List.replicate_succ, List.replicate_succ, List.replicate_succ, List.replicate_succ]
theorem fill4_at (zs : List Mv) (k : Nat) (h : k < zs.length) : (fill4 zs k)[k * 4]? = some (vi 0) ∧ (fill4 zs k)[k * 4 + 1]? = some (vi 0) ∧ (fill4 zs k)[k * 4 + 2]? = some (vi 0) ∧ (fill4 zs k)[k * 4 + 3]? = some (vi 0) := by
  have hl := mcells_take_len zs k (by omega)
  rw [fill4_split zs k h, List.getElem?_append_right (by omega), List.getElem?_append_right (by omega), List.getElem?_append_right (by omega), List.getElem?_append_right (by omega), hl,
    show k * 4 - k * 4 = 0 by omega, show k * 4 + 1 - k * 4 = 1 by omega, show k * 4 + 2 - k * 4 = 2 by omega, show k * 4 + 3 - k * 4 = 3 by omega]
  exact ⟨rfl, rfl, rfl, rfl⟩
theorem fill4_put (zs : List Mv) (k : Nat) (p : Mv) (hp : zs[k]? = some p) : ((((fill4 zs k).set (k * 4) (vi p.1)).set (k * 4 + 1) (vi p.2.1)).set (k * 4 + 2) (vi p.2.2.1)).set (k * 4 + 3) (vi p.2.2.2) = fill4 zs (k + 1) := by
  obtain ⟨hk, e⟩ := List.getElem?_eq_some_iff.1 hp
  have hl := mcells_take_len zs k (by omega)
  rw [fill4_split zs k hk, List.set_append_right _ _ (by omega), List.set_append_right _ _ (by omega), List.set_append_right _ _ (by omega), List.set_append_right _ _ (by omega), hl,
    show k * 4 - k * 4 = 0 by omega, show k * 4 + 1 - k * 4 = 1 by omega, show k * 4 + 2 - k * 4 = 2 by omega, show k * 4 + 3 - k * 4 = 3 by omega]
  simp only [List.set_cons_zero, List.set_cons_succ]
  unfold fill4
  rw [mv_at hp, List.append_assoc]
  rfl
theorem made_rep4 (x : Value) (m : Nat) : madeCells #[x, x, x, x] m = (List.replicate m x).toArray := by
  apply Array.ext_getElem?
  intro i
  unfold madeCells
  by_cases h : i < m
  · have h3 : i % 4 = 0 ∨ i % 4 = 1 ∨ i % 4 = 2 ∨ i % 4 = 3 := by omega
    rcases h3 with h3 | h3 | h3 | h3 <;> simp [h, h3]
  · simp [h]
theorem run_mk4 {P : Program} {t e : TypeId} {b : Nat} (ht : P.underlying t = some (.slice e)) (hi : (P.info? e).map (fun i => (i.zero, i.size, i.bytes)) = some (some (.agg #[vi 0, vi 0, vi 0, vi 0]), 4, b)) (hb : b ≤ 64) (n : Nat) (hn : n ≤ 4194304) (w : World) :
    (Instr.makeSlice t (.int .i64 (n : Int)) (.int .i64 (n : Int))).run P w = .ok (.slice (some ⟨w.heap.size, 0, none⟩) n n) (w.alloc (.cells (List.replicate (n * 4) (vi 0)).toArray e)) := by
  obtain ⟨i0, hi, hz0, hz1, hz2⟩ := info_parts hi
  have hbb : (i0.bytes : Int) * (n : Int) ≤ 281474976710656 := by
    have h1 : i0.bytes * n ≤ 64 * 4194304 := Nat.mul_le_mul (by omega) hn
    have h2 : ((i0.bytes * n : Nat) : Int) ≤ 281474976710656 := by omega
    rwa [Int.natCast_mul] at h2
  have hr := run_make (P := P) w t e i0 _ ht hi hz0 .i64 .i64 n n (by omega) (Int.le_refl _) hbb (by omega)
  simp only [Int.toNat_natCast, hz1, Value.cells, made_rep4] at hr
  exact hr
theorem mkMoves (n : Nat) (hn : n ≤ 4194304) (w : World) :
    (Instr.makeSlice 29 (.int .i64 (n : Int)) (.int .i64 (n : Int))).run Tryz.prog w = .ok (.slice (some ⟨w.heap.size, 0, none⟩) n n) (w.alloc (.cells (List.replicate (n * 4) (vi 0)).toArray 39)) :=
  run_mk4 (b := 32) Tryz.underlying29 (by kernel_rfl) (by omega) n hn w
/-- A list of moves was made. -/
def Made4 (zs : List Mv) (w : World) (e : Ending) (w' : World) : Prop :=
  ∃ b : Nat, e = .returned (.slice (some ⟨b, 0, none⟩) zs.length zs.length) ∧ w.heap.size ≤ b ∧ Row w' b 39 (mcells zs) ∧ Below w.heap.size w w'
theorem eqMove_same (a b c d : Int) (w : World) :
    Calls Tryz.prog 78 #[.agg #[.int .i64 (a), .int .i64 (b), .int .i64 (c), .int .i64 (d)], .agg #[.int .i64 (a), .int .i64 (b), .int .i64 (c), .int .i64 (d)]] w fun e w' => e = .returned (.bool true) ∧ Gr w w' := by
  have HF := Lib.hid (fun W => eqFigure_same c d W)
  go_enter Tryz.func78, Tryz.ntmps78
  go_wp2_with (go_at_call 140; (with_reducible refine (HF.out _).mono ?_); rintro e w' ⟨rfl, k, os, rfl⟩)
  go_ret
  exact ⟨rfl, (by repeat (first | with_reducible exact Gr.refl _ | with_reducible refine Gr.alloc ?_ _ | with_reducible refine Gr.gr ?_ _ _ | with_reducible refine Gr.drew ?_ | with_reducible refine Gr.drewN ?_ _))⟩
set_option maxHeartbeats 1000000 in
theorem eqMoves_same (A B : Option Addr) (n c d : Nat) (zs : List Mv) (w : World) (hn : zs.length = n) (hN : n ≤ 16777216) (hA : Reads w w.heap.size A (mcells zs)) (hB : Reads w w.heap.size B (mcells zs)) :
    Calls Tryz.prog 34 #[.slice A n c, .slice B n d] w fun e w' => e = .returned (.bool true) ∧ Gr w w' := by
  have HL := Lib.hid hn
  have HA := Lib.hid hA
  have HB := Lib.hid hB
  clear hn hA hB
  go_enter Tryz.func34, Tryz.ntmps34
  go_wp2
  go_loopw [5] (fun i wr => ∃ k : Nat, k ≤ n ∧ i = .int .i64 k ∧ Gr w wr) (fun i _ => n - (intOf i).toNat)
  case atStart => exact ⟨0, by omega, rfl, Gr.refl _⟩
  case round =>
    obtain ⟨k, hk, rfl, hG⟩ := hrel
    by_cases hlt : k < n
    · obtain ⟨z, hz⟩ := some_at (l := zs) (k := k) (by rw [HL.out]; exact hlt)
      obtain ⟨g, o, rfl, hg, x0, x1, x2, x3⟩ := (HA.out.gr hG).at4 hz
      obtain ⟨g2, o2, rfl, hg2, y0, y1, y2, y3⟩ := (HB.out.gr hG).at4 hz
      have HG := Lib.hid hG
      clear hz hG
      obtain ⟨za, zb, zc, zd⟩ := z
      simp only at x0 x1 x2 x3 y0 y1 y2 y3
      go_wp2
      ((first | refine region_gr_on (by kernel_rfl) (by kernel_rfl) ?_ | refine region_gr (by kernel_rfl) (by kernel_rfl) ?_); (repeat (quiet_step (exact Calls.gr_of (eqMove_same _ _ _ _ _)))); refine wpQuiet_nil ?_; intro _ hw'; obtain ⟨⟨kq, oq⟩, hw''⟩ := hw'; subst hw'')
      go_wp2
      go_roundw
      case rel => exact ⟨k + 1, by omega, by go_num, HG.out.trans (by repeat (first | with_reducible exact Gr.refl _ | with_reducible refine Gr.alloc ?_ _ | with_reducible refine Gr.gr ?_ _ _ | with_reducible refine Gr.drew ?_ | with_reducible refine Gr.drewN ?_ _))⟩
      case measure => simp [intOf]; omega
    · go_wp2
      go_ret
      exact ⟨rfl, hG⟩
end Go.Proofs.YtefhhigcplemaaaGreatDoor
