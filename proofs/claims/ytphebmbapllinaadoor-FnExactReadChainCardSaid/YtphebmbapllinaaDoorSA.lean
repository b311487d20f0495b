/- Plain mathematics, merged. -/
import Derived.Test.YtphebmbapllinaaDoorRows
import Derived.Laws.StructEq
import Derived.WalkKit
import Derived.Test.YtphebmbapllinaaDoorGr
import Derived.Laws.Rows
import Derived.Laws.MakeOwn
import Derived.OwnWalk
import Derived.ProofKit
import Derived.BigQuiet
import Derived.Deep.QuietTactic
import Derived.Lib.Hide
import Derived.ChangeSlices
import Derived.OpenShut
import Derived.Carry
import Derived.Laws.AppendOwn
import Derived.Laws.CopyOwn
import Derived.Deep.RegionLaw
import Derived.Deep.Slices
import Derived.Deep.Strs
/- Structs of two integers, compared. -/
namespace Go.Proofs.YtphebmbapllinaaDoor
open Go.RowKit
set_option linter.unusedVariables false
set_option linter.unusedSimpArgs false

theorem guard_fig (op : BinOp) (x y : Operand) (xs ys : Array Value) (w : World) : (eqGuard op 43 x y (.agg xs) (.agg ys)).run Tryd.prog w = .ok () w := run_eqGuard_agg w op _ x y xs ys (by kernel_rfl)
theorem neq_fig (a b c d : Int) (w : World) : (binOp .neq 43 (.agg #[.int .i64 a, .int .i64 b]) (.agg #[.int .i64 c, .int .i64 d])).run Tryd.prog w = .ok (.bool (!(a == c && b == d))) w := by
  rw [run_neq_struct, run_equalIn_agg (d := 9999) w _ _ _ (by kernel_rfl) (by kernel_rfl)]
  simp [Op.eqFields, Program.fieldsOf, Tryd.underlying43, Tryd.underlying2, go_sem]
  by_cases h1 : a = c <;> by_cases h2 : b = d <;> simp [h1, h2]
theorem eql_fig (a b c d : Int) (w : World) : (binOp .eql 43 (.agg #[.int .i64 a, .int .i64 b]) (.agg #[.int .i64 c, .int .i64 d])).run Tryd.prog w = .ok (.bool (a == c && b == d)) w := by
  rw [run_eql_struct, run_equalIn_agg (d := 9999) w _ _ _ (by kernel_rfl) (by kernel_rfl)]
  simp [Op.eqFields, Program.fieldsOf, Tryd.underlying43, Tryd.underlying2, go_sem]
  by_cases h1 : a = c <;> by_cases h2 : b = d <;> simp [h1, h2]
end Go.Proofs.YtphebmbapllinaaDoor

/- Slices of integers: what they read as; made, copied, compared. -/
namespace Go.Proofs.YtphebmbapllinaaDoor
open Go.RowKit Go.ChangeShapes Go.WideShapes Go.ChangeAt
set_option linter.unusedVariables false
set_option linter.unusedSimpArgs false

abbrev vi (z : Int) : Value := .int .i64 z
/-- A slice at A reads as these cells, below block B. -/
def Reads (w : World) (B : Nat) (A : Option Addr) (vs : List Value) : Prop :=
  ∀ k (h : k < vs.length), ∃ g o : Nat, A = some ⟨g, o, none⟩ ∧ g < B ∧ w.cell? ⟨g, o + k, none⟩ = some vs[k]
theorem Reads.keep {w w' : World} {B B' : Nat} {A : Option Addr} {vs : List Value} (h : Reads w B A vs) (hb : B ≤ B') (hk : ∀ k, k < B → w'.heap[k]? = w.heap[k]?) : Reads w' B' A vs := by
  intro k hk'
  obtain ⟨g, o, e, hg, hc⟩ := h k hk'
  exact ⟨g, o, e, by omega, by rw [← hc]; exact World.cell?_of_block (hk g hg)⟩
theorem Reads.below {w w' : World} {A : Option Addr} {vs : List Value} (h : Reads w w.heap.size A vs) (hb : Below w.heap.size w w') : Reads w' w'.heap.size A vs := h.keep hb.size hb.block
theorem Reads.gr {w w' : World} {A : Option Addr} {vs : List Value} (h : Reads w w.heap.size A vs) (hg : Gr w w') : Reads w' w'.heap.size A vs := h.below hg.below
theorem Reads.nil (w : World) (B : Nat) (A : Option Addr) : Reads w B A [] := fun k hk => absurd hk (by simp)

/-- Block b is just these cells, and can be written. -/
def Row (w : World) (b : Nat) (t : TypeId) (vs : List Value) : Prop := w.heap[b]? = some (.cells vs.toArray t (0, 0))
theorem Row.lt {w : World} {b : Nat} {t : TypeId} {vs : List Value} (h : Row w b t vs) : b < w.heap.size := by
  rcases Nat.lt_or_ge b w.heap.size with h1 | h1
  · exact h1
  · unfold Row at h; rw [Array.getElem?_eq_none h1] at h; cases h
theorem Row.cell {w : World} {b : Nat} {t : TypeId} {vs : List Value} (h : Row w b t vs) (k : Nat) : w.cell? ⟨b, k, none⟩ = vs[k]? := by
  rw [cell_of_row w b k _ _ _ h]; simp
theorem Row.free {w : World} {b : Nat} {t : TypeId} {vs : List Value} (h : Row w b t vs) (k : Nat) : w.frozen? ⟨b, k, none⟩ = false := by
  unfold Row at h; simp [World.frozen?, h]
theorem Row.reads {w : World} {b : Nat} {t : TypeId} {vs : List Value} (h : Row w b t vs) : Reads w w.heap.size (some ⟨b, 0, none⟩) vs :=
  fun k hk => ⟨b, 0, rfl, h.lt, by rw [Nat.zero_add, h.cell, List.getElem?_eq_getElem hk]⟩
theorem Row.new (w : World) (t : TypeId) (vs : List Value) : Row (w.alloc (.cells vs.toArray t)) w.heap.size t vs := heap_alloc_new w _
theorem Row.below {w w' : World} {B b : Nat} {t : TypeId} {vs : List Value} (h : Row w b t vs) (hb : Below B w w') (hB : b < B) : Row w' b t vs := (hb.block b hB).trans h
theorem Row.gr {w w' : World} {b : Nat} {t : TypeId} {vs : List Value} (h : Row w b t vs) (hg : Gr w w') : Row w' b t vs := h.below hg.below h.lt
theorem Row.set {w : World} {b : Nat} {t : TypeId} {vs : List Value} (h : Row w b t vs) (k : Nat) (x : Value) : Row (w.setCell ⟨b, k, none⟩ x) b t (vs.set k x) := by
  unfold Row at h ⊢
  simp [World.setCell, Array.getElem?_modify, h]

/-- k elements are filled in, the rest is still what it was made of. -/
def fillV (vs : List Value) (z : Value) (k : Nat) : List Value := vs.take k ++ List.replicate (vs.length - k) z
theorem fillV_zero (vs : List Value) (z : Value) : fillV vs z 0 = List.replicate vs.length z := by simp [fillV]
theorem fillV_all (vs : List Value) (z : Value) : fillV vs z vs.length = vs := by simp [fillV]
theorem fillV_len (vs : List Value) (z : Value) (k : Nat) (h : k ≤ vs.length) : (fillV vs z k).length = vs.length := by simp [fillV]; omega
theorem fillV_at (vs : List Value) (z : Value) (k : Nat) (h : k < vs.length) : (fillV vs z k)[k]? = some z := by
  unfold fillV
  rw [List.getElem?_append_right (by simp; omega), List.getElem?_replicate, if_pos (by rw [List.length_take]; omega)]
theorem fillV_set (vs : List Value) (z : Value) (k : Nat) (h : k < vs.length) : (fillV vs z k).set k vs[k] = fillV vs z (k + 1) := by
  unfold fillV
  have e : vs.length - k = (vs.length - (k + 1)) + 1 := by omega
  rw [e, List.replicate_succ, List.set_append_right _ _ (by simp; omega)]
  simp only [List.length_take, show k - min k vs.length = 0 by omega, List.set_cons_zero]
  rw [List.take_succ_eq_append_getElem h, List.append_assoc]
  rfl

theorem Reads.at_ {w : World} {B : Nat} {A : Option Addr} {vs : List Value} (h : Reads w B A vs) {k : Nat} {x : Value} (hx : vs[k]? = some x) : ∃ g o : Nat, A = some ⟨g, o, none⟩ ∧ g < B ∧ w.cell? ⟨g, o + k, none⟩ = some x := by
  obtain ⟨hk, e⟩ := List.getElem?_eq_some_iff.1 hx
  obtain ⟨g, o, a, b, c⟩ := h k hk
  exact ⟨g, o, a, b, by rw [c, e]⟩
theorem fillV_put (vs : List Value) (z x : Value) (k : Nat) (hx : vs[k]? = some x) : (fillV vs z k).set k x = fillV vs z (k + 1) := by
  obtain ⟨hk, e⟩ := List.getElem?_eq_some_iff.1 hx
  rw [← e]; exact fillV_set vs z k hk
theorem some_at {α : Type} {l : List α} {k : Nat} (h : k < l.length) : ∃ x, l[k]? = some x := ⟨_, List.getElem?_eq_getElem h⟩
theorem map_at {α β : Type} {f : α → β} {l : List α} {k : Nat} {x : α} (h : l[k]? = some x) : (l.map f)[k]? = some (f x) := by rw [List.getElem?_map, h]; rfl

theorem made_rep (z : Value) (hz : z.cells = #[z]) (n : Nat) : madeCells z.cells n = (List.replicate n z).toArray := by
  rw [hz]
  apply Array.ext_getElem?
  intro i
  unfold madeCells
  by_cases h : i < n <;> simp [h, Nat.mod_one]
/-- A made slice, at every world. -/
theorem run_mk {P : Program} {t e : TypeId} {z : Value} {b : Nat} (ht : P.underlying t = some (.slice e)) (hi : (P.info? e).map (fun i => (i.zero, i.size, i.bytes)) = some (some z, 1, b)) (hz : z.cells = #[z]) (hb : b ≤ 64) (n : Nat) (hn : n ≤ 16777216) (w : World) :
    (Instr.makeSlice t (.int .i64 (n : Int)) (.int .i64 (n : Int))).run P w = .ok (.slice (some ⟨w.heap.size, 0, none⟩) n n) (w.alloc (.cells (List.replicate n z).toArray e)) := by
  obtain ⟨i0, hi, hz0, hz1, hz2⟩ := info_parts hi
  have hbb : (i0.bytes : Int) * (n : Int) ≤ 281474976710656 := by
    have h1 : i0.bytes * n ≤ 64 * 16777216 := Nat.mul_le_mul (by omega) hn
    have h2 : ((i0.bytes * n : Nat) : Int) ≤ 281474976710656 := by omega
    rwa [Int.natCast_mul] at h2
  have hr := run_make (P := P) w t e i0 z ht hi hz0 .i64 .i64 n n (by omega) (Int.le_refl _) hbb (by omega)
  simp only [Int.toNat_natCast, hz1, Nat.mul_one, made_rep z hz] at hr
  exact hr

section
variable {P : Program} {H : Type} {enc : TypeId × Value → H} {W : World}
/-- A slice of integers, opened. -/
theorem open_islice {t e : TypeId} {v : Value} {d : DataW H} {ps : List MemPlace} (ht : P.underlying t = some (.slice e)) (he : P.underlying e = some (.int .i64)) (hc : P.cellsOf e = 1) {r : Reach} {b0 : Nat}
    (hval : Value.okWide P W r b0 t v) (h : DataW.Trod enc P W 0 (fun _ => true) true t v d ps) :
    ∃ (A : Option Addr) (n c : Nat) (zs : List Int), v = .slice A n c ∧ zs.length = n ∧ Reads W W.heap.size A (zs.map vi) ∧ ∀ z ∈ zs, (Lit.int .i64 z).wf = true := by
  obtain ⟨A, n, c, rfl⟩ := okWide_slice ht hval
  obtain ⟨fuel, hf⟩ := h
  rcases open_ints ht he hc hf with ⟨hv, -⟩ | ⟨a, len, cap, zs, hv, hbase, hlen, hcap, hz, -, hcell, hwf⟩
  · simp [Value.cells] at hv
    obtain ⟨rfl, rfl, rfl⟩ := hv
    exact ⟨none, 0, 0, [], rfl, rfl, Reads.nil _ _ _, by simp⟩
  · simp [Value.cells] at hv
    obtain ⟨rfl, rfl, rfl⟩ := hv
    simp at hz
    refine ⟨some a, n, c, zs.take n, rfl, by rw [List.length_take]; omega, ?_, fun z hz' => hwf z (List.mem_of_mem_take hz')⟩
    intro k hk
    rw [List.length_map, List.length_take] at hk
    have hkz : k < zs.length := by omega
    have h1 := hcell k hkz
    have hs : a.spot = none := by
      have h0 := hcell 0 (by omega)
      cases hsp : a.spot with
      | none => rfl
      | some s =>
        have : (a.add 0) = a := by unfold Addr.add; simp
        rw [this] at h0
        unfold World.cell? at h0
        rw [hsp] at h0
        split at h0 <;> simp at h0
    obtain ⟨g, o, sp⟩ := a
    simp at hs
    subst hs
    have hadd : (⟨g, o, none⟩ : Addr).add k = ⟨g, o + k, none⟩ := add_plain ..
    rw [hadd] at h1
    refine ⟨g, o, rfl, World.block_lt_of_cell? W _ h1, ?_⟩
    rw [h1]
    simp [List.getD, hkz]
end
end Go.Proofs.YtphebmbapllinaaDoor

/- append to a row of the call's own: the row stays where it lay, or lies behind all that was there. -/
namespace Go.Proofs.YtphebmbapllinaaDoor
open Go.RowKit
set_option linter.unusedVariables false

/-- Where a value's block lies after an append. -/
def OldOrNew (w : World) (v v' : Value) : Prop := v'.ownBlock = v.ownBlock ∨ ∃ g, v'.ownBlock = some g ∧ w.heap.size ≤ g
theorem append_block {P : Program} (w : World) (base : Nat) (t ty e : TypeId) (i : TypeInfo) (z : Value) (size bytes : Nat) (ht : P.underlying t = some (.slice e)) (hi : P.info? e = some i) (hz : i.zero = some z)
    (hsize : i.size = size) (hby : i.bytes = bytes) (v : Value) (n : Nat) (xs : List Value) (hown : w.ownsRow base e size v n xs)
    (a : Addr) (m c : Nat) (news : List Value) (hl : news.length = m * size) (hnews : ∀ j u, news[j]? = some u → w.cell? (a.add j) = some u) (h1 : ∀ u ∈ news, u.oneCell' = true) (hm : 0 < m)
    (h63 : n + m ≤ maxLen) (hbytes : (n + m) * bytes ≤ 140737488355328) {v' : Value} {w' : World} (hr : (Builtin.append_ #[t, t] ty #[v, .slice (some a) m c]).run P w = .ok v' w') : OldOrNew w v v' := by
  subst hsize hby
  have hs : n + m ≤ 9223372036854775807 := by unfold maxLen at h63; omega
  rcases hown.2 with ⟨rfl, rfl⟩ | ⟨g, cap, cur, rfl, hbg, hg, hnc, hcm, hcs, htake⟩
  · have h := run_append_nil (P := P) w t ty e i z ht hi hz a m c news hl hnews hm (by omega) (by simp only [Nat.zero_add] at hbytes; omega)
    rw [h] at hr
    injection hr with e1 e2
    subst e1
    exact .inr ⟨_, rfl, Nat.le_refl _⟩
  · by_cases hroom : n + m ≤ cap
    · have h := run_append_room (P := P) w t ty e i ht hi g n cap cur hg a m c news hl hnews h1 hroom (by rw [hl, hcs, ← Nat.add_mul]; exact Nat.mul_le_mul_right _ hroom)
      rw [h] at hr
      injection hr with e1 e2
      subst e1
      exact .inl rfl
    · have h := run_append_grow (P := P) w t ty e i z ht hi hz ⟨g, 0, none⟩ n cap xs hown.1 (hown.cells (g := g) rfl) a m c news hl hnews (by omega) (by omega) (growslice_fits (by omega) hbytes)
      rw [h] at hr
      injection hr with e1 e2
      subst e1
      exact .inr ⟨_, rfl, Nat.le_refl _⟩
theorem wp_append_ownB {P : Program} {w : World} {o : Oper} {a : Act} {K : Act → World → Prop} {Q : Exit → Act → World → Prop} (s x : Operand) (t : TypeId)
    (ho : o.op = .call { callee := .builtin .append, args := #[s, x], argTypes := #[t, t] })
    (base : Nat) (e : TypeId) (i : TypeInfo) (z : Value) (size bytes : Nat) (ht : P.underlying t = some (.slice e)) (hi : P.info? e = some i) (hz : i.zero = some z)
    (hsize : i.size = size) (hby : i.bytes = bytes) (hzs : z.cells.size = size) (hsz : 0 < size)
    (v : Value) (n : Nat) (xs : List Value) (hs : a.eval s = v) (hown : w.ownsRow base e size v n xs)
    (ad : Addr) (m c : Nat) (news : List Value) (hx : a.eval x = .slice (some ad) m c) (hl : news.length = m * size) (hnews : ∀ j u, news[j]? = some u → w.cell? (ad.add j) = some u) (h1 : ∀ u ∈ news, u.oneCell' = true) (hm : 0 < m)
    (h63 : n + m ≤ maxLen) (hbytes : (n + m) * bytes ≤ 140737488355328) (hbase : base ≤ w.heap.size)
    (h : ∀ v' w', w'.ownsRow base e size v' (n + m) (xs ++ news) → w.grownBy w' v.ownBlock → OldOrNew w v v' → K (a.put o.dst v') w') : o.wp P a w K Q := by
  obtain ⟨v', w', hr, h2, h3, h4⟩ := run_append_own (P := P) w base t o.type e i z size bytes ht hi hz hsize hby hzs hsz v n xs hown ad m c news hl hnews h1 h63 hbytes hbase
  have h5 := append_block (P := P) w base t o.type e i z size bytes ht hi hz hsize hby v n xs hown ad m c news hl hnews h1 hm h63 hbytes hr
  unfold Oper.wp execOp
  simp only [ho, resolve, invoke, builtin, Sem.run_bind, Sem.run_pure, Result.andThen_ok, List.map_toArray, List.map_cons, List.map_nil, hs, hx, hr]
  exact h v' w' h2 h3 h5
theorem wpList_append_ownB {P : Program} (w : World) {ops : Array Oper} {rest : List Oper} {o : Oper} {a : Act} {Q : Exit → Act → World → Prop} (hgd : o.guard = none) (s x : Operand) (t : TypeId)
    (ho : o.op = .call { callee := .builtin .append, args := #[s, x], argTypes := #[t, t] })
    (base : Nat) (e : TypeId) (i : TypeInfo) (z : Value) (size bytes : Nat) (ht : P.underlying t = some (.slice e)) (hi : P.info? e = some i) (hz : i.zero = some z)
    (hsize : i.size = size) (hby : i.bytes = bytes) (hzs : z.cells.size = size) (hsz : 0 < size)
    (v : Value) (n : Nat) (xs : List Value) (hs : a.eval s = v) (hown : w.ownsRow base e size v n xs)
    (ad : Addr) (m c : Nat) (news : List Value) (hx : a.eval x = .slice (some ad) m c) (hl : news.length = m * size) (hnews : ∀ j u, news[j]? = some u → w.cell? (ad.add j) = some u) (h1 : ∀ u ∈ news, u.oneCell' = true) (hm : 0 < m)
    (h63 : n + m ≤ maxLen) (hbytes : (n + m) * bytes ≤ 140737488355328) (hbase : base ≤ w.heap.size)
    (h : ∀ v' w', w'.ownsRow base e size v' (n + m) (xs ++ news) → w.grownBy w' v.ownBlock → OldOrNew w v v' → wpList P ops Q rest (a.put o.dst v') w') : wpList P ops Q (o :: rest) a w :=
  wpList_plain hgd fun _ hK => wp_append_ownB s x t ho base e i z size bytes ht hi hz hsize hby hzs hsz v n xs hs hown ad m c news hx hl hnews h1 hm h63 hbytes hbase fun v' w' h2 h3 h4 => hK _ _ (h v' w' h2 h3 h4)
/-- copy into a row: what it leaves of all other blocks. -/
theorem wpList_copy_spliceG {P : Program} {w : World} {ops : Array Oper} {rest : List Oper} {o : Oper} {a : Act} {Q : Exit → Act → World → Prop} (hgd : o.guard = none) (d s : Operand) (dT sT : TypeId)
    (ho : o.op = .call { callee := .builtin .copy, args := #[d, s], argTypes := #[dT, sT] }) (elem : TypeId) (hu : P.underlying dT = some (.slice elem)) (hsz : (P.info? elem).map (·.size) = some 1)
    (dp sp : Option Addr) (dLen dCap sLen sCap : Nat) (hd : a.eval d = .slice dp dLen dCap) (hs : a.eval s = .slice sp sLen sCap)
    (g off : Nat) (cur : List Value) (t : TypeId) (hg : w.heap[g]? = some (.cells cur.toArray t (0, 0))) (cs : List Value) (hn : cs.length = Nat.min sLen dLen)
    (hpos : 0 < cs.length → dp = some ⟨g, off, none⟩ ∧ ∃ ad, sp = some ad ∧ ∀ j v, cs[j]? = some v → w.cell? (ad.add j) = some v)
    (hfit : off + cs.length ≤ cur.length) (h1 : ∀ v ∈ cs, v.oneCell' = true)
    (h : ∀ w', Hid (w'.heap[g]? = some (.cells (splice cur off cs).toArray t (0, 0))) → w.grownBy w' (some g) → wpList P ops Q rest (a.put o.dst (goInt cs.length)) w') :
    wpList P ops Q (o :: rest) a w := by
  by_cases h0 : cs.length = 0
  · obtain rfl : cs = [] := List.eq_nil_of_length_eq_zero h0
    refine wpList_copy_nothing hgd d s dT sT ho elem hu hsz dp sp dLen dCap sLen sCap hd hs (by simpa using hn.symm) ?_
    exact h w (show _ = _ by simpa [splice] using hg) ⟨rfl, rfl, rfl, Nat.le_refl _, fun _ _ _ => rfl⟩
  · obtain ⟨rfl, ad, rfl, hsrc⟩ := hpos (by omega)
    refine wpList_copy_own hgd d s dT sT ho elem hu hsz g off dLen dCap ad sLen sCap hd hs cur.toArray t hg cs hn hsrc (by simpa using hfit) h1 ?_
    exact h _ (show _ = _ by simpa [splice] using setRow_heap w g _ _ t _ hg) ⟨rfl, rfl, rfl, by simp [World.setRow], fun k _ hk => setRow_other w g k _ (fun e => hk (by rw [e]))⟩
theorem grownBy_cell (W : World) (b k : Nat) (v : Value) : W.grownBy (W.setCell ⟨b, k, none⟩ v) (some b) :=
  ⟨rfl, rfl, rfl, by simp [World.setCell], fun i _ hi => Below.heap_setCell _ _ _ i (fun e => hi (by rw [e]))⟩
theorem grownBy_own {u v w : World} {r : Option Nat} {g : Nat} (h : u.grownBy v r) (hg : r = some g ∨ u.heap.size ≤ g) (k : v.grownBy w (some g)) : u.grownBy w r :=
  ⟨k.os.trans h.os, k.tape.trans h.tape, k.output.trans h.output, Nat.le_trans h.size k.size, fun i hi hn => by
    have hne : some i ≠ some g := by
      intro e
      injection e with e
      subst e
      rcases hg with hg | hg
      · exact hn hg.symm
      · omega
    exact (k.block i (Nat.lt_of_lt_of_le hi h.size) hne).trans (h.block i hi hn)⟩
/-- Blocks of others lie as they lay. -/
theorem grownBy_trans {u v w : World} {r : Option Nat} (h : u.grownBy v r) (k : v.grownBy w r) : u.grownBy w r :=
  ⟨k.os.trans h.os, k.tape.trans h.tape, k.output.trans h.output, Nat.le_trans h.size k.size, fun i hi hn => (k.block i (Nat.lt_of_lt_of_le hi h.size) hn).trans (h.block i hi hn)⟩
theorem grownBy_gr {u v : World} (h : Gr u v) (r : Option Nat) : u.grownBy v r := ⟨h.below.os, h.below.tape, h.below.output, h.below.size, fun i hi _ => h.below.block i hi⟩
end Go.Proofs.YtphebmbapllinaaDoor

/- Slices of structs of three integers: what they read as; an argument opened. -/
namespace Go.Proofs.YtphebmbapllinaaDoor
open Go.RowKit Go.ChangeShapes Go.WideShapes Go.ChangeAt
set_option linter.unusedVariables false
set_option linter.unusedSimpArgs false

abbrev P3 := Int × Int × Int
def cells3 (zs : List P3) : List Value := zs.flatMap fun p => [vi p.1, vi p.2.1, vi p.2.2]
theorem cells3_len : ∀ zs : List P3, (cells3 zs).length = zs.length * 3
  | [] => rfl
  | p :: r => by
    have := cells3_len r
    unfold cells3 at *
    rw [List.flatMap_cons, List.length_append, this]
    simp; omega
theorem cells3_at : ∀ (zs : List P3) (i : Nat) (p : P3), zs[i]? = some p → (cells3 zs)[i * 3]? = some (vi p.1) ∧ (cells3 zs)[i * 3 + 1]? = some (vi p.2.1) ∧ (cells3 zs)[i * 3 + 2]? = some (vi p.2.2)
  | [], i, p, h => by simp at h
  | q :: r, 0, p, h => by
    simp at h
    subst h
    unfold cells3
    rw [List.flatMap_cons]
    exact ⟨rfl, rfl, rfl⟩
  | q :: r, i + 1, p, h => by
    have ih := cells3_at r i p (by simpa using h)
    unfold cells3 at *
    rw [List.flatMap_cons, List.getElem?_append_right (by simp; omega), List.getElem?_append_right (by simp; omega), List.getElem?_append_right (by simp; omega)]
    simp only [List.length_cons, List.length_nil]
    rw [show (i + 1) * 3 - (0 + 1 + 1 + 1) = i * 3 by omega, show (i + 1) * 3 + 1 - (0 + 1 + 1 + 1) = i * 3 + 1 by omega, show (i + 1) * 3 + 2 - (0 + 1 + 1 + 1) = i * 3 + 2 by omega]
    exact ih
/-- The three cells of an element. -/
theorem Reads.at3 {w : World} {B : Nat} {A : Option Addr} {zs : List P3} (h : Reads w B A (cells3 zs)) {i : Nat} {p : P3} (hp : zs[i]? = some p) :
    ∃ g o : Nat, A = some ⟨g, o, none⟩ ∧ g < B ∧ w.cell? ⟨g, o + i * 3, none⟩ = some (vi p.1) ∧ w.cell? ⟨g, o + i * 3 + 1, none⟩ = some (vi p.2.1) ∧ w.cell? ⟨g, o + i * 3 + 2, none⟩ = some (vi p.2.2) := by
  obtain ⟨c0, c1, c2⟩ := cells3_at zs i p hp
  obtain ⟨g, o, e0, h0, x0⟩ := h.at_ c0
  obtain ⟨g1, o1, e1, -, x1⟩ := h.at_ c1
  obtain ⟨g2, o2, e2, -, x2⟩ := h.at_ c2
  rw [e0] at e1 e2
  injection e1 with e1
  injection e2 with e2
  injection e1 with a1 b1
  injection e2 with a2 b2
  subst a1 b1 a2 b2
  exact ⟨g, o, e0, h0, x0, by rw [Nat.add_assoc]; exact x1, by rw [Nat.add_assoc]; exact x2⟩
theorem cell_spot0 {w : World} {a : Addr} {x : Value} (h : w.cell? (a.add 0) = some x) : ∃ g o, a = ⟨g, o, none⟩ := by
  obtain ⟨g, o, sp⟩ := a
  cases sp with
  | none => exact ⟨g, o, rfl⟩
  | some s =>
    exfalso
    have e : (⟨g, o, some s⟩ : Addr).add 0 = ⟨g, o, some s⟩ := by unfold Addr.add; simp
    rw [e] at h
    unfold World.cell? at h
    split at h <;> simp at h

section
variable {P : Program} {H : Type} {enc : TypeId × Value → H} {W : World}
/-- A slice of structs of three integers, opened. -/
theorem open_p3 {t e : TypeId} {f0 f1 f2 : Field} {v : Value} {d : DataW H} {ps : List MemPlace} (ht : P.underlying t = some (.slice e)) (he : P.underlying e = some (.struct #[f0, f1, f2])) (ce : P.cellsOf e = 3)
    (o0 : f0.offset = 0) (o1 : f1.offset = 1) (o2 : f2.offset = 2) (k0 : P.underlying f0.type = some (.int .i64)) (k1 : P.underlying f1.type = some (.int .i64)) (k2 : P.underlying f2.type = some (.int .i64))
    (c0 : P.cellsOf f0.type = 1) (c1 : P.cellsOf f1.type = 1) (c2 : P.cellsOf f2.type = 1) {r : Reach} {b0 : Nat}
    (hval : Value.okWide P W r b0 t v) (h : DataW.Trod enc P W 0 (fun _ => true) true t v d ps) :
    ∃ (A : Option Addr) (n c : Nat) (zs : List P3), v = .slice A n c ∧ zs.length = n ∧ Reads W W.heap.size A (cells3 zs) ∧ (∀ z ∈ zs, (Lit.int .i64 z.1).wf = true ∧ (Lit.int .i64 z.2.1).wf = true ∧ (Lit.int .i64 z.2.2).wf = true) ∧ n ≤ maxLen := by
  obtain ⟨A, n, c, rfl⟩ := okWide_slice ht hval
  obtain ⟨fuel, hf⟩ := h
  rcases Deep.open_slice ht hf with ⟨hv, -⟩ | ⟨a, len, cap, m, nn, D, Pl, hv, -, hl, hm, hmm, -, hx⟩
  · simp [Value.cells] at hv
    obtain ⟨rfl, rfl, rfl⟩ := hv
    exact ⟨none, 0, 0, [], rfl, rfl, Reads.nil _ _ _, by simp, by simp⟩
  · simp [Value.cells] at hv
    obtain ⟨rfl, rfl, rfl⟩ := hv
    simp at hmm
    subst hmm
    rcases Nat.eq_zero_or_pos n with hn0 | hn0
    · subst hn0
      exact ⟨some a, 0, _, [], rfl, rfl, Reads.nil _ _ _, by simp, by simp⟩
    obtain ⟨g, o, rfl⟩ : ∃ g o, a = ⟨g, o, none⟩ := by
      obtain ⟨cs', h1, -⟩ := hx 0 (by omega)
      rw [ce] at h1
      obtain ⟨_, hlen, hcell⟩ := World.cells?_some h1
      have q0 := hcell 0 (by omega)
      rw [Deep.add_add] at q0
      simp only [Nat.zero_mul, Nat.add_zero] at q0
      match cs', hlen with
      | [v0, v1, v2], _ => exact cell_spot0 (x := v0) (by simpa using q0)
    have each : ∀ i, i < n → ∃ p : P3, (W.cell? ⟨g, o + i * 3, none⟩ = some (vi p.1) ∧ W.cell? ⟨g, o + i * 3 + 1, none⟩ = some (vi p.2.1) ∧ W.cell? ⟨g, o + i * 3 + 2, none⟩ = some (vi p.2.2)) ∧
        ((Lit.int .i64 p.1).wf = true ∧ (Lit.int .i64 p.2.1).wf = true ∧ (Lit.int .i64 p.2.2).wf = true) := by
      intro i hi
      obtain ⟨cs', h1, h2⟩ := hx i (by omega)
      rw [ce] at h1
      obtain ⟨_, hlen, hcell⟩ := World.cells?_some h1
      obtain ⟨y0, y1, y2, k, -, -, t0, t1, t2⟩ := Deep.trod_struct3 he h2
      match cs', hlen with
      | [v0, v1, v2], _ =>
        rw [o0, c0] at t0
        rw [o1, c1] at t1
        rw [o2, c2] at t2
        simp at t0 t1 t2
        obtain ⟨z0, e0, -, w0⟩ := DataW.trod_int k0 t0
        obtain ⟨z1, e1, -, w1⟩ := DataW.trod_int k1 t1
        obtain ⟨z2, e2, -, w2⟩ := DataW.trod_int k2 t2
        simp at e0 e1 e2
        subst e0 e1 e2
        have q0 := hcell 0 (by omega)
        have q1 := hcell 1 (by omega)
        have q2 := hcell 2 (by omega)
        rw [Deep.add_add, add_plain] at q0 q1 q2
        exact ⟨(z0, z1, z2), ⟨by simpa using q0, by rw [Nat.add_assoc]; simpa using q1, by rw [Nat.add_assoc]; simpa using q2⟩, w0, w1, w2⟩
    obtain ⟨q, hq⟩ := Deep.choose_lt each
    have hget : ∀ i, i < n → ((List.range n).map q)[i]? = some (q i) := fun i hi => by simp [List.getElem?_map, List.getElem?_range hi]
    refine ⟨some ⟨g, o, none⟩, n, _, (List.range n).map q, rfl, by simp, ?_, fun z hz => ?_, by omega⟩
    · intro k hk
      rw [cells3_len, List.length_map, List.length_range] at hk
      have hi : k / 3 < n := by omega
      obtain ⟨⟨x0, x1, x2⟩, -⟩ := hq (k / 3) hi
      obtain ⟨y0, y1, y2⟩ := cells3_at _ _ _ (hget (k / 3) hi)
      rcases (show k = k / 3 * 3 ∨ k = k / 3 * 3 + 1 ∨ k = k / 3 * 3 + 2 by omega) with hk3 | hk3 | hk3
      all_goals
        refine ⟨g, o, rfl, World.block_lt_of_cell? W _ x0, ?_⟩
        have hkl : k < (cells3 ((List.range n).map q)).length := by rw [cells3_len, List.length_map, List.length_range]; omega
      · rw [← hk3, List.getElem?_eq_getElem hkl] at y0
        injection y0 with y0
        rw [← hk3] at x0
        rw [x0, ← y0]
      · rw [← hk3, List.getElem?_eq_getElem hkl] at y1
        injection y1 with y1
        rw [Nat.add_assoc, ← hk3] at x1
        rw [x1, ← y1]
      · rw [← hk3, List.getElem?_eq_getElem hkl] at y2
        injection y2 with y2
        rw [Nat.add_assoc, ← hk3] at x2
        rw [x2, ← y2]
    · obtain ⟨i, hi, rfl⟩ := List.mem_map.1 hz
      exact (hq i (List.mem_range.1 hi)).2
end
/-- k elements are filled in, the rest is nought. -/
def fill3 (zs : List P3) (k : Nat) : List Value := cells3 (zs.take k) ++ List.replicate ((zs.length - k) * 3) (vi 0)
theorem fill3_zero (zs : List P3) : fill3 zs 0 = List.replicate (zs.length * 3) (vi 0) := by simp [fill3, cells3]
theorem fill3_all (zs : List P3) : fill3 zs zs.length = cells3 zs := by simp [fill3]
theorem cells3_take_len (zs : List P3) (k : Nat) (h : k ≤ zs.length) : (cells3 (zs.take k)).length = k * 3 := by rw [cells3_len, List.length_take]; congr 1; omega
theorem fill3_split (zs : List P3) (k : Nat) (h : k < zs.length) : fill3 zs k = cells3 (zs.take k) ++ (vi 0 :: vi 0 :: vi 0 :: List.replicate ((zs.length - (k + 1)) * 3) (vi 0)) := by
  unfold fill3
  rw [show (zs.length - k) * 3 = (zs.length - (k + 1)) * 3 + 1 + 1 + 1 by omega, List.replicate_succ, List.replicate_succ, List.replicate_succ]
theorem fill3_at (zs : List P3) (k : Nat) (h : k < zs.length) : (fill3 zs k)[k * 3]? = some (vi 0) ∧ (fill3 zs k)[k * 3 + 1]? = some (vi 0) ∧ (fill3 zs k)[k * 3 + 2]? = some (vi 0) := by
  have hl := cells3_take_len zs k (by omega)
  rw [fill3_split zs k h, List.getElem?_append_right (by omega), List.getElem?_append_right (by omega), List.getElem?_append_right (by omega), hl,
    show k * 3 - k * 3 = 0 by omega, show k * 3 + 1 - k * 3 = 1 by omega, show k * 3 + 2 - k * 3 = 2 by omega]
  exact ⟨rfl, rfl, rfl⟩
theorem fill3_put (zs : List P3) (k : Nat) (p : P3) (hp : zs[k]? = some p) : (((fill3 zs k).set (k * 3) (vi p.1)).set (k * 3 + 1) (vi p.2.1)).set (k * 3 + 2) (vi p.2.2) = fill3 zs (k + 1) := by
  obtain ⟨hk, e⟩ := List.getElem?_eq_some_iff.1 hp
  have hl := cells3_take_len zs k (by omega)
  rw [fill3_split zs k hk, List.set_append_right _ _ (by omega), List.set_append_right _ _ (by omega), List.set_append_right _ _ (by omega), hl,
    show k * 3 - k * 3 = 0 by omega, show k * 3 + 1 - k * 3 = 1 by omega, show k * 3 + 2 - k * 3 = 2 by omega]
  simp only [List.set_cons_zero, List.set_cons_succ]
  unfold fill3
  rw [List.take_succ_eq_append_getElem hk, e]
  unfold cells3
  rw [List.flatMap_append, List.append_assoc]
  rfl
theorem made_rep3 (x : Value) (m : Nat) : madeCells #[x, x, x] m = (List.replicate m x).toArray := by
  apply Array.ext_getElem?
  intro i
  unfold madeCells
  by_cases h : i < m
  · have h3 : i % 3 = 0 ∨ i % 3 = 1 ∨ i % 3 = 2 := by omega
    rcases h3 with h3 | h3 | h3 <;> simp [h, h3]
  · simp [h]
/-- A made slice of structs of three integers, at every world. -/
theorem run_mk3 {P : Program} {t e : TypeId} {b : Nat} (ht : P.underlying t = some (.slice e)) (hi : (P.info? e).map (fun i => (i.zero, i.size, i.bytes)) = some (some (.agg #[vi 0, vi 0, vi 0]), 3, b)) (hb : b ≤ 64) (n : Nat) (hn : n ≤ 16777216) (w : World) :
    (Instr.makeSlice t (.int .i64 (n : Int)) (.int .i64 (n : Int))).run P w = .ok (.slice (some ⟨w.heap.size, 0, none⟩) n n) (w.alloc (.cells (List.replicate (n * 3) (vi 0)).toArray e)) := by
  obtain ⟨i0, hi, hz0, hz1, hz2⟩ := info_parts hi
  have hbb : (i0.bytes : Int) * (n : Int) ≤ 281474976710656 := by
    have h1 : i0.bytes * n ≤ 64 * 16777216 := Nat.mul_le_mul (by omega) hn
    have h2 : ((i0.bytes * n : Nat) : Int) ≤ 281474976710656 := by omega
    rwa [Int.natCast_mul] at h2
  have hr := run_make (P := P) w t e i0 _ ht hi hz0 .i64 .i64 n n (by omega) (Int.le_refl _) hbb (by omega)
  simp only [Int.toNat_natCast, hz1, Value.cells, made_rep3] at hr
  exact hr
end Go.Proofs.YtphebmbapllinaaDoor
