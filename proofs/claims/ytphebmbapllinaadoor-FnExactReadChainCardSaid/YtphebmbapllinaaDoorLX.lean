/- Plain mathematics, merged. -/
import Derived.Test.YtphebmbapllinaaDoorSA
import Derived.Test.YtphebmbapllinaaDoorD1
import Derived.OwnWalk
import Derived.Maps.AppendAt
import Derived.Deep.Onto
import Derived.BigQuiet
import Derived.Laws.OwnMore
import Derived.StillTailTactics
import Derived.Shelf.Abstract
import Derived.Test.YtphebmbapllinaaDoorGr
/- Lists of structs of three integers in blocks of the call's own, with room to spare. -/
namespace Go.Proofs.YtphebmbapllinaaDoor
open Go.RowKit
set_option linter.unusedVariables false
set_option linter.unusedSimpArgs false

abbrev Lst3 (T : TypeId) (w : World) (B : Nat) (v : Value) (xs : List P3) : Prop := w.ownsRow B T 3 v xs.length (cells3 xs)
theorem Lst3.nil (T : TypeId) (w : World) (B : Nat) : Lst3 T w B (.slice none 0 0) [] := World.ownsRow_nil _ _ _ _
theorem Lst3.new (T : TypeId) (w : World) (B : Nat) (hB : B ≤ w.heap.size) : Lst3 T (w.alloc (.cells #[] T)) B (.slice (some ⟨w.heap.size, 0, none⟩) 0 0) [] := World.ownsRow_made w #[] 0 hB (Nat.zero_le _) rfl
theorem cells3_append (xs ys : List P3) : cells3 (xs ++ ys) = cells3 xs ++ cells3 ys := by unfold cells3; rw [List.flatMap_append]
theorem cells3_one (p : P3) : cells3 [p] = [vi p.1, vi p.2.1, vi p.2.2] := by simp [cells3]
/-- An element was appended: what append's law leaves. -/
theorem Lst3.app {T : TypeId} {w wr w1 : World} {B : Nat} {v v' : Value} {xs : List P3} {a b c : Int} {o : Obj} (hb : Below B w wr) (hB : B ≤ wr.heap.size) (hx : (wr.alloc o).ownsRow B T 3 v xs.length (cells3 xs)) (h' : w1.ownsRow B T 3 v' (xs.length + 1) (cells3 xs ++ [vi a, vi b, vi c])) (hg : (wr.alloc o).grownBy w1 v.ownBlock) :
    Lst3 T w1 B v' (xs ++ [(a, b, c)]) ∧ Below B w w1 := by
  refine ⟨?_, (hb.alloc hB o).grown hg (by simp; omega) (fun k hk => (hx.lt k hk).1)⟩
  unfold Lst3
  rw [cells3_append, cells3_one, List.length_append]
  exact h'
/-- The three cells of the element that is appended. -/
theorem three_cells_new (w : World) (x y z : Value) (t : TypeId) : ∀ j u, [x, y, z][j]? = some u → (w.alloc (.cells #[x, y, z] t)).cell? ((⟨w.heap.size, 0, none⟩ : Addr).add j) = some u := by
  intro j u hj
  match j, hj with
  | 0, hj => simp at hj; subst hj; simp [Addr.add]
  | 1, hj => simp at hj; subst hj; simp [Addr.add]
  | 2, hj => simp at hj; subst hj; simp [Addr.add]
theorem Lst3.row {T : TypeId} {w : World} {B : Nat} {v : Value} {xs : List P3} (h : Lst3 T w B v xs) :
    (v = .slice none 0 0 ∧ xs = []) ∨ ∃ (g cap : Nat) (rest : List Value), v = .slice (some ⟨g, 0, none⟩) xs.length cap ∧ B ≤ g ∧ Row w g T (cells3 xs ++ rest) ∧ xs.length ≤ cap ∧ cap ≤ maxLen ∧ xs.length * 3 + rest.length = cap * 3 := by
  obtain ⟨h1, h2⟩ := h
  rcases h2 with ⟨rfl, h0⟩ | ⟨g, cap, cur, rfl, hB, hg, hn, hc, hs, ht⟩
  · exact .inl ⟨rfl, List.eq_nil_of_length_eq_zero h0⟩
  · refine .inr ⟨g, cap, cur.toList.drop (xs.length * 3), rfl, hB, ?_, hn, hc, ?_⟩
    · unfold Row
      rw [← ht, List.take_append_drop]
      simpa using hg
    · rw [List.length_drop]
      have : cur.toList.length = cap * 3 := by simpa using hs
      omega
theorem Lst3.of_row {T : TypeId} {w : World} {B g cap : Nat} {xs : List P3} {rest : List Value} (hB : B ≤ g) (h : Row w g T (cells3 xs ++ rest)) (hc : cap ≤ maxLen) (hl : xs.length * 3 + rest.length = cap * 3) : Lst3 T w B (.slice (some ⟨g, 0, none⟩) xs.length cap) xs :=
  ⟨cells3_len xs, .inr ⟨g, cap, (cells3 xs ++ rest).toArray, rfl, hB, h, by omega, hc, by simp [cells3_len]; omega, by
    have e : (cells3 xs).length = xs.length * 3 := cells3_len xs
    simp [← e]⟩⟩
theorem Lst3.slice {T : TypeId} {w : World} {B : Nat} {v : Value} {xs : List P3} (h : Lst3 T w B v xs) : ∃ A c, v = .slice A xs.length c ∧ Reads w w.heap.size A (cells3 xs) := by
  rcases Lst3.row h with ⟨rfl, rfl⟩ | ⟨g, cap, rest, rfl, hB, hr, -⟩
  · exact ⟨none, 0, rfl, Reads.nil _ _ _⟩
  · refine ⟨_, _, rfl, fun k hk => ?_⟩
    obtain ⟨g2, o, e, h1, h2⟩ := hr.reads k (by rw [List.length_append]; omega)
    refine ⟨g2, o, e, h1, ?_⟩
    rw [h2, List.getElem_append_left hk]
theorem Lst3.below {T : TypeId} {w w' : World} {B : Nat} {v : Value} {xs : List P3} (h : Lst3 T w B v xs) (hb : Below w.heap.size w w') : Lst3 T w' B v xs := by
  refine ⟨h.1, ?_⟩
  rcases h.2 with h0 | ⟨g, cap, cur, rfl, hB, hg, r⟩
  · exact .inl h0
  · exact .inr ⟨g, cap, cur, rfl, hB, (hb.block g (Array.getElem?_eq_some_iff.1 hg).1).trans hg, r⟩
theorem Lst3.keep {T : TypeId} {w w' : World} {B : Nat} {v : Value} {xs : List P3} (h : Lst3 T w B v xs) (hk : ∀ g, v.ownBlock = some g → g < w.heap.size → w'.heap[g]? = w.heap[g]?) : Lst3 T w' B v xs := by
  refine ⟨h.1, ?_⟩
  rcases h.2 with h0 | ⟨g, cap, cur, rfl, hB, hg, r⟩
  · exact .inl h0
  · exact .inr ⟨g, cap, cur, rfl, hB, (hk g rfl (Array.getElem?_eq_some_iff.1 hg).1).trans hg, r⟩
theorem Lst3.mono {T : TypeId} {w : World} {B B' : Nat} {v : Value} {xs : List P3} (h : Lst3 T w B v xs) (hb : B' ≤ B) : Lst3 T w B' v xs := World.ownsRow.mono h hb

/-- The marks that a law lays into such a list: 1, 2, 3; 4, 5, 6; and so on. -/
def mk3 (n : Nat) : List P3 := (List.range n).map fun (i : Nat) => ((1 + 3 * (i : Int), 1 + 3 * (i : Int) + 1, 1 + 3 * (i : Int) + 1 + 1) : P3)
theorem mk3_len (n : Nat) : (mk3 n).length = n := by simp [mk3]
theorem mk3_at (n k : Nat) (h : k < n) : (mk3 n)[k]? = some (1 + 3 * (k : Int), 1 + 3 * (k : Int) + 1, 1 + 3 * (k : Int) + 1 + 1) := by simp [mk3, h]
def mix3 (xs : List P3) (k : Nat) : List P3 := (mk3 xs.length).take k ++ xs.drop k
theorem mix3_len (xs : List P3) (k : Nat) (h : k ≤ xs.length) : (mix3 xs k).length = xs.length := by unfold mix3; rw [List.length_append, List.length_take, mk3_len, List.length_drop]; omega
theorem mix3_zero (xs : List P3) : mix3 xs 0 = xs := by simp [mix3]
theorem mix3_all (xs : List P3) : mix3 xs xs.length = mk3 xs.length := by
  unfold mix3
  rw [List.drop_length, List.append_nil, List.take_of_length_le (by rw [mk3_len]; exact Nat.le_refl _)]
theorem mix3_at (xs : List P3) (k : Nat) (h : k < xs.length) : (mix3 xs k)[k]? = xs[k]? := by
  unfold mix3
  rw [List.getElem?_append_right (by rw [List.length_take, mk3_len]; omega), List.length_take, mk3_len, List.getElem?_drop]
  congr 1; omega
theorem mix3_cells (xs : List P3) (rest : List Value) (k : Nat) (h : k < xs.length) :
    (((cells3 (mix3 xs k) ++ rest).set (k * 3) (vi (1 + 3 * (k : Int)))).set (k * 3 + 1) (vi (1 + 3 * (k : Int) + 1))).set (k * 3 + 2) (vi (1 + 3 * (k : Int) + 1 + 1)) = cells3 (mix3 xs (k + 1)) ++ rest := by
  have hl : (cells3 ((mk3 xs.length).take k)).length = k * 3 := by rw [cells3_len, List.length_take, mk3_len]; congr 1; omega
  obtain ⟨hm, e⟩ := List.getElem?_eq_some_iff.1 (mk3_at xs.length k h)
  have e1 : cells3 (mix3 xs k) = cells3 ((mk3 xs.length).take k) ++ (vi xs[k].1 :: vi xs[k].2.1 :: vi xs[k].2.2 :: cells3 (xs.drop (k + 1))) := by
    unfold mix3
    rw [cells3_append, List.drop_eq_getElem_cons h]
    rfl
  have e2 : cells3 (mix3 xs (k + 1)) = cells3 ((mk3 xs.length).take k) ++ (vi (1 + 3 * (k : Int)) :: vi (1 + 3 * (k : Int) + 1) :: vi (1 + 3 * (k : Int) + 1 + 1) :: cells3 (xs.drop (k + 1))) := by
    unfold mix3
    rw [cells3_append, List.take_succ_eq_append_getElem hm, e, cells3_append, cells3_one, List.append_assoc]
    rfl
  rw [e1, e2, List.append_assoc, List.append_assoc, List.set_append_right _ _ (by omega), List.set_append_right _ _ (by omega), List.set_append_right _ _ (by omega), hl,
    show k * 3 - k * 3 = 0 by omega, show k * 3 + 1 - k * 3 = 1 by omega, show k * 3 + 2 - k * 3 = 2 by omega]
  rfl
end Go.Proofs.YtphebmbapllinaaDoor

/- copy and append over elements of more than one cell, and of slices that may be nil. -/
namespace Go.Proofs.YtphebmbapllinaaDoor
open Go.RowKit Go.Shelf Go.ChangeShapes Go.WideShapes Go.ChangeAt
set_option linter.unusedVariables false

theorem run_copy_rowN {P : Program} (w : World) (dT sT ty elem : TypeId) (sz g o dLen dCap : Nat) (a : Addr) (sLen sCap : Nat) (cur : Array Value) (t : TypeId) (cs : List Value)
    (hu : P.underlying dT = some (.slice elem)) (hs : (P.info? elem).map (·.size) = some sz)
    (hg : w.heap[g]? = some (.cells cur t (0, 0))) (hn : cs.length = Nat.min sLen dLen * sz)
    (hsrc : ∀ j v, cs[j]? = some v → w.cell? (a.add j) = some v) (hfit : o + cs.length ≤ cur.size) (h1 : ∀ v ∈ cs, v.oneCell' = true) :
    (Builtin.copy_ #[dT, sT] ty #[.slice (some ⟨g, o, none⟩) dLen dCap, .slice (some a) sLen sCap]).run P w =
      .ok (goInt (Nat.min sLen dLen)) (w.setRow g (cur.toList.take o ++ cs ++ cur.toList.drop (o + cs.length)).toArray) := by
  have hl := run_loadCells_list (P := P) w a cs hsrc
  have hst := run_storeCells_at P g o t cs 0 cur w hg (by simpa using hfit) h1
  cases hq : P.info? elem with
  | none => simp [hq] at hs
  | some i =>
    have hi : i.size = sz := by simpa [hq] using hs
    simp [Builtin.copy_, run_underlying hu, Builtin.lenOf, Builtin.firstCells, sizeOf, typeInfo, hq, hi, ← hn, hl, hst]
theorem run_copy_noneN {P : Program} (w : World) (dT sT ty elem : TypeId) (sz : Nat) (d a : Option Addr) (dLen dCap sLen sCap : Nat) (hu : P.underlying dT = some (.slice elem)) (hs : (P.info? elem).map (·.size) = some sz) (hn : Nat.min sLen dLen = 0) :
    (Builtin.copy_ #[dT, sT] ty #[.slice d dLen dCap, .slice a sLen sCap]).run P w = .ok (goInt 0) w := by
  cases hq : P.info? elem with
  | none => simp [hq] at hs
  | some i =>
    have hl : ∀ (x : Addr), (loadCells x 0).run P w = .ok #[] w := fun x => by simpa using run_loadCells_list (P := P) w x [] (by simp)
    cases d <;> cases a <;> simp [Builtin.copy_, run_underlying hu, Builtin.lenOf, Builtin.firstCells, sizeOf, typeInfo, hq, hn, storeCells, hl]
/-- copy into a row, elements of sz cells: the row behind it, and what it leaves of all other blocks. -/
theorem wpList_copy_spliceN {P : Program} {w : World} {ops : Array Oper} {rest : List Oper} {o : Oper} {a : Act} {Q : Exit → Act → World → Prop} (hgd : o.guard = none) (d s : Operand) (dT sT : TypeId)
    (ho : o.op = .call { callee := .builtin .copy, args := #[d, s], argTypes := #[dT, sT] }) (elem : TypeId) (hu : P.underlying dT = some (.slice elem)) (sz : Nat) (hsz : (P.info? elem).map (·.size) = some sz)
    (dp sp : Option Addr) (dLen dCap sLen sCap : Nat) (hd : a.eval d = .slice dp dLen dCap) (hs : a.eval s = .slice sp sLen sCap)
    (g off : Nat) (cur : List Value) (t : TypeId) (hg : w.heap[g]? = some (.cells cur.toArray t (0, 0))) (m : Nat) (cs : List Value) (hm : m = Nat.min sLen dLen) (hn : cs.length = m * sz)
    (hpos : 0 < m → dp = some ⟨g, off, none⟩ ∧ ∃ ad, sp = some ad ∧ ∀ j v, cs[j]? = some v → w.cell? (ad.add j) = some v)
    (hfit : off + cs.length ≤ cur.length) (h1 : ∀ v ∈ cs, v.oneCell' = true)
    (h : ∀ w', Hid (w'.heap[g]? = some (.cells (splice cur off cs).toArray t (0, 0))) → w.grownBy w' (some g) → wpList P ops Q rest (a.put o.dst (goInt m)) w') :
    wpList P ops Q (o :: rest) a w := by
  refine wpList_plain hgd fun K hK => ?_
  by_cases h0 : m = 0
  · subst h0
    obtain rfl : cs = [] := List.eq_nil_of_length_eq_zero (by omega)
    have hrun := run_copy_noneN (P := P) w dT sT o.type elem sz dp sp dLen dCap sLen sCap hu hsz hm.symm
    unfold Oper.wp
    simp [execOp, ho, resolve, invoke, builtin, hd, hs, hrun, Result.andThen]
    exact hK _ _ (h w (show _ = _ by simpa [splice] using hg) ⟨rfl, rfl, rfl, Nat.le_refl _, fun _ _ _ => rfl⟩)
  · obtain ⟨rfl, ad, rfl, hsrc⟩ := hpos (by omega)
    have hrun := run_copy_rowN (P := P) w dT sT o.type elem sz g off dLen dCap ad sLen sCap cur.toArray t cs hu hsz hg (by rw [← hm]; exact hn) hsrc (by simpa using hfit) h1
    rw [← hm] at hrun
    unfold Oper.wp
    simp [execOp, ho, resolve, invoke, builtin, hd, hs, hrun, Result.andThen]
    exact hK _ _ (h _ (show _ = _ by simpa [splice] using setRow_heap w g _ _ t _ hg) ⟨rfl, rfl, rfl, by simp [World.setRow], fun k _ hk => setRow_other w g k _ (fun e => hk (by rw [e]))⟩)
/-- append to a list of the call's own: of whatever slice, nil too. -/
theorem wpList_append_ownA {P : Program} (w : World) {ops : Array Oper} {rest : List Oper} {o : Oper} {a : Act} {Q : Exit → Act → World → Prop} (hgd : o.guard = none) (s x : Operand) (t : TypeId)
    (ho : o.op = .call { callee := .builtin .append, args := #[s, x], argTypes := #[t, t] })
    (base : Nat) (e : TypeId) (i : TypeInfo) (z : Value) (size bytes : Nat) (ht : P.underlying t = some (.slice e)) (hi : P.info? e = some i) (hz : i.zero = some z)
    (hsize : i.size = size) (hby : i.bytes = bytes) (hzs : z.cells.size = size) (hsz : 0 < size)
    (v : Value) (n : Nat) (xs : List Value) (hs : a.eval s = v) (hown : w.ownsRow base e size v n xs)
    (xp : Option Addr) (m c : Nat) (news : List Value) (hx : a.eval x = .slice xp m c) (hnil : xp = none → c = 0 ∧ m = 0) (hl : news.length = m * size) (hnews : 0 < m → ∃ ad, xp = some ad ∧ ∀ j u, news[j]? = some u → w.cell? (ad.add j) = some u) (h1 : ∀ u ∈ news, u.oneCell' = true)
    (h63 : n + m ≤ maxLen) (hbytes : (n + m) * bytes ≤ 140737488355328) (hbase : base ≤ w.heap.size)
    (h : ∀ v' w', w'.ownsRow base e size v' (n + m) (xs ++ news) → w.grownBy w' v.ownBlock → wpList P ops Q rest (a.put o.dst v') w') : wpList P ops Q (o :: rest) a w := by
  cases xp with
  | none =>
    obtain ⟨rfl, rfl⟩ := hnil rfl
    obtain rfl : news = [] := List.eq_nil_of_length_eq_zero (by omega)
    refine wpList_plain hgd fun K hK => ?_
    have hrun := run_append_owned_none (P := P) (w := w) base t o.type e i size ht hi v n xs hown
    unfold Oper.wp
    simp [execOp, ho, resolve, invoke, builtin, hs, hx, hrun, Result.andThen]
    exact hK _ _ (h v w (by simpa using hown) ⟨rfl, rfl, rfl, Nat.le_refl _, fun _ _ _ => rfl⟩)
  | some ad =>
    refine wpList_append_own w hgd s x t ho base e i z size bytes ht hi hz hsize hby hzs hsz v n xs hs hown ad m c news hx hl (fun j u hj => ?_) h1 h63 hbytes hbase (fun v' w' h2 h3 _ => h v' w' h2 h3)
    rcases Nat.eq_zero_or_pos m with h0 | h0
    · subst h0
      obtain rfl : news = [] := List.eq_nil_of_length_eq_zero (by omega)
      cases hj
    · obtain ⟨ad', e', h'⟩ := hnews h0
      injection e' with e'
      subst e'
      exact h' j u hj
/-- append to a slice that has no room (cut off with its capacity), as one step of a region that draws: a new row, all else as it was. -/
theorem step_append_full {P : Program} {ops : Array Oper} {o : Oper} {a : Act} {w : World} {K : Act → World → Prop} {Q : Exit → Act → World → Prop} {E : Prop} (hgd : o.guard = none) (s x : Operand) (t : TypeId)
    (ho : o.op = .call { callee := .builtin .append, args := #[s, x], argTypes := #[t, t] })
    (base : Nat) (e : TypeId) (i : TypeInfo) (z : Value) (size bytes : Nat) (ht : P.underlying t = some (.slice e)) (hi : P.info? e = some i) (hz : i.zero = some z)
    (hsize : i.size = size) (hby : i.bytes = bytes) (hzs : z.cells.size = size)
    (b : Addr) (n : Nat) (xs : List Value) (hs : a.eval s = .slice (some b) n n) (hxl : xs.length = n * size) (holds : ∀ j u, xs[j]? = some u → w.cell? (b.add j) = some u)
    (ad : Addr) (m c : Nat) (news : List Value) (hx : a.eval x = .slice (some ad) m c) (hl : news.length = m * size) (hnews : ∀ j u, news[j]? = some u → w.cell? (ad.add j) = some u) (hm : 0 < m)
    (h63 : n + m ≤ maxLen) (hbytes : (n + m) * bytes ≤ 140737488355328) (hbase : base ≤ w.heap.size)
    (h : ∀ v' w', w'.ownsRow base e size v' (n + m) (xs ++ news) → Gr w w' → K (a.put o.dst v') w') :
    if Region.wanted o (yielded ops a.tmps) = true then Oper.wp P o a w K Q else E := by
  have hw : Region.wanted o (yielded ops a.tmps) = true := by simp [Region.wanted, hgd]
  rw [if_pos hw]
  subst hsize hby
  have hsmall : n + m ≤ 9223372036854775807 := by unfold maxLen at h63; omega
  have hlen : (xs ++ news).length = (n + m) * i.size := by rw [List.length_append, hxl, hl, Nat.add_mul]
  have hr := run_append_grow (P := P) w t o.type e i z ht hi hz b n n xs hxl holds ad m c news hl hnews (by omega) (by omega) (growslice_fits (by omega) hbytes)
  have hge := grownCap_ge w (n + m) n e
  have hcm : grownCap w (n + m) n e ≤ maxLen := grownCap_le_maxLen w (n + m) n e h63
  unfold Oper.wp execOp
  simp only [ho, resolve, invoke, builtin, Sem.run_bind, Sem.run_pure, Result.andThen_ok, List.map_toArray, List.map_cons, List.map_nil, hs, hx, hr]
  refine h _ _ ⟨hlen, .inr ⟨w.heap.size, _, _, rfl, hbase, heap_alloc_new w.drew _, hge, hcm, ?_, ?_⟩⟩ (((Gr.refl w).drew).alloc _)
  · simp only [Array.size_append, List.size_toArray, size_zeroCells, hzs, hxl, hl, ← Nat.add_mul]
    congr 1
    omega
  · simp only [Array.toList_append, List.append_assoc]
    rw [← List.append_assoc, ← hlen]
    exact List.take_left
/-- append of a slice to a row of the call's own, as one step of a region that draws. -/
theorem step_append_own9 {P : Program} {ops : Array Oper} {o : Oper} {a : Act} {w : World} {K : Act → World → Prop} {Q : Exit → Act → World → Prop} {E : Prop} (hgd : o.guard = none) (s x : Operand) (t : TypeId)
    (ho : o.op = .call { callee := .builtin .append, args := #[s, x], argTypes := #[t, t] })
    (base : Nat) (e : TypeId) (i : TypeInfo) (z : Value) (size bytes : Nat) (ht : P.underlying t = some (.slice e)) (hi : P.info? e = some i) (hz : i.zero = some z)
    (hsize : i.size = size) (hby : i.bytes = bytes) (hzs : z.cells.size = size) (hsz : 0 < size)
    (v : Value) (n : Nat) (xs : List Value) (hs : a.eval s = v) (hown : w.ownsRow base e size v n xs)
    (ad : Addr) (m c : Nat) (news : List Value) (hx : a.eval x = .slice (some ad) m c) (hl : news.length = m * size) (hnews : 0 < m → ∀ j u, news[j]? = some u → w.cell? (ad.add j) = some u) (h1 : ∀ u ∈ news, u.oneCell' = true)
    (h63 : n + m ≤ maxLen) (hbytes : (n + m) * bytes ≤ 140737488355328) (hbase : base ≤ w.heap.size)
    (h : ∀ v' w', w'.ownsRow base e size v' (n + m) (xs ++ news) → w.grownBy w' v.ownBlock → K (a.put o.dst v') w') :
    if Region.wanted o (yielded ops a.tmps) = true then Oper.wp P o a w K Q else E := by
  have hw : Region.wanted o (yielded ops a.tmps) = true := by simp [Region.wanted, hgd]
  rw [if_pos hw]
  refine wp_append_own w s x t ho base e i z size bytes ht hi hz hsize hby hzs hsz v n xs hs hown ad m c news hx hl (fun j u hj => ?_) h1 h63 hbytes hbase (fun v' w' h2 h3 _ => h v' w' h2 h3)
  rcases Nat.eq_zero_or_pos m with h0 | h0
  · subst h0
    obtain rfl : news = [] := List.eq_nil_of_length_eq_zero (by omega)
    cases hj
  · exact hnews h0 j u hj
/-- A slice cut from a place on: always at an address. -/
theorem cut_at {P : Program} {T : TypeId} (hT : P.underlying T = some (.slice (P.elem T))) {i0 : TypeInfo} {sz : Nat} (hi : P.info? (P.elem T) = some i0) (hs : i0.size = sz) (g n cap l : Nat) (h : l ≤ n) :
    ∃ o E, (∀ W, (Instr.sliceAt T (.slice (some ⟨g, 0, none⟩) n cap) (some (.int .i64 (l : Int))) none none).run P W = .ok (.slice (some ⟨g, o, none⟩) (n - l) E) W) ∧ (l < n → n ≤ cap → o = l * sz) := by
  refine ⟨if cap = l then 0 else l * sz, cap - l, fun W => ?_, fun h1 h2 => if_neg (by omega)⟩
  rw [run_sliceAt_slice W T _ _ _ _ hT, run_slice_l W T _ n cap hT .i64 (l : Int) (by omega) (by omega)]
  have hsz : (sizeOf (P.elem T)).run P W = .ok sz W := by simp [sizeOf, typeInfo, hi, hs]
  rw [hsz]
  simp only [Result.andThen, sliced, Int.toNat_natCast]
  by_cases hc : cap = l
  · rw [if_pos hc, if_pos hc]
  · rw [if_neg hc, if_neg hc]
    simp only [Option.map_some, Addr.add, Nat.zero_add]
    split <;> first | rfl | simp_all
end Go.Proofs.YtphebmbapllinaaDoor

/- Lists of structs in blocks of the call's own, with room to spare: elements of any number of cells. -/
namespace Go.Proofs.YtphebmbapllinaaDoor
open Go.RowKit Go.ChangeShapes Go.WideShapes Go.ChangeAt
set_option linter.unusedVariables false
set_option linter.unusedSimpArgs false

section
variable {α : Type} {cl : α → List Value} {m : Nat}
abbrev LstG (cl : α → List Value) (m : Nat) (T : TypeId) (w : World) (B : Nat) (v : Value) (xs : List α) : Prop := w.ownsRow B T m v xs.length (xs.flatMap cl)
theorem flat_len (hm : ∀ a, (cl a).length = m) : ∀ xs : List α, (xs.flatMap cl).length = xs.length * m
  | [] => by simp
  | x :: r => by
    rw [List.flatMap_cons, List.length_append, hm, flat_len hm r, List.length_cons, Nat.add_mul]
    omega
theorem flat_drop (hm : ∀ a, (cl a).length = m) (xs : List α) (k : Nat) (hk : k ≤ xs.length) : (xs.flatMap cl).drop (k * m) = (xs.drop k).flatMap cl := by
  conv => lhs; rw [← List.take_append_drop k xs, List.flatMap_append]
  have hl : ((xs.take k).flatMap cl).length = k * m := by rw [flat_len hm, List.length_take, Nat.min_eq_left hk]
  rw [← hl, List.drop_left]
theorem flat_take (hm : ∀ a, (cl a).length = m) (xs : List α) (k : Nat) (hk : k ≤ xs.length) : (xs.flatMap cl).take (k * m) = (xs.take k).flatMap cl := by
  conv => lhs; rw [← List.take_append_drop k xs, List.flatMap_append]
  have hl : ((xs.take k).flatMap cl).length = k * m := by rw [flat_len hm, List.length_take, Nat.min_eq_left hk]
  rw [← hl, List.take_left]
/-- A cell of an element. -/
theorem flat_at (hm : ∀ a, (cl a).length = m) (xs : List α) (k : Nat) (x : α) (hx : xs[k]? = some x) (j : Nat) (hj : j < m) : (xs.flatMap cl)[k * m + j]? = (cl x)[j]? := by
  obtain ⟨hk, e⟩ := List.getElem?_eq_some_iff.1 hx
  have h := flat_drop hm xs k (by omega)
  rw [← List.getElem?_drop, h, List.drop_eq_getElem_cons hk, e, List.flatMap_cons, List.getElem?_append_left (by rw [hm]; exact hj)]
/-- An element is put in behind k others: copied up, then laid down. -/
theorem flat_splice (hm : ∀ a, (cl a).length = m) (xs : List α) (x : α) (rest : List Value) (k : Nat) (hk : k ≤ xs.length) :
    ∃ y, splice ((xs ++ [x]).flatMap cl ++ rest) ((k + 1) * m) ((xs.drop k).flatMap cl) = (xs.take k).flatMap cl ++ (cl y ++ ((xs.drop k).flatMap cl ++ rest)) := by
  have hlx : ((xs ++ [x]).flatMap cl).length = (xs.length + 1) * m := by rw [flat_len hm, List.length_append]; rfl
  have hld : ((xs.drop k).flatMap cl).length = (xs.length - k) * m := by rw [flat_len hm, List.length_drop]
  have hle : (k + 1) * m ≤ (xs.length + 1) * m := Nat.mul_le_mul_right _ (by omega)
  have hsum : (k + 1) * m + (xs.length - k) * m = (xs.length + 1) * m := by rw [← Nat.add_mul]; congr 1; omega
  obtain ⟨y, hy⟩ := some_at (l := xs ++ [x]) (k := k) (by rw [List.length_append, List.length_singleton]; omega)
  obtain ⟨hkk, ey⟩ := List.getElem?_eq_some_iff.1 hy
  refine ⟨y, ?_⟩
  unfold splice
  rw [List.take_append_of_le_length (by rw [hlx]; exact hle), flat_take hm _ _ (by rw [List.length_append, List.length_singleton]; omega), List.take_succ_eq_append_getElem hkk, ey,
    List.take_append_of_le_length hk, List.flatMap_append, hld, hsum, ← hlx, List.drop_left]
  simp
theorem LstG.row {T : TypeId} {w : World} {B : Nat} {v : Value} {xs : List α} (h : LstG cl m T w B v xs) :
    (v = .slice none 0 0 ∧ xs = []) ∨ ∃ (g cap : Nat) (rest : List Value), v = .slice (some ⟨g, 0, none⟩) xs.length cap ∧ B ≤ g ∧ Row w g T (xs.flatMap cl ++ rest) ∧ xs.length ≤ cap ∧ cap ≤ maxLen ∧ xs.length * m + rest.length = cap * m := by
  obtain ⟨h1, h2⟩ := h
  rcases h2 with ⟨rfl, h0⟩ | ⟨g, cap, cur, rfl, hB, hg, hn, hc, hs, ht⟩
  · exact .inl ⟨rfl, List.eq_nil_of_length_eq_zero h0⟩
  · refine .inr ⟨g, cap, cur.toList.drop (xs.length * m), rfl, hB, ?_, hn, hc, ?_⟩
    · unfold Row
      rw [← ht, List.take_append_drop]
      simpa using hg
    · rw [List.length_drop]
      have : cur.toList.length = cap * m := by simpa using hs
      have := Nat.mul_le_mul_right m hn
      omega
theorem LstG.of_row (hm : ∀ a, (cl a).length = m) {T : TypeId} {w : World} {B g cap : Nat} {xs : List α} {rest : List Value} (hB : B ≤ g) (h : Row w g T (xs.flatMap cl ++ rest)) (hc : cap ≤ maxLen) (h1 : xs.length ≤ cap) (hl : xs.length * m + rest.length = cap * m) : LstG cl m T w B (.slice (some ⟨g, 0, none⟩) xs.length cap) xs :=
  ⟨flat_len hm xs, .inr ⟨g, cap, (xs.flatMap cl ++ rest).toArray, rfl, hB, h, h1, hc, by simp only [List.size_toArray, List.length_append, flat_len hm]; omega, by
    rw [← flat_len hm xs]
    simp⟩⟩
theorem LstG.slice {T : TypeId} {w : World} {B : Nat} {v : Value} {xs : List α} (h : LstG cl m T w B v xs) : ∃ A c, v = .slice A xs.length c ∧ Reads w w.heap.size A (xs.flatMap cl) := by
  rcases LstG.row h with ⟨rfl, rfl⟩ | ⟨g, cap, rest, rfl, hB, hr, -⟩
  · exact ⟨none, 0, rfl, Reads.nil _ _ _⟩
  · refine ⟨_, _, rfl, fun k hk => ?_⟩
    obtain ⟨g2, o, e, h1, h2⟩ := hr.reads k (by rw [List.length_append]; omega)
    refine ⟨g2, o, e, h1, ?_⟩
    rw [h2, List.getElem_append_left hk]
theorem LstG.below {T : TypeId} {w w' : World} {B : Nat} {v : Value} {xs : List α} (h : LstG cl m T w B v xs) (hb : Below w.heap.size w w') : LstG cl m T w' B v xs := by
  refine ⟨h.1, ?_⟩
  rcases h.2 with h0 | ⟨g, cap, cur, rfl, hB, hg, r⟩
  · exact .inl h0
  · exact .inr ⟨g, cap, cur, rfl, hB, (hb.block g (Array.getElem?_eq_some_iff.1 hg).1).trans hg, r⟩
theorem LstG.mono {T : TypeId} {w : World} {B B' : Nat} {v : Value} {xs : List α} (h : LstG cl m T w B v xs) (hb : B' ≤ B) : LstG cl m T w B' v xs := World.ownsRow.mono h hb
theorem LstG.new (T : TypeId) (w : World) (B : Nat) (hB : B ≤ w.heap.size) : LstG cl m T (w.alloc (.cells #[] T)) B (.slice (some ⟨w.heap.size, 0, none⟩) 0 0) [] := World.ownsRow_made w #[] 0 hB (Nat.zero_le _) (by simp)
theorem LstG.below_of {T : TypeId} {w w' : World} {B : Nat} {v : Value} {xs : List α} (h : LstG cl m T w B v xs) (hB : B ≤ w.heap.size) (hg : w.grownBy w' v.ownBlock) : Below B w w' := (Below.refl B w).grown hg hB (fun k hk => (World.ownsRow.lt h k hk).1)
/-- What an append leaves of a list of the call's own. -/
theorem LstG.grown {T : TypeId} {w : World} {B : Nat} {v : Value} {xs : List α} {x : α} {cs : List Value} (hc : cs = cl x) (h : w.ownsRow B T m v (xs.length + 1) (xs.flatMap cl ++ cs)) :
    ∃ (g cap : Nat) (rest : List Value), v = .slice (some ⟨g, 0, none⟩) (xs.length + 1) cap ∧ B ≤ g ∧ g < w.heap.size ∧ Row w g T ((xs ++ [x]).flatMap cl ++ rest) ∧ xs.length + 1 ≤ cap ∧ cap ≤ maxLen ∧ (xs.length + 1) * m + rest.length = cap * m := by
  subst hc
  have h2 : LstG cl m T w B v (xs ++ [x]) := by simpa [LstG] using h
  rcases LstG.row h2 with ⟨-, e⟩ | ⟨g, cap, rest, e, hB, hr, h1, h3, h4⟩
  · simp at e
  · rw [List.length_append] at e h1 h4
    exact ⟨g, cap, rest, e, hB, hr.lt, hr, h1, h3, h4⟩
theorem flat_src (hm : ∀ a, (cl a).length = m) (xs : List α) (x : α) (rest : List Value) (k : Nat) (hk : k ≤ xs.length) {T : TypeId} {w : World} {g : Nat} (h : Row w g T ((xs ++ [x]).flatMap cl ++ rest)) : ∀ j u, ((xs.drop k).flatMap cl)[j]? = some u → w.cell? ((⟨g, k * m, none⟩ : Addr).add j) = some u := by
  intro j u hj
  obtain ⟨hl, -⟩ := List.getElem?_eq_some_iff.1 hj
  rw [← flat_drop hm xs k hk, List.getElem?_drop] at hj
  obtain ⟨hl2, -⟩ := List.getElem?_eq_some_iff.1 hj
  rw [add_plain, h.cell, List.flatMap_append, List.append_assoc, List.getElem?_append_left hl2]
  exact hj
end
end Go.Proofs.YtphebmbapllinaaDoor
