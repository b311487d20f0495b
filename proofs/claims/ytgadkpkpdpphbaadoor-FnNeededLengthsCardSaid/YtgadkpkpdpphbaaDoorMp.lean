/- A map that remembers an answer for figures: its look-up, its store, and clear. -/
import Derived.Maps.Own
import Derived.Maps.OwnOps
import Derived.WideKeyPair
import Derived.DeepKeys4
import Derived.OwnWalk
import Derived.Test.YtgadkpkpdpphbaaDoorGr
import Derived.Test.YtgadkpkpdpphbaaDoorBk
import Derived.Test.YtgadkpkpdpphbaaDoorMA
namespace Go.Proofs.YtgadkpkpdpphbaaDoor
open Go.RowKit Go.Maps
open Go.ChangeMaps (setBlock heap_setBlock_same heap_setBlock_other)
open Go.MapKept
open Go.WideElems (Fit)
set_option linter.unusedVariables false
set_option linter.unusedSimpArgs false

theorem nodup_bound : ∀ (N : Nat) (l : List Nat), l.Nodup → (∀ x ∈ l, x < N) → l.length ≤ N
  | 0, l, _, h => by
    cases l with
    | nil => simp
    | cons x r => exact absurd (h x (by simp)) (by omega)
  | N + 1, l, hn, h => by
    by_cases hm : N ∈ l
    · have h1 := nodup_bound N (l.erase N) (hn.erase N) (fun x hx => by
        obtain ⟨hne, hx'⟩ := (hn.mem_erase_iff).1 hx
        have := h x hx'
        omega)
      rw [List.length_erase_of_mem hm] at h1
      omega
    · have h1 := nodup_bound N l hn (fun x hx => by
        have := h x hx
        have : x ≠ N := fun e => hm (e ▸ hx)
        omega)
      omega

abbrev figV (d t : Int) : Value := .agg #[.int .i64 d, .int .i64 t]
abbrev endV (x : Int × Int) : Value := .agg #[.int .i64 x.1, .int .i64 x.2]
theorem figV_inj {a b c d : Int} (h : figV a b = figV c d) : a = c ∧ b = d := by
  simp [figV] at h
  exact h
def codeV (v : Value) : Nat :=
  match v with
  | .agg cs => (match (cs[0]? : Option Value), (cs[1]? : Option Value) with
    | some (Value.int _ d), some (Value.int _ t) => ((d - 1000) + 9000 * (t + 30)).toNat
    | _, _ => 0)
  | _ => 0
theorem codeV_fig (d t : Int) : codeV (figV d t) = ((d - 1000) + 9000 * (t + 30)).toNat := rfl

def fieldsTwo : TypeDesc → List (Bool × Nat × TypeId)
  | .struct fs => fs.toList.map fun f => (f.name != "_", f.offset, f.type)
  | _ => []
/-- What a struct of two integers reads as, as a key. -/
theorem keyOf_two {P : Program} {k e : TypeId} (hu : (P.underlying k).map fieldsTwo = some [(true, 0, e), (true, 1, e)]) (hc : P.cellsOf k = 2) (he : P.underlying e = some (.int .i64)) (h1 : P.cellsOf e = 1)
    (hkt : P.keyType k = true) (hsz : ∃ m, P.types.size = m + 1) {a b : Int} (wa : (Lit.int .i64 a).wf = true) (wb : (Lit.int .i64 b).wf = true) :
    keyOf P k (figV a b) = some (.string (keyBytes [.int .i64 a, .int .i64 b])) := by
  obtain ⟨m, hm⟩ := hsz
  cases hd : P.underlying k with
  | none => rw [hd] at hu; cases hu
  | some desc =>
    rw [hd] at hu
    cases desc <;> try (simp [fieldsTwo] at hu; done)
    rename_i fs
    obtain ⟨l⟩ := fs
    match l, hu with
    | [f, g], hu =>
      simp [fieldsTwo] at hu
      obtain ⟨⟨n1, o1, t1⟩, n2, o2, t2⟩ := hu
      unfold keyOf
      simp only [hd]
      rw [if_pos (by simp [hkt, Value.formed, hd, hc]), hm]
      unfold Program.keyLits
      simp only [hd, Value.cells]
      rw [if_pos (by simp [hc, n1, n2])]
      simp [o1, o2, t1, t2, h1, Program.keyLits, he, wa, wb, List.mapM_cons]
    | [], hu => simp [fieldsTwo] at hu
    | [f], hu => simp [fieldsTwo] at hu
    | f :: g :: x :: r, hu => simp [fieldsTwo] at hu

/-- (how an element reads does not matter here) -/
def R0 (_ : Value) : Option (DataW Unit × List MemPlace) := some (.nil, [])

section
variable {P : Program} {k e t : TypeId}

/-- Block b is a map in which figures have their answers. -/
def Memo (P : Program) (k : TypeId) (w : World) (b : Nat) (g : Int → Int → Int × Int) : Prop :=
  ∃ es clock, w.heap[b]? = some (.map es clock) ∧ Fit P k R0 es clock ∧ ∀ x ∈ es.toList, ∃ d t, fg d t = true ∧ x.key = figV d t ∧ x.val = endV (g d t)
theorem Memo.kept {w w' : World} {b : Nat} {g : Int → Int → Int × Int} (h : Memo P k w b g) (hk : w'.heap[b]? = w.heap[b]?) : Memo P k w' b g := by
  obtain ⟨es, clock, hb, r⟩ := h
  exact ⟨es, clock, by rw [hk]; exact hb, r⟩
theorem Memo.lt {w : World} {b : Nat} {g : Int → Int → Int × Int} (h : Memo P k w b g) : b < w.heap.size := by
  obtain ⟨es, clock, hb, r⟩ := h
  rcases Nat.lt_or_ge b w.heap.size with h1 | h1
  · exact h1
  · rw [Array.getElem?_eq_none h1] at hb; cases hb
theorem Memo.empty {w : World} {b clock : Nat} (hb : w.heap[b]? = some (.map #[] clock)) (g : Int → Int → Int × Int) : Memo P k w b g :=
  ⟨#[], clock, hb, ⟨by simp, stamped_empty clock, by simp⟩, by simp⟩
theorem Memo.made (w : World) (g : Int → Int → Int × Int) : Memo P k (w.alloc (.map #[] 0)) w.heap.size g := Memo.empty (heap_alloc_new w _) g
theorem Memo.size {es : Array MapEntry} {clock : Nat} {g : Int → Int → Int × Int} (F : Fit P k R0 es clock) (h : ∀ x ∈ es.toList, ∃ d t, fg d t = true ∧ x.key = figV d t ∧ x.val = endV (g d t)) : es.size < maxLen := by
  have hn : es.toList.Pairwise (fun x y => x.key ≠ y.key) := ((stamped_iff es clock).1 F.stamped).2.2
  have h1 := nodup_bound 549000 (es.toList.map (fun x => codeV x.key)) (by
    unfold List.Nodup
    rw [List.pairwise_map]
    refine List.Pairwise.imp_of_mem ?_ hn
    intro x y hx hy hne he
    obtain ⟨d, t, f1, e1, -⟩ := h x hx
    obtain ⟨d', t', f2, e2, -⟩ := h y hy
    rw [e1, e2, codeV_fig, codeV_fig] at he
    have b1 := (fg_iff _ _).1 f1
    have b2 := (fg_iff _ _).1 f2
    refine hne ?_
    rw [e1, e2, show d = d' by omega, show t = t' by omega]) (by
    intro c hc
    obtain ⟨x, hx, rfl⟩ := List.mem_map.1 hc
    obtain ⟨d, t, f1, e1, -⟩ := h x hx
    have b1 := (fg_iff _ _).1 f1
    rw [e1, codeV_fig]
    omega)
  simp only [List.length_map, Array.length_toList] at h1
  unfold maxLen
  omega

/-- 'v, ok := m[k]': either nothing is known of the figure, or its answer is. -/
theorem wpList_lookup_memo (w : World) {ops : Array Oper} {rest : List Oper} {o : Oper} {a : Act} {Q : Exit → Act → World → Prop}
    (hg : o.guard = none) (m x : Operand) (hop : o.op = Op.lookup t m x true) (K : Keyed P k) (ht : P.underlying t = some (.map k e)) (z : Value) (hz : (zeroValue e).run P w = .ok z w)
    (b : Nat) (g : Int → Int → Int × Int) (hm : a.eval m = .map (some b)) (hM : Memo P k w b g) (d u : Int) (hx : a.eval x = figV d u) (hkey : ∃ l, keyOf P k (figV d u) = some l)
    (h1 : wpList P ops Q rest (a.put o.dst (.tuple #[z, .bool false])) w) (h2 : wpList P ops Q rest (a.put o.dst (.tuple #[endV (g d u), .bool true])) w) :
    wpList P ops Q (o :: rest) a w := by
  refine wpList_plain hg fun K' hK' => ?_
  obtain ⟨es, clock, hb, F, hall⟩ := hM
  obtain ⟨l, hl⟩ := hkey
  unfold Oper.wp
  rcases fit_look true K ht hz hb F hl with ⟨hr, -⟩ | ⟨e0, y, he0, hk0, hr, -⟩
  · simp only [if_true] at hr
    simp [execOp, hop, hm, hx, hr, Result.andThen]
    exact hK' _ _ h1
  · obtain ⟨d', u', -, e1, e2⟩ := hall e0 he0
    obtain ⟨rfl, rfl⟩ := figV_inj (hk0.symm.trans e1)
    rw [e2] at hr
    simp only [if_true] at hr
    simp [execOp, hop, hm, hx, hr, Result.andThen]
    exact hK' _ _ h2
/-- 'm[k] = v'. -/
theorem wpList_store_memo (w : World) {ops : Array Oper} {rest : List Oper} {o : Oper} {a : Act} {Q : Exit → Act → World → Prop}
    (hg : o.guard = none) (m x v : Operand) (hop : o.op = Op.mapUpdate t m x v) (K : Keyed P k) (ht : P.underlying t = some (.map k e))
    (b : Nat) (g : Int → Int → Int × Int) (hm : a.eval m = .map (some b)) (hM : Memo P k w b g) (d u : Int) (hf : fg d u = true) (hx : a.eval x = figV d u) (hv : a.eval v = endV (g d u)) (hkey : ∃ l, keyOf P k (figV d u) = some l)
    (h : ∀ w', Memo P k w' b g → w.grownBy w' (some b) → w'.heap.size = w.heap.size → wpList P ops Q rest (a.put o.dst undef) w') :
    wpList P ops Q (o :: rest) a w := by
  refine wpList_plain hg fun K' hK' => ?_
  obtain ⟨es, clock, hb, F, hall⟩ := hM
  obtain ⟨l, hl⟩ := hkey
  have hroom := Memo.size F hall
  obtain ⟨es', clock', hr, F', -, -, -, who⟩ := fit_store (R' := R0) K ht hb F hroom (val := endV (g d u)) (yv := (.nil, [])) (fun x _ _ z hz => hz) hl rfl
  unfold Oper.wp
  simp [execOp, hop, hm, hx, hv, hr, Result.andThen]
  refine hK' _ _ (h _ ⟨es', clock', heap_setBlock_same hb _, F', fun x hx => ?_⟩ ⟨rfl, rfl, rfl, by simp [setBlock], fun j _ hj => heap_setBlock_other hb _ (fun e => hj (by rw [e]))⟩ (by simp [setBlock]))
  rcases who x hx with ⟨hx', -⟩ | ⟨e1, e2⟩
  · exact hall x hx'
  · exact ⟨d, u, hf, e1, e2⟩
end
/-- Block b is just this map. -/
def MapAt (w : World) (b : Nat) (es : Array MapEntry) (c : Nat) : Prop := w.heap[b]? = some (.map es c)
theorem MapAt.lt {w : World} {b c : Nat} {es : Array MapEntry} (h : MapAt w b es c) : b < w.heap.size := by
  rcases Nat.lt_or_ge b w.heap.size with h1 | h1
  · exact h1
  · unfold MapAt at h; rw [Array.getElem?_eq_none h1] at h; cases h
theorem mapAt_alloc {w : World} {b c : Nat} {es : Array MapEntry} (o : Obj) (h : MapAt w b es c) : MapAt (w.alloc o) b es c := (Below.heap_alloc w o b h.lt).trans h
@[go_sem] theorem mapAt_cells (w : World) (b c : Nat) (es : Array MapEntry) (cs : Array Value) (t : TypeId) (f : Nat × Nat) : MapAt (w.alloc (.cells cs t f)) b es c = MapAt w b es c := by
  unfold MapAt
  show ((w.heap.push _)[b]? = _) = _
  rw [Array.getElem?_push]
  by_cases h : b = w.heap.size
  · subst h
    rw [if_pos rfl, Array.getElem?_eq_none (Nat.le_refl _)]
    simp
  · rw [if_neg h]
@[go_sem] theorem mapAt_drew (w : World) (b c : Nat) (es : Array MapEntry) : MapAt w.drew b es c = MapAt w b es c := (rfl)
@[go_sem] theorem mapAt_drewN (w : World) (b c n : Nat) (es : Array MapEntry) : MapAt (w.drewN n) b es c = MapAt w b es c := (rfl)
@[go_sem] theorem mapAt_gr {w : World} {b c : Nat} {es : Array MapEntry} (k : Nat) (os : Array Obj) (h : MapAt w b es c) : MapAt (gr w k os) b es c := (gr_old w k os h.lt).trans h
@[go_sem] theorem mapAt_setCell (w : World) (b c : Nat) (es : Array MapEntry) (a : Addr) (v : Value) : MapAt (w.setCell a v) b es c = MapAt w b es c := by
  unfold MapAt
  simp only [World.setCell, Array.getElem?_modify]
  split
  · rename_i hb
    cases h : w.heap[b]? with
    | none => rfl
    | some o => cases o <;> simp
  · rfl
theorem MapAt.ne {w : World} {b c : Nat} {es : Array MapEntry} (h : MapAt w b es c) {a : Addr} {v : Value} (ha : w.cell? a = some v) : a.block ≠ b := by
  rintro rfl
  unfold MapAt at h
  unfold World.cell? at ha
  rw [h] at ha
  cases ha
/-- The map in block b (which was es) becomes es'. -/
def turnMap (w : World) (b : Nat) (es : Array MapEntry) (c : Nat) (es' : Array MapEntry) (c' : Nat) : World := setBlock w b (.map es' c')
theorem turn_at {w : World} {b c : Nat} {es : Array MapEntry} (h : MapAt w b es c) (es' : Array MapEntry) (c' : Nat) : MapAt (turnMap w b es c es' c') b es' c' := heap_setBlock_same h _
@[go_sem] theorem turn_cell {w : World} {b c : Nat} {es : Array MapEntry} (es' : Array MapEntry) (c' : Nat) (a : Addr) (h : MapAt w b es c) : (turnMap w b es c es' c').cell? a = w.cell? a := by
  by_cases hb : a.block = b
  · have h1 : w.cell? a = none := by unfold World.cell?; rw [hb, show w.heap[b]? = _ from h]
    have h2 : (turnMap w b es c es' c').cell? a = none := by unfold World.cell?; rw [hb, show (turnMap w b es c es' c').heap[b]? = _ from turn_at h es' c']
    rw [h1, h2]
  · exact World.cell?_of_block (heap_setBlock_other h _ hb)
@[go_sem] theorem turn_frozen {w : World} {b c : Nat} {es : Array MapEntry} (es' : Array MapEntry) (c' : Nat) (a : Addr) (h : MapAt w b es c) : (turnMap w b es c es' c').frozen? a = w.frozen? a := by
  by_cases hb : a.block = b
  · have h1 : w.frozen? a = false := by unfold World.frozen?; rw [hb, show w.heap[b]? = _ from h]
    have h2 : (turnMap w b es c es' c').frozen? a = false := by unfold World.frozen?; rw [hb, show (turnMap w b es c es' c').heap[b]? = _ from turn_at h es' c']
    rw [h1, h2]
  · exact World.frozen?_of_block (heap_setBlock_other h _ hb)
@[go_sem] theorem turn_size (w : World) (b c : Nat) (es es' : Array MapEntry) (c' : Nat) : (turnMap w b es c es' c').heap.size = w.heap.size := by simp [turnMap, setBlock]

/-- The world has grown, and only the map in block b may have turned. -/
abbrev Gb (b : Nat) (w w' : World) : Prop := w.grownBy w' (some b)
theorem Gb.refl (b : Nat) (w : World) : Gb b w w := ⟨rfl, rfl, rfl, Nat.le_refl _, fun _ _ _ => rfl⟩
theorem Gb.trans {b : Nat} {u v w : World} (h : Gb b u v) (h' : Gb b v w) : Gb b u w :=
  ⟨h'.os.trans h.os, h'.tape.trans h.tape, h'.output.trans h.output, Nat.le_trans h.size h'.size, fun k hk hb => (h'.block k (Nat.lt_of_lt_of_le hk h.size) hb).trans (h.block k hk hb)⟩
theorem Gb.of {b : Nat} {w v : World} (h : Gr w v) : Gb b w v := by
  have hb := h.below
  exact ⟨hb.os, hb.tape, hb.output, hb.size, fun k hk _ => hb.block k hk⟩
theorem Gb.alloc {b : Nat} {w v : World} (h : Gb b w v) (o : Obj) : Gb b w (v.alloc o) := h.trans (Gb.of ((Gr.refl v).alloc o))
theorem Gb.gr {b : Nat} {w v : World} (h : Gb b w v) (k : Nat) (os : Array Obj) : Gb b w (Proofs.YtgadkpkpdpphbaaDoor.gr v k os) := h.trans (Gb.of ⟨k, os, rfl⟩)
theorem Gb.drew {b : Nat} {w v : World} (h : Gb b w v) : Gb b w v.drew := h.trans (Gb.of ((Gr.refl v).drew))
theorem Gb.drewN {b : Nat} {w v : World} (h : Gb b w v) (n : Nat) : Gb b w (v.drewN n) := h.trans (Gb.of ((Gr.refl v).drewN n))
theorem Gb.set {b : Nat} {w v : World} (h : Gb b w v) (a : Addr) (x : Value) (ha : w.heap.size ≤ a.block) : Gb b w (v.setCell a x) :=
  ⟨h.os, h.tape, h.output, by simpa [World.setCell] using h.size, fun k hk hb => (Below.heap_setCell v a x k (by omega)).trans (h.block k hk hb)⟩
theorem Gb.turn {b : Nat} {w v : World} (h : Gb b w v) {c : Nat} {es : Array MapEntry} (hm : MapAt v b es c) (es' : Array MapEntry) (c' : Nat) : Gb b w (turnMap v b es c es' c') :=
  h.trans ⟨rfl, rfl, rfl, by rw [turn_size]; exact Nat.le_refl _, fun k hk hb => heap_setBlock_other hm _ (fun e => hb (by rw [e]))⟩
theorem Gb.below {b : Nat} {w v : World} (h : Gb b w v) {B : Nat} (hB : B ≤ b) (hw : B ≤ w.heap.size) : Below B w v := ⟨h.os, h.tape, h.output, h.size, fun k hk => h.block k (by omega) (fun e => by cases e; omega)⟩

section
variable {P : Program} {k e t : TypeId}
/-- A look-up finds the same in every world that has this map. -/
theorem look_memo (K : Keyed P k) (ht : P.underlying t = some (.map k e)) {z : Value} (hz : ∀ w, (zeroValue e).run P w = .ok z w) {es : Array MapEntry} {c : Nat} (F : Fit P k R0 es c) (g : Int → Int → Int × Int)
    (hall : ∀ x ∈ es.toList, ∃ d t, fg d t = true ∧ x.key = figV d t ∧ x.val = endV (g d t)) (b : Nat) (d u : Int) {l : Lit} (hl : keyOf P k (figV d u) = some l) :
    ((∀ x ∈ es.toList, x.key ≠ figV d u) ∧ ∀ w, MapAt w b es c → (Instr.lookup t (.map (some b)) (figV d u) true).run P w = .ok (.tuple #[z, .bool false]) w) ∨
    (∀ w, MapAt w b es c → (Instr.lookup t (.map (some b)) (figV d u) true).run P w = .ok (.tuple #[endV (g d u), .bool true]) w) := by
  by_cases hx : ∃ x ∈ es.toList, x.key = figV d u
  · right
    intro w hb
    rcases fit_look true K ht (hz w) hb F hl with ⟨-, hno, -⟩ | ⟨e0, y, he0, hk0, hr, -⟩
    · obtain ⟨x, hx1, hx2⟩ := hx
      exact absurd hx2 (hno x hx1)
    · obtain ⟨d', u', -, e1, e2⟩ := hall e0 he0
      obtain ⟨rfl, rfl⟩ := figV_inj (hk0.symm.trans e1)
      rw [e2] at hr
      simpa using hr
  · left
    have hno : ∀ x ∈ es.toList, x.key ≠ figV d u := fun x h1 h2 => hx ⟨x, h1, h2⟩
    refine ⟨hno, fun w hb => ?_⟩
    rcases fit_look true K ht (hz w) hb F hl with ⟨hr, -, -⟩ | ⟨e0, y, he0, hk0, -⟩
    · simpa using hr
    · exact absurd hk0 (hno e0 he0)
/-- A new answer is stored the same way in every world that has this map. -/
theorem store_memo (K : Keyed P k) (ht : P.underlying t = some (.map k e)) {es : Array MapEntry} {c : Nat} (F : Fit P k R0 es c) (g : Int → Int → Int × Int)
    (hall : ∀ x ∈ es.toList, ∃ d t, fg d t = true ∧ x.key = figV d t ∧ x.val = endV (g d t)) (b : Nat) (d u : Int) (hf : fg d u = true) {l : Lit} (hl : keyOf P k (figV d u) = some l) (hno : ∀ x ∈ es.toList, x.key ≠ figV d u) :
    ∃ es' c', (∀ w, MapAt w b es c → (Instr.mapUpdate t (.map (some b)) (figV d u) (endV (g d u))).run P w = .ok () (turnMap w b es c es' c')) ∧ Fit P k R0 es' c' ∧ ∀ x ∈ es'.toList, ∃ d t, fg d t = true ∧ x.key = figV d t ∧ x.val = endV (g d t) := by
  have hroom := Memo.size F hall
  refine ⟨es.push ⟨figV d u, endV (g d u), c⟩, c + 1, fun w hb => ?_, ⟨by simp; omega, stamped_push F.stamped hno, ?_⟩, ?_⟩
  · rcases K.find w hl es.toList F.keys with ⟨h1, -⟩ | ⟨j, e0, -, h2, h3⟩
    · have hb' : w.heap[b]? = some (.map es c) := hb
      simp [Instr.mapUpdate, run_underlying ht, MapKept.run_getObj_map hb', K.check w false hl, h1, MapKept.run_setObj_map _ hb', Result.andThen, turnMap, setBlock]
    · exact absurd h3 (hno e0 (List.mem_of_getElem? h2))
  · intro x hx
    simp only [Array.toList_push, List.mem_append, List.mem_singleton] at hx
    rcases hx with hx | rfl
    · exact F.reads x hx
    · exact ⟨_, Go.WideElems.rd_mk hl rfl⟩
  · intro x hx
    simp only [Array.toList_push, List.mem_append, List.mem_singleton] at hx
    rcases hx with hx | rfl
    · exact hall x hx
    · exact ⟨d, u, hf, rfl, rfl⟩
end

/-- Two blocks of two cells that have just been made. -/
theorem two_new (w : World) (T U : TypeId) (a b c d : Value) :
    ((w.alloc (.cells #[a, b] T)).alloc (.cells #[c, d] U)).heap.size = w.heap.size + 2 ∧
    Blk ((w.alloc (.cells #[a, b] T)).alloc (.cells #[c, d] U)) w.heap.size T #[a, b] ∧ Blk ((w.alloc (.cells #[a, b] T)).alloc (.cells #[c, d] U)) (w.heap.size + 1) U #[c, d] ∧
    Gr w ((w.alloc (.cells #[a, b] T)).alloc (.cells #[c, d] U)) := by
  refine ⟨by simp, (Blk.new w T _).alloc _, ?_, ((Gr.refl w).alloc _).alloc _⟩
  have := Blk.new (w.alloc (.cells #[a, b] T)) U #[c, d]
  simpa using this

/-- All that was in u is in v as it was. -/
abbrev Bl (u v : World) : Prop := Below u.heap.size u v
theorem Bl.refl (u : World) : Bl u u := Below.refl _ _
theorem Bl.trans {u v w : World} (h : Bl u v) (h' : Bl v w) : Bl u w := Below.trans h (h'.mono h.size)
theorem Bl.alloc {u v : World} (h : Bl u v) (o : Obj) : Bl u (v.alloc o) := Below.alloc h h.size o
theorem Bl.gr {u v : World} (h : Bl u v) (k : Nat) (os : Array Obj) : Bl u (Proofs.YtgadkpkpdpphbaaDoor.gr v k os) := h.trans (Gr.below ⟨k, os, rfl⟩)
theorem Bl.drew {u v : World} (h : Bl u v) : Bl u v.drew := Below.drew h
theorem Bl.set {u v : World} (h : Bl u v) (a : Addr) (x : Value) (ha : u.heap.size ≤ a.block) : Bl u (v.setCell a x) := Below.setCell h ha x
theorem keepB {u v : World} (h : Bl u v) {n i : Nat} {x : Option Value} (l : n < u.heap.size) (hc : u.cell? ⟨n, i, none⟩ = x) : v.cell? ⟨n, i, none⟩ = x := (Below.cell h (p := ⟨n, i, none⟩) l).trans hc

/-- What a block holds when another block has been written, one made and the map turned: in either order of a drawing region. -/
theorem turn_read {u : World} {mb c : Nat} {es : Array MapEntry} (hm : MapAt u mb es c) (es' : Array MapEntry) (c' : Nat) {b n i : Nat} (hne : ¬ b = n) (hb : b < u.heap.size) {x : Option Value} (hx : u.cell? ⟨b, i, none⟩ = x) :
    (∀ P1 P2 cs ty k os, (turnMap (gr (((u.setCell ⟨n, 0, none⟩ P1).setCell ⟨n, 1, none⟩ P2).alloc (.cells cs ty)) k os) mb es c es' c').cell? ⟨b, i, none⟩ = x) ∧
    (∀ P1 P2 cs ty k os, (turnMap ((gr ((u.setCell ⟨n, 0, none⟩ P1).setCell ⟨n, 1, none⟩ P2) k os).alloc (.cells cs ty)).drew mb es c es' c').cell? ⟨b, i, none⟩ = x) := by
  have sz : ∀ (a : Addr) (v : Value) (w : World), (w.setCell a v).heap.size = w.heap.size := fun a v w => by simp [World.setCell]
  have h2 : ∀ P1 P2, ((u.setCell ⟨n, 0, none⟩ P1).setCell ⟨n, 1, none⟩ P2).heap[b]? = u.heap[b]? := fun P1 P2 => (Below.heap_setCell _ _ _ _ hne).trans (Below.heap_setCell _ _ _ _ hne)
  constructor
  · intro P1 P2 cs ty k os
    have ma : MapAt (((u.setCell ⟨n, 0, none⟩ P1).setCell ⟨n, 1, none⟩ P2).alloc (.cells cs ty)) mb es c := by simp only [mapAt_setCell, mapAt_cells]; exact hm
    rw [turn_cell es' c' _ (mapAt_gr k os ma), gr_cell _ _ _ _ _ (by rw [World.size_alloc, sz, sz]; omega), ← hx]
    exact World.cell?_of_block ((Below.heap_alloc _ _ _ (by rw [sz, sz]; exact hb)).trans (h2 P1 P2))
  · intro P1 P2 cs ty k os
    have ma : MapAt ((u.setCell ⟨n, 0, none⟩ P1).setCell ⟨n, 1, none⟩ P2) mb es c := by simp only [mapAt_setCell]; exact hm
    rw [turn_cell es' c' _ (by rw [mapAt_drew, mapAt_cells]; exact mapAt_gr k os ma), ← hx]
    refine World.cell?_of_block ((Below.heap_alloc _ _ _ ?_).trans ((gr_old _ k os ?_).trans (h2 P1 P2)))
    · rw [gr_size, sz, sz]; simp only; omega
    · rw [sz, sz]; exact hb
end Go.Proofs.YtgadkpkpdpphbaaDoor
