/- Draws in a region that draws its order: one walk of the order of the text (XLz), the words for it. -/
import Derived.Test.YtdbeedfapkfibaaGreatDoorLz
import Derived.Test.YtdbeedfapkfibaaGreatDoorDA
import Derived.Deep.QuietTactic
namespace Go.Proofs.YtdbeedfapkfibaaGreatDoor
open Go.RowKit
set_option linter.unusedVariables false
set_option linter.unusedSimpArgs false

attribute [go_sem] looseUpon
def oneUpon (u : Value) (w : World) : Result Next → Prop
  | .ok (.value v) w' => v = u ∧ w' = w
  | _ => False
attribute [go_sem] oneUpon
theorem oneUpon_eq {u : Value} {w : World} : ∀ {r : Result Next}, oneUpon u w r → r = .ok (.value u) w
  | .ok (.value v) w', ⟨h1, h2⟩ => by rw [h1, h2]
  | .ok (.enter _ _) _, h => h.elim
  | .ok .skip _, h => h.elim
  | .ok (.defer _) _, h => h.elim
  | .halt _ _, h => h.elim

section
variable {P : Program} {ops : Array Oper} {md : Region.Mode} {C : World → Prop} {R : Nat → World → World → Prop} {Fs : Nat → Option Tale} {Q : Known → Act → Prop}
/-- An operation of one value. -/
theorem lz_one {k : Nat} {o : Oper} {rest : List Oper} {Γ : Known} {a : Act} (hF : Fs k = none)
    (h : ∀ K : Known → Act → Prop, (∀ Γ a, wpLoose P ops md C R Fs Q (k + 1) rest Γ a → K Γ a) → Region.wanted o (yielded ops a.tmps) = true ∧ ∃ u, (∀ w, C w → oneUpon u w ((execOp a.eval o).run P w)) ∧ K (upd Γ k fun _ => True) (a.put o.dst u)) :
    wpLoose P ops md C R Fs Q k (o :: rest) Γ a := by
  obtain ⟨hw, u, h1, h2⟩ := h _ (fun _ _ h => h)
  have h1' : ∀ w, C w → (execOp a.eval o).run P w = .ok (.value u) w := fun w hc => oneUpon_eq (h1 w hc)
  refine ⟨hw, ?_, fun v hv => ?_⟩
  · unfold stepAt; rw [hF]; exact ⟨u, fun w hc _ => h1' w hc⟩
  · obtain ⟨e1, w, c1, c2, c3⟩ := hv
    have e2 := e1 hF w c1 (fun e _ _ => c2 e.on)
    rw [h1' w c1] at e2
    injection e2 with e3 e4
    injection e3 with e5
    subst e5
    have e6 : factOf ops Fs k o a u = fun _ => True := by funext w; unfold factOf; rw [hF]
    rw [e6]
    exact h2
/-- An operation of many values. -/
theorem lz_many (F : Tale) {k : Nat} {o : Oper} {rest : List Oper} {Γ : Known} {a : Act} (hF : Fs k = some F)
    (h : ∀ K : Known → Act → Prop, (∀ Γ a, wpLoose P ops md C R Fs Q (k + 1) rest Γ a → K Γ a) → Region.wanted o (yielded ops a.tmps) = true ∧
      (∀ w, C w → (∀ e ∈ o.after, Region.binds md e = true → Γ e.on w) → looseUpon P (fun v w' => C w' ∧ R k w w' ∧ F (seenBy ops o a) v w') ((execOp a.eval o).run P w)) ∧
      ∀ v w, C w → F (seenBy ops o a) v w → K (upd Γ k (F (seenBy ops o a) v)) (a.put o.dst v)) :
    wpLoose P ops md C R Fs Q k (o :: rest) Γ a := by
  obtain ⟨hw, h1, h2⟩ := h _ (fun _ _ h => h)
  refine ⟨hw, ?_, fun v hv' => ?_⟩
  · unfold stepAt; rw [hF]
    exact h1
  · obtain ⟨-, w, c1, c2, c3⟩ := hv'
    have e6 : factOf ops Fs k o a v = F (seenBy ops o a) v := by funext w; unfold factOf; rw [hF]
    rw [e6] at c3 ⊢
    exact h2 v w c1 c3
theorem lz_nil {k : Nat} {Γ : Known} {a : Act} (h : Q Γ a) : wpLoose P ops md C R Fs Q k [] Γ a := h
end

/-- What is told of an operation: its value, a list of numbers in a block of its own, a struct that it wrote into block r. -/
inductive Tk where
  | pure (p : Value → Prop)
  | row (k : Nat) (p : Int → Prop)
  | blk (r : Nat) (T : TypeId)
/-- The operations that write a result: the operation, the block, its type, how many cells. -/
abbrev Wr := Nat × Nat × TypeId × Nat
def Tk.tale (b : Nat) (S : List Wr) : Tk → Tale
  | .pure p => fun _ v _ => p v
  | .row k p => fun _ v w => ∃ g, v = .slice (some ⟨g, 0, none⟩) k k ∧ g ≠ b ∧ (∀ q ∈ S, q.2.1 ≠ g) ∧ AllP p w g k
  | .blk r T => fun vs _ w => ∃ cs, vs.getD 1 undef = .agg cs ∧ Blk w r T cs
def fsOf (b : Nat) (S : List Wr) (L : List (Nat × Tk)) : Nat → Option Tale := fun i => (L.lookup i).map (Tk.tale b S)
theorem lookup_mem {α : Type} {L : List (Nat × α)} {i : Nat} {F : α} (h : L.lookup i = some F) : (i, F) ∈ L := by
  induction L with
  | nil => simp at h
  | cons p l ih =>
    obtain ⟨j, G⟩ := p
    rw [List.lookup_cons] at h
    split at h
    · rename_i e
      injection h with h
      have : i = j := by simpa using e
      subst this; subst h; simp
    · exact List.mem_cons_of_mem _ (ih h)

/-- Nothing but block r has changed. -/
structure OnlyAt (r : Nat) (w w' : World) : Prop where
  os : w'.os = w.os
  tape : w'.tape = w.tape
  output : w'.output = w.output
  size : w'.heap.size = w.heap.size
  block : ∀ k, k ≠ r → w'.heap[k]? = w.heap[k]?
theorem OnlyAt.refl (r : Nat) (w : World) : OnlyAt r w w := ⟨rfl, rfl, rfl, rfl, fun _ _ => rfl⟩
theorem OnlyAt.set {r : Nat} {w w' : World} (h : OnlyAt r w w') (i : Nat) (x : Value) : OnlyAt r w (w'.setCell ⟨r, i, none⟩ x) :=
  ⟨h.os, h.tape, h.output, by have := h.size; simpa using this, fun k hk => (heap_setCell_other w' ⟨r, i, none⟩ k x hk).trans (h.block k hk)⟩
/-- What an operation does to the world: it writes its result, or it draws and makes blocks. -/
def rOf (b : Nat) (S : List Wr) (j : Nat) (w w' : World) : Prop := match S.lookup j with
  | some q => OnlyAt q.1 w w'
  | none => Dr b w w'

/-- The worlds of a region that draws from the source b, its bytes below N, and writes results. -/
structure DrC (N : Nat) (A : Option Addr) (n c b : Nat) (S : List Wr) (w w' : World) : Prop where
  src : Src A n c b w'
  bytes : Bytes w' N A n
  os : w'.os = w.os
  tape : w'.tape = w.tape
  output : w'.output = w.output
  size : w.heap.size ≤ w'.heap.size
  block : ∀ k, k < w.heap.size → k ≠ b → (∀ q ∈ S, q.2.1 ≠ k) → w'.heap[k]? = w.heap[k]?
  res : ∀ q ∈ S, ∃ cs : Array Value, cs.size = q.2.2.2 ∧ Blk w' q.2.1 q.2.2.1 cs
theorem DrC.dr {N : Nat} {A : Option Addr} {n c b : Nat} {S : List Wr} {w wz w' : World} (h : DrC N A n c b S w wz) (hN : N ≤ b) (hb : ∀ q ∈ S, q.2.1 ≠ b) (hs : Src A n c b w') (hd : Dr b wz w') : DrC N A n c b S w w' :=
  ⟨hs, h.bytes.keep fun k hk => hd.block k (by have := h.src.lt; omega) (by omega), hd.os.trans h.os, hd.tape.trans h.tape, hd.output.trans h.output, Nat.le_trans h.size hd.size,
    fun k hk h1 h2 => (hd.block k (Nat.lt_of_lt_of_le hk h.size) h1).trans (h.block k hk h1 h2), fun q hq => let ⟨cs, h1, h2⟩ := h.res q hq; ⟨cs, h1, h2.dr hd (hb q hq)⟩⟩
theorem DrC.below {N : Nat} {A : Option Addr} {n c b : Nat} {S : List Wr} {w w' : World} (h : DrC N A n c b S w w') {B : Nat} (h1 : B ≤ b) (h2 : B ≤ w.heap.size) (h3 : ∀ q ∈ S, B ≤ q.2.1) : Below B w w' :=
  ⟨h.os, h.tape, h.output, h.size, fun k hk => h.block k (by omega) (by omega) (fun q hq e => by have := h3 q hq; omega)⟩
theorem DrC.keeps {N : Nat} {A : Option Addr} {n c b : Nat} {S : List Wr} {w w' : World} (h : DrC N A n c b S w w') {g : Nat} {t : TypeId} {cs : Array Value} (hb : Blk w g t cs) (h1 : g ≠ b) (h2 : ∀ q ∈ S, q.2.1 ≠ g) : Blk w' g t cs := (h.block g hb.lt h1 h2).trans hb
theorem src_aside {A : Option Addr} {n c b N r : Nat} {w w' : World} (h : Src A n c b w) (hB : Bytes w N A n) (hN : N ≤ b) (hr : N ≤ r) (hb : r ≠ b) (ho : OnlyAt r w w') : Src A n c b w' := by
  obtain ⟨p, s, h1, h2, h3, h4, -⟩ := h
  have hB' := hB.keep (w' := w') fun k hk => ho.block k (by omega)
  refine ⟨p, s, h1, h2, h3, (ho.block b (Ne.symm hb)).trans h4, fun k hk => ?_⟩
  obtain ⟨g, o, x, e1, e2, e3, e4⟩ := hB' k hk
  exact ⟨g, o, x, e1, by omega, e3, e4⟩
theorem DrC.aside {N : Nat} {A : Option Addr} {n c b : Nat} {S : List Wr} {w wz w' : World} (h : DrC N A n c b S w wz) (hN : N ≤ b) {q : Wr} (hq : q ∈ S) (hr : N ≤ q.2.1) (hqb : q.2.1 ≠ b) (ho : OnlyAt q.2.1 wz w') (hw : w.heap.size ≤ w.heap.size)
    {cs : Array Value} (hc : cs.size = q.2.2.2) (hB : Blk w' q.2.1 q.2.2.1 cs) (hne : ∀ q' ∈ S, q'.2.1 = q.2.1 → q'.2.2 = q.2.2) : DrC N A n c b S w w' :=
  ⟨src_aside h.src h.bytes hN hr hqb ho, h.bytes.keep fun k hk => ho.block k (by omega), ho.os.trans h.os, ho.tape.trans h.tape, ho.output.trans h.output, by rw [ho.size]; exact h.size,
    fun k hk h1 h2 => (ho.block k (fun e => h2 q hq e.symm)).trans (h.block k hk h1 h2), fun q' hq' => by
      by_cases he : q'.2.1 = q.2.1
      · rw [hne q' hq' he, he]; exact ⟨cs, hc, hB⟩
      · obtain ⟨ds, e1, e2⟩ := h.res q' hq'
        exact ⟨ds, e1, (ho.block _ he).trans e2⟩⟩

/-- The tales stay. -/
theorem steadies_of {C : World → Prop} {b : Nat} {S : List Wr} {L : List (Nat × Tk)} (hL : ∀ p ∈ L, ∀ r T, p.2 = .blk r T → r ≠ b ∧ ∀ q ∈ S, q.1 ≠ p.1 → q.2.1 ≠ r) : Steadies C (rOf b S) (fsOf b S L) := by
  intro i F hF j hji vs v w w' _ hr hf
  unfold fsOf at hF
  cases hl : L.lookup i with
  | none => rw [hl] at hF; simp at hF
  | some k =>
    rw [hl] at hF
    simp only [Option.map_some, Option.some.injEq] at hF
    subst hF
    have hm := lookup_mem hl
    unfold rOf at hr
    cases k with
    | pure p => exact hf
    | row k p =>
      obtain ⟨g, h1, h2, h3, h4⟩ := hf
      refine ⟨g, h1, h2, h3, fun t ht => ?_⟩
      obtain ⟨x, hx, hc⟩ := h4 t ht
      refine ⟨x, hx, ?_⟩
      split at hr
      · rename_i q hq
        rw [← hc]; exact World.cell?_of_block (hr.block g (fun e => h3 _ (lookup_mem hq) e.symm))
      · exact hr.cell (a := ⟨g, t, none⟩) hc h2
    | blk r T =>
      obtain ⟨cs, h1, h2⟩ := hf
      refine ⟨cs, h1, ?_⟩
      obtain ⟨e1, e2⟩ := hL _ hm r T rfl
      split at hr
      · rename_i q hq
        exact (hr.block r (fun e => e2 _ (lookup_mem hq) (by simpa using hji) e.symm)).trans h2
      · exact h2.dr hr e1

theorem region_draws {N : Nat} {A : Option Addr} {n c b : Nat} {id : Nat} {Q : Exit → Act → World → Prop} {a : Act} {w : World} {l : List Oper} (S : List Wr) (L : List (Nat × Tk)) (hS : Src A n c b w) (hB : Bytes w N A n)
    (hres : ∀ q ∈ S, ∃ cs : Array Value, cs.size = q.2.2.2 ∧ Blk w q.2.1 q.2.2.1 cs) (hL : ∀ p ∈ L, ∀ r T, p.2 = .blk r T → r ≠ b ∧ ∀ q ∈ S, q.1 ≠ p.1 → q.2.1 ≠ r)
    (hm : Tryz.prog.follows .mixedOrders = true) (hlex : Region.lexB .any l.toArray = true)
    (H : wpLoose Tryz.prog l.toArray .any (DrC N A n c b S w) (rOf b S) (fsOf b S L) (fun Γ a' => ∀ w', DrC N A n c b S w w' → (∀ k, Γ k w') → Q .normal a' w') 0 l noneKnown a) : (Code.region id l.toArray true).wp Tryz.prog Q a w :=
  wp_region_loose (fsOf b S L) hm hlex ⟨hS.drew, hB, rfl, rfl, rfl, Nat.le_refl _, fun _ _ _ _ => rfl, hres⟩ (steadies_of hL) H

/- What calls that draw, lists that are laid, results that are written are asked. -/
section
variable {N : Nat} {A : Option Addr} {n c b : Nat} {S : List Wr} {w wz : World} {k : Nat} {vs : List Value}
theorem lz_got {f : FuncId} {args : Array Value} {p : Int → Prop} (hN : N ≤ b) (hb : ∀ q ∈ S, q.2.1 ≠ b) (hk : S.lookup k = none) (hz : DrC N A n c b S w wz) (h : Calls Tryz.prog f args wz (Got p A n c b wz)) :
    Calls Tryz.prog f args wz fun e w'' => ∃ v, e = .returned v ∧ DrC N A n c b S w w'' ∧ rOf b S k wz w'' ∧ Tk.tale b S (.pure fun v => ∃ x, v = .int .i64 x ∧ p x) vs v w'' :=
  h.mono fun e w' ⟨x, he, hp, hs, hd⟩ => ⟨_, he, hz.dr hN hb hs hd, by unfold rOf; rw [hk]; exact hd, x, rfl, hp⟩
theorem lz_next {f : FuncId} {args : Array Value} {m : Int} (hm : 1 < m) (hN : N ≤ b) (hb : ∀ q ∈ S, q.2.1 ≠ b) (hk : S.lookup k = none) (hz : DrC N A n c b S w wz) (h : Calls Tryz.prog f args wz (Drawn A n c b m wz)) :
    Calls Tryz.prog f args wz fun e w'' => ∃ v, e = .returned v ∧ DrC N A n c b S w w'' ∧ rOf b S k wz w'' ∧ Tk.tale b S (.pure fun v => ∃ x, v = .int .i64 x ∧ (0 ≤ x ∧ x < m)) vs v w'' :=
  h.mono fun e w' ⟨x, he, h0, h1, _, hs, hd⟩ => ⟨_, he, hz.dr hN hb hs hd, by unfold rOf; rw [hk]; exact hd, x, rfl, h0, h1 hm⟩
theorem lz_gotF {f : FuncId} {args : Array Value} {p : Int → Int → Prop} (hN : N ≤ b) (hb : ∀ q ∈ S, q.2.1 ≠ b) (hk : S.lookup k = none) (hz : DrC N A n c b S w wz) (h : Calls Tryz.prog f args wz (GotF p A n c b wz)) :
    Calls Tryz.prog f args wz fun e w'' => ∃ v, e = .returned v ∧ DrC N A n c b S w w'' ∧ rOf b S k wz w'' ∧ Tk.tale b S (.pure fun v => ∃ x y, v = .agg #[.int .i64 x, .int .i64 y] ∧ p x y) vs v w'' :=
  h.mono fun e w' ⟨x, y, he, hp, hs, hd⟩ => ⟨_, he, hz.dr hN hb hs hd, by unfold rOf; rw [hk]; exact hd, x, y, rfl, hp⟩
theorem lz_row {p : Int → Prop} (hN : N ≤ b) (hb : ∀ q ∈ S, q.2.1 ≠ b ∧ q.2.1 < w.heap.size) (hk : S.lookup k = none) (hz : DrC N A n c b S w wz) (cs : Array Value) (t : TypeId) (m : Nat) (xs : List Int) (hl : xs.length = m) (h : cs = (xs.map (Value.int .i64)).toArray) (hP : ∀ x ∈ xs, p x) :
    DrC N A n c b S w (wz.alloc (.cells cs t)) ∧ rOf b S k wz (wz.alloc (.cells cs t)) ∧ Tk.tale b S (.row m p) vs (.slice (some ⟨wz.heap.size, 0, none⟩) m m) (wz.alloc (.cells cs t)) :=
  ⟨hz.dr hN (fun q hq => (hb q hq).1) (hz.src.alloc _) ((Dr.refl b wz).alloc _), by unfold rOf; rw [hk]; exact (Dr.refl b wz).alloc _, wz.heap.size, rfl, by have := hz.src.lt; omega,
    fun q hq => by have := (hb q hq).2; have := hz.size; omega, allP_alloc p wz cs t m xs hl h hP⟩
theorem lz_pick {p : Int → Prop} {v : Value} {m : Nat} (hN : N ≤ b) (hb : ∀ q ∈ S, q.2.1 ≠ b) (hk : S.lookup k = none) (hz : DrC N A n c b S w wz) (hm : 0 < m) (hm2 : m ≤ 1000) (h : Tk.tale b S (.row m p) [] v wz) :
    Calls Tryz.prog 20 #[.pointer (some ⟨b, 0, none⟩), v] wz fun e w'' => ∃ v, e = .returned v ∧ DrC N A n c b S w w'' ∧ rOf b S k wz w'' ∧ Tk.tale b S (.pure fun v => ∃ x, v = .int .i64 x ∧ p x) vs v w'' := by
  obtain ⟨g, rfl, h3, -, h4⟩ := h
  exact lz_got hN hb hk hz (pick_any p A n c b g m m wz hz.src h3 hm hm2 h4)
/-- A result of two cells, of three cells is written. -/
theorem lz_two {r : Nat} {T : TypeId} {x y : Value} (hN : N ≤ b) (hr : N ≤ r) (hb : r ≠ b) (hk : S.lookup k = some (r, T, 2)) (hne : ∀ q' ∈ S, q'.2.1 = r → q'.2.2 = (T, 2)) (hz : DrC N A n c b S w wz) (hv : vs.getD 1 undef = .agg #[x, y]) :
    DrC N A n c b S w ((wz.setCell ⟨r, 0, none⟩ x).setCell ⟨r, 1, none⟩ y) ∧ rOf b S k wz ((wz.setCell ⟨r, 0, none⟩ x).setCell ⟨r, 1, none⟩ y) ∧ Tk.tale b S (.blk r T) vs undef ((wz.setCell ⟨r, 0, none⟩ x).setCell ⟨r, 1, none⟩ y) := by
  obtain ⟨cs, h1, h2⟩ := hz.res _ (lookup_mem hk)
  simp only at h1 h2
  have ho : OnlyAt r wz ((wz.setCell ⟨r, 0, none⟩ x).setCell ⟨r, 1, none⟩ y) := ((OnlyAt.refl r wz).set 0 x).set 1 y
  obtain ⟨l⟩ := cs
  obtain ⟨c0, c1, rfl⟩ : ∃ c0 c1, l = [c0, c1] := by
    match l, h1 with
    | [c0, c1], _ => exact ⟨c0, c1, rfl⟩
  have hB : Blk ((wz.setCell ⟨r, 0, none⟩ x).setCell ⟨r, 1, none⟩ y) r T #[x, y] := (Blk.set h2 0 x).set 1 y
  exact ⟨hz.aside hN (lookup_mem hk) hr hb ho (Nat.le_refl _) rfl hB (fun q hq e => by rw [hne q hq e]), by unfold rOf; rw [hk]; exact ho, _, hv, hB⟩
theorem lz_three {r : Nat} {T : TypeId} {x y z : Value} (hN : N ≤ b) (hr : N ≤ r) (hb : r ≠ b) (hk : S.lookup k = some (r, T, 3)) (hne : ∀ q' ∈ S, q'.2.1 = r → q'.2.2 = (T, 3)) (hz : DrC N A n c b S w wz) (hv : vs.getD 1 undef = .agg #[x, y, z]) :
    DrC N A n c b S w (((wz.setCell ⟨r, 0, none⟩ x).setCell ⟨r, 1, none⟩ y).setCell ⟨r, 2, none⟩ z) ∧ rOf b S k wz (((wz.setCell ⟨r, 0, none⟩ x).setCell ⟨r, 1, none⟩ y).setCell ⟨r, 2, none⟩ z) ∧ Tk.tale b S (.blk r T) vs undef (((wz.setCell ⟨r, 0, none⟩ x).setCell ⟨r, 1, none⟩ y).setCell ⟨r, 2, none⟩ z) := by
  obtain ⟨cs, h1, h2⟩ := hz.res _ (lookup_mem hk)
  simp only at h1 h2
  have ho : OnlyAt r wz (((wz.setCell ⟨r, 0, none⟩ x).setCell ⟨r, 1, none⟩ y).setCell ⟨r, 2, none⟩ z) := (((OnlyAt.refl r wz).set 0 x).set 1 y).set 2 z
  obtain ⟨l⟩ := cs
  obtain ⟨c0, c1, c2, rfl⟩ : ∃ c0 c1 c2, l = [c0, c1, c2] := by
    match l, h1 with
    | [c0, c1, c2], _ => exact ⟨c0, c1, c2, rfl⟩
  have hB : Blk (((wz.setCell ⟨r, 0, none⟩ x).setCell ⟨r, 1, none⟩ y).setCell ⟨r, 2, none⟩ z) r T #[x, y, z] := ((Blk.set h2 0 x).set 1 y).set 2 z
  exact ⟨hz.aside hN (lookup_mem hk) hr hb ho (Nat.le_refl _) rfl hB (fun q hq e => by rw [hne q hq e]), by unfold rOf; rw [hk]; exact ho, _, hv, hB⟩
/-- The cells of a result, ahead of its writing. -/
theorem DrC.cells {q : Wr} (hz : DrC N A n c b S w wz) (hq : q ∈ S) (i : Nat) (hi : i < q.2.2.2) : ∃ x, wz.cell? ⟨q.2.1, i, none⟩ = some x := by
  obtain ⟨cs, h1, h2⟩ := hz.res q hq
  have c0 := cell_of_row wz q.2.1 i _ _ _ h2
  have hlt : i < cs.size := by omega
  exact ⟨cs[i], by rw [c0]; simp [hlt]⟩
theorem DrC.free {q : Wr} (hz : DrC N A n c b S w wz) (hq : q ∈ S) (i : Nat) : wz.frozen? ⟨q.2.1, i, none⟩ = false := by
  obtain ⟨cs, h1, h2⟩ := hz.res q hq
  exact free_row h2 i
end
end Go.Proofs.YtdbeedfapkfibaaGreatDoor
