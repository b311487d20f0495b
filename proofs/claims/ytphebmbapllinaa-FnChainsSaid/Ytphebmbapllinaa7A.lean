/- Plain mathematics, merged. -/
import Derived.Test.YtphebmbapllinaaC07d
import Derived.Test.YtphebmbapllinaaMC
import Derived.Test.YtphebmbapllinaaD1
import Derived.Sort.QuietTacIn
import Derived.OwnWalkIn
import Derived.WalkKit
import Derived.Test.YtphebmbapllinaaRows
import Derived.RangeFuncNested
import Derived.RangeFuncFrom
import Derived.RangeFuncBound
import Derived.RangeFuncCalls
import Derived.RangeFuncLeaves
import Derived.Shelf.Abstract
import Derived.Shelf.RegionOpen
import Derived.TacticsInMore
import Derived.LoopNIn
import Derived.LoopIn
import Derived.Test.YtphebmbapllinaaC07e
import Derived.Maps.AppendAt
import Derived.Test.YtphebmbapllinaaC05d
/- Contracts of chapter 7: the program's validity, its count of marks, its marks. -/
namespace Go.Proofs.Ytphebmbapllinaa
open Go.RowKit
set_option linter.unusedVariables false
set_option linter.unusedSimpArgs false

/-- Every number of every part is an int64. -/
abbrev Wf3 (zs : List P3) : Prop := ∀ z ∈ zs, (Lit.int .i64 z.1).wf = true ∧ (Lit.int .i64 z.2.1).wf = true ∧ (Lit.int .i64 z.2.2).wf = true

end Go.Proofs.Ytphebmbapllinaa

/- A region that draws its order, within a round of a loop over an iterator: walked once. -/
namespace Go.Proofs.Ytphebmbapllinaa
open Go.RowKit
set_option linter.unusedVariables false

/-- No operation is a statement that defers. -/
def noDefer (ops : Array Oper) : Bool := ops.all fun o => match o.op with
  | .defer _ => false
  | _ => true
theorem noDefer_spec {ops : Array Oper} (h : noDefer ops = true) {o : Oper} {i : Nat} (hi : ops[i]? = some o) : ∀ c, o.op ≠ .defer c := by
  intro c hc
  have h1 := Array.all_eq_true_iff_forall_mem.1 h o (Array.mem_of_getElem? hi)
  rw [hc] at h1
  cases h1
theorem quietR_op {F : Fence} {n : Nat} {P : Program} {C : World → Prop} {o : Oper} {a : Act} {K : Act → Prop} {K' : Act → World → Prop} {Q' : Exit → Act → World → Prop} {w : World} (hd : ∀ c, o.op ≠ .defer c) (hw : C w) (h : ∀ a w', C w' → K a → K' a w')
    (ha : o.askedIn F P a C) (hh : o.quietIn F n P a C K) : o.wpIn F n P a w K' Q' := by
  obtain ⟨v, h1, h2⟩ := hh
  have h3 := h1 w hw
  unfold Oper.quietAtIn at h3
  unfold Oper.wpIn
  refine ⟨ha w hw, ?_⟩
  rw [Oper.semAt_plain F _ _ hd]
  generalize (execOp a.eval o).run P w = r at *
  cases r with
  | ok x w' =>
    cases x <;> simp only [Oper.quietUponIn] at h3 <;> simp only [Oper.uponIn]
    case value u =>
      obtain ⟨e1, e2⟩ := h3
      rw [e1, e2]
      exact h _ _ hw h2
    case skip =>
      obtain ⟨e1, e2⟩ := h3
      rw [e1, ← e2]
      exact h _ _ hw h2
    case enter f args =>
      obtain ⟨e1, hd, hc⟩ := h3
      rw [e1]
      exact ⟨hd, hc.mono fun e w'' ⟨he, hw''⟩ => by subst he; exact h _ _ hw'' h2⟩
  | halt x w' => simp only [Oper.quietUponIn] at h3
theorem quietR_opIn {F : Fence} {n : Nat} {P : Program} {ops : Array Oper} {C : World → Prop} {i : Nat} {a : Act} {K : Act → Prop} {K' : Act → World → Prop} {Q' : Exit → Act → World → Prop} {w : World} (hd : noDefer ops = true) (hC : C w) (h : ∀ a w', C w' → K a → K' a w')
    (hh : qOpIn F n P ops C i K a) : wpOpIn F n P ops Q' i K' a w := by
  unfold qOpIn at hh
  unfold wpOpIn
  split
  · rename_i ho; simp only [ho] at hh; exact h _ _ hC hh
  · rename_i o ho
    simp only [ho] at hh
    obtain ⟨ha, hh⟩ := hh
    split
    · rename_i hw; simp only [hw, if_true] at hh; exact quietR_op (noDefer_spec hd ho) hC h ha hh
    · rename_i hw; simp only [hw] at hh; exact ⟨ha w hC, h _ _ hC hh⟩
theorem quietR_any {F : Fence} {n : Nat} {P : Program} {ops : Array Oper} {md : Region.Mode} {C : World → Prop} {Q : Act → Prop} {Q' : Exit → Act → World → Prop} (hd : noDefer ops = true) (hQ : ∀ a w, C w → Q a → Q' .normal a w) : ∀ (fuel : Nat) (listed : Array Bool) (a : Act) (w : World), C w →
    wpAnyQIn F n P md ops C Q fuel listed a → wpAnyIn F n P md ops Q' fuel listed a w
  | 0, _, _, _, hw, h => ⟨h.1, hQ _ _ hw h.2⟩
  | fuel + 1, _, _, _, hw, h => ⟨fun h0 => hQ _ _ hw (h.1 h0), fun i hi => quietR_opIn hd hw (fun a' w' hw' => quietR_any hd hQ fuel _ a' w' hw') (h.2 i hi)⟩
/-- One walk of the order of the text serves every order, within a round. -/
theorem wpIn_region_quietR {F : Fence} {n : Nat} {P : Program} {C : World → Prop} {id : Nat} {Q : Exit → Act → World → Prop} {a : Act} {w : World} {l : List Oper} (hm : P.follows .mixedOrders = true) (hd : noDefer l.toArray = true) (hB : Region.lexB .any l.toArray = true) (hC : C { w with drawn := w.drawn + 1 })
    (h : wpQuietIn F n P l.toArray C (fun a' => ∀ w', C w' → Q .normal a' w') l a) : (Code.region id l.toArray true).wpIn F n P Q a w := by
  simp only [Region.lexB, Bool.and_eq_true] at hB
  refine wpIn_region_any hm (quietR_any (Q := fun a' => ∀ w', C w' → Q .normal a' w') hd (fun _ w' hw' h => h w' hw') _ _ _ _ hC ?_)
  have := wpAnyQIn_lex (F := F) (n := n) (C := C) (md := .any) hB.1 l 0 (Array.replicate l.length false) a (by simp) (by simpa using hB.2) (by simpa using h)
  simpa using this
theorem wpIn_region_quietR_lit {F : Fence} {n : Nat} {P : Program} {id : Nat} {Q : Exit → Act → World → Prop} {a : Act} {w : World} {l : List Oper} (hm : P.follows .mixedOrders = true) (hd : noDefer l.toArray = true) (hB : Region.lexB .any l.toArray = true)
    (h : wpQuietIn F n P l.toArray (fun w' => ∃ n, w' = w.drewN n) (fun a' => ∀ w', (∃ n, w' = w.drewN n) → Q .normal a' w') l a) : (Code.region id l.toArray true).wpIn F n P Q a w :=
  wpIn_region_quietR (C := fun w' => ∃ n, w' = w.drewN n) hm hd hB ⟨1, rfl⟩ h

/-- A region whose first operations are quiet, whatever order is picked, and lead to one state. -/
def anyQ (F : Fence) (n : Nat) (P : Program) (md : Region.Mode) (ops : Array Oper) (C : World → Prop) (Qb : Array Bool → Act → Prop) : Nat → Array Bool → Act → Prop
  | 0, listed, a => Qb listed a
  | fuel + 1, listed, a => Region.ready md ops listed ≠ [] ∧ ∀ i ∈ Region.ready md ops listed, qOpIn F n P ops C i (anyQ F n P md ops C Qb fuel (listed.setIfInBounds i true)) a
theorem anyQ_wp {F : Fence} {n : Nat} {P : Program} {ops : Array Oper} {md : Region.Mode} {C : World → Prop} {Qb : Array Bool → Act → Prop} {Q : Exit → Act → World → Prop} {r : Nat} (hd : noDefer ops = true) (hQ : ∀ listed a w, C w → Qb listed a → wpAnyIn F n P md ops Q r listed a w) :
    ∀ (fuel : Nat) (listed : Array Bool) (a : Act) (w : World), C w → anyQ F n P md ops C Qb fuel listed a → wpAnyIn F n P md ops Q (fuel + r) listed a w
  | 0, listed, a, w, hw, h => by rw [Nat.zero_add]; exact hQ _ _ _ hw h
  | fuel + 1, listed, a, w, hw, h => by
    rw [Nat.add_right_comm]
    exact ⟨fun h0 => absurd h0 h.1, fun i hi => quietR_opIn hd hw (fun a' w' hw' h' => anyQ_wp hd hQ fuel _ a' w' hw' h') (h.2 i hi)⟩
theorem anyQ_ready {F : Fence} {n : Nat} {P : Program} {ops : Array Oper} {md : Region.Mode} {C : World → Prop} {Qb : Array Bool → Act → Prop} {fuel : Nat} {listed : Array Bool} {a : Act} {rs : List Nat} (hr : Region.ready md ops listed = rs) (hne : rs ≠ [])
    (h : ∀ i ∈ rs, qOpIn F n P ops C i (anyQ F n P md ops C Qb fuel (listed.setIfInBounds i true)) a) : anyQ F n P md ops C Qb (fuel + 1) listed a := ⟨hr ▸ hne, hr ▸ h⟩
theorem allQ_nil {p : Nat → Prop} : ∀ i ∈ ([] : List Nat), p i := fun _ h => by cases h
theorem allQ_cons {p : Nat → Prop} {i : Nat} {rs : List Nat} (h : p i) (hs : ∀ j ∈ rs, p j) : ∀ j ∈ i :: rs, p j := fun j hj => by
  rcases List.mem_cons.1 hj with rfl | hj
  · exact h
  · exact hs j hj
theorem qOp_step {F : Fence} {n : Nat} {P : Program} {ops : Array Oper} {C : World → Prop} {i : Nat} {o : Oper} {K : Act → Prop} {a : Act} (ho : ops[i]? = some o) (ha : o.askedIn F P a C)
    (h : ∀ K' : Act → Prop, (∀ a, K a → K' a) → if Region.wanted o (yielded ops a.tmps) then o.quietIn F n P a C K' else K' (a.put o.dst undef)) : qOpIn F n P ops C i K a := by
  unfold qOpIn
  simp only [ho]
  exact ⟨ha, h K (fun _ h => h)⟩
theorem wpIn_region_prefix {F : Fence} {n : Nat} {P : Program} {id : Nat} {Q : Exit → Act → World → Prop} {a : Act} {w : World} {l : List Oper} {Qb : Array Bool → Act → Prop} (fuel r : Nat) (hm : P.follows .mixedOrders = true) (hd : noDefer l.toArray = true) (hsz : l.length = fuel + r)
    (hq : anyQ F n P .any l.toArray (fun w' => ∃ n, w' = w.drewN n) Qb fuel (Array.replicate (fuel + r) false) a)
    (hQ : ∀ listed a' k, Qb listed a' → wpAnyIn F n P .any l.toArray Q r listed a' (w.drewN k)) : (Code.region id l.toArray true).wpIn F n P Q a w := by
  refine wpIn_region_any hm ?_
  rw [show l.toArray.size = fuel + r by simpa using hsz]
  exact anyQ_wp hd (fun listed a' w' ⟨k, hk⟩ h => by rw [hk]; exact hQ _ _ _ h) fuel _ a _ ⟨1, rfl⟩ hq
theorem wpIn_region_prefixA {F : Fence} {n : Nat} {P : Program} {id : Nat} {Q : Exit → Act → World → Prop} {a : Act} {w : World} {l : List Oper} (L : Array Bool) (A : Act) (fuel r : Nat) (hm : P.follows .mixedOrders = true) (hd : noDefer l.toArray = true) (hsz : l.length = fuel + r)
    (hq : anyQ F n P .any l.toArray (fun w' => ∃ n, w' = w.drewN n) (fun li a' => li = L ∧ a' = A) fuel (Array.replicate (fuel + r) false) a)
    (hQ : ∀ k, wpAnyIn F n P .any l.toArray Q r L A (w.drewN k)) : (Code.region id l.toArray true).wpIn F n P Q a w :=
  wpIn_region_prefix fuel r hm hd hsz hq (fun listed a' k ⟨h1, h2⟩ => by rw [h1, h2]; exact hQ k)
end Go.Proofs.Ytphebmbapllinaa

/- A loop over an iterator that keeps cells of its own between two rounds: its contract and the caller's law. -/
namespace Go.Proofs.Ytphebmbapllinaa
open Go.RowKit
set_option linter.unusedVariables false

/-- All that lay lies as it lay, save the blocks of a list. -/
structure Kx (bs : List Nat) (W W' : World) : Prop where
  os : W'.os = W.os
  tape : W'.tape = W.tape
  output : W'.output = W.output
  size : W.heap.size ≤ W'.heap.size
  same : ∀ k, k < W.heap.size → k ∉ bs → W'.heap[k]? = W.heap[k]?
theorem Kx.refl (bs : List Nat) (W : World) : Kx bs W W := ⟨rfl, rfl, rfl, Nat.le_refl _, fun _ _ _ => rfl⟩
theorem Kx.trans {bs : List Nat} {A B C : World} (h : Kx bs A B) (k : Kx bs B C) : Kx bs A C :=
  ⟨k.os.trans h.os, k.tape.trans h.tape, k.output.trans h.output, Nat.le_trans h.size k.size, fun i hi hb => (k.same i (Nat.lt_of_lt_of_le hi h.size) hb).trans (h.same i hi hb)⟩
theorem Kx.grown {bs : List Nat} {W W' : World} {row : Option Nat} (hg : W.grownBy W' row) (hr : ∀ r, row = some r → r ∈ bs) : Kx bs W W' :=
  ⟨hg.os, hg.tape, hg.output, hg.size, fun k hk hb => hg.block k hk (fun e => hb (hr k e.symm))⟩
theorem Kx.more {bs cs : List Nat} {W W' : World} (h : Kx bs W W') (hc : ∀ b ∈ bs, b ∈ cs) : Kx cs W W' := ⟨h.os, h.tape, h.output, h.size, fun k hk hb => h.same k hk (fun e => hb (hc k e))⟩
theorem Kx.below {bs : List Nat} {W W' : World} (h : Kx bs W W') {B : Nat} (hB : B ≤ W.heap.size) (hb : ∀ b ∈ bs, B ≤ b) : Below B W W' :=
  ⟨h.os, h.tape, h.output, h.size, fun k hk => h.same k (Nat.lt_of_lt_of_le hk hB) (fun e => by have := hb k e; omega)⟩
theorem Kx.of_below {bs : List Nat} {W W' : World} (h : Below W.heap.size W W') : Kx bs W W' := ⟨h.os, h.tape, h.output, h.size, fun k hk _ => h.block k hk⟩
theorem Kx.boxed {bs : List Nat} {W W' : World} (h : Kx bs W W') {B : Nat} {t : TypeId} {v : Value} (hb : Boxed W B t v) (hn : B ∉ bs) : Boxed W' B t v := (h.same B hb.lt hn).trans hb
theorem Kx.set (bs : List Nat) (W : World) {B : Nat} (hB : B ∈ bs) (v : Value) : Kx bs W (W.setCell ⟨B, 0, none⟩ v) := Kx.grown (grownBy_setCell' W B v) (fun r e => by cases e; exact hB)

/-- Whatever is turned at or beyond B: it abides. -/
def AbX {β : Type} (B : Nat) (J : β → World → Prop) : Prop := ∀ s W W' row, J s W → W.grownBy W' row → (∀ r, row = some r → B ≤ r) → J s W'
theorem AbX.and {β : Type} {B : Nat} {I J : β → World → Prop} (h : AbX B I) (k : AbX B J) : AbX B (fun s W => I s W ∧ J s W) := fun s W W' row hs hg hr => ⟨h s W W' row hs.1 hg hr, k s W W' row hs.2 hg hr⟩
theorem AbX.alloc {β : Type} {B : Nat} {J : β → World → Prop} (h : AbX B J) {s : β} {W : World} (o : Obj) (hs : J s W) : J s (W.alloc o) := h s W _ none hs (World.grownBy_alloc W o none) (fun r e => by cases e)
theorem AbX.putObj {β : Type} {B : Nat} {J : β → World → Prop} (h : AbX B J) {s : β} {W : World} {l : Nat} (o : Obj) (hs : J s W) (hl : B ≤ l) : J s (W.putObj l o) := h s W _ (some l) hs (grownBy_putObj' W l o) (fun r e => by cases e; exact hl)
theorem abX_boxed {β : Type} {B b : Nat} (hb : b < B) (t : TypeId) (f : β → Value) : AbX B (fun s W => Boxed W b t (f s)) := fun s W W' row hs hg hr => Boxed.kept hs hg (fun e => by have := hr b e.symm; omega)
theorem abX_pure {β : Type} (B : Nat) (p : β → Prop) : AbX B (fun s (_ : World) => p s) := fun _ _ _ _ hs _ _ => hs
theorem abX_below {β : Type} {B n₀ : Nat} {w : World} (hn : n₀ ≤ B) (hw : n₀ ≤ w.heap.size) : AbX B (fun (_ : β) W => Below n₀ w W) := fun s W W' row hs hg hr => hs.grown hg (Nat.le_trans hw hs.size) (fun k e => Nat.le_trans hn (hr k e))
theorem AbX.mono {β : Type} {B C : Nat} {J : β → World → Prop} (h : AbX B J) (hc : B ≤ C) : AbX C J := fun s W W' row hs hg hr => h s W W' row hs hg (fun r e => Nat.le_trans hc (hr r e))

/-- The iterator's contract: each round keeps all but the blocks of a list; the iterator may turn whatever it has laid itself. -/
def SeqX {α : Type} (F : Fence) (n : Nat) (P : Program) (g : Nat) (lb : Array Value) (encs : α → Array Value) (bs : List Nat) (S Sp : List α → Prop) (N : Nat) (w : World) : Prop :=
  ∀ (l : Nat) (J Jx : List α → World → Prop) (W : World), Below w.heap.size w W → (∀ b ∈ bs, b < W.heap.size) → AbX W.heap.size J → AbX W.heap.size Jx →
    (∀ pre x W1, J pre W1 → pre.length < N → YieldAt F (n - 1) P l (encs x) W1 fun e W' =>
      ((e = .returned (.bool true) ∧ J (pre ++ [x]) W') ∨ (e = .returned (.bool false) ∧ Jx (pre ++ [x]) W')) ∧ Kx bs W1 W') →
    J [] W →
    CallsIn F n P g (#[.func (.yield l) #[] #[]] ++ lb) W fun e W' => (∃ v, e = .returned v) ∧ ((∃ xs, S xs ∧ J xs W') ∨ (∃ pre, Sp pre ∧ Jx pre W'))

/-- How a round's body may be left. -/
def postX {α : Type} (bs : List Nat) (I Ix : List α → World → Prop) (xs : List α) (W : World) : Exit → Act → World → Prop
  | .normal, _, W' => Kx bs W W' ∧ I xs W'
  | .ret, _, W' => Kx bs W W' ∧ Ix xs W'
  | _, _, _ => False

theorem rangeX {F : Fence} {n : Nat} {P : Program} {α : Type} {g : Operand} {ps : Array Tmp} {assign body : Code} {Q : Exit → Act → World → Prop} {a : Act} {w : World}
    (hro : F.round = none) (h1 : 1 ≤ n) {gf : Nat} {lb : Array Value} (hg : a.eval g = .func (.func gf) #[] lb) (hFg : F.fn gf) (eg : ∀ args w, (callFunc gf args).run P w = .ok (.enter gf args) w)
    {encs : α → Array Value} {bs : List Nat} {S Sp : List α → Prop} {N : Nat} {w0 : World} (hbs : ∀ b ∈ bs, b < w.heap.size) (hseq : SeqX F (n - 1) P gf lb encs ((w.heap.size + 1) :: bs) S Sp N w0) (hb0 : Below w0.heap.size w0 w) (hps : ∀ x, (encs x).size = ps.size)
    (I Ix : List α → World → Prop) (hI : AbX w.heap.size I) (hIx : AbX w.heap.size Ix) (h0 : I [] w) (a₁ : α → Act)
    (hassign : ∀ (l : Nat) (x : α) (W : World) (K : Act → World → Prop), K (a₁ x) W →
      assign.wpIn (F.inRound l) (n - 1 - 1) P (Exit.then K (fun _ _ _ => False)) { tmps := (ps.zip (encs x)).foldl (fun t (p, v) => t.setIfInBounds p v) a.tmps, defers := [] } W)
    (hbody : ∀ (l : Nat) (pre : List α) (x : α) (W : World), I pre W → pre.length < N → w.heap.size ≤ W.heap.size → body.wpIn (F.inRound l) (n - 1 - 1) P (postX bs I Ix (pre ++ [x]) W) (a₁ x) W)
    (hdone : ∀ (D : Nat) (xs : List α) (W : World), w.heap.size ≤ D → S xs → I xs W → W.heap[D]? = some (.deferred (some [])) → Q .normal { a with defers := { target := .collected D, args := #[] } :: a.defers } W)
    (hstop : ∀ (D : Nat) (pre : List α) (W : World), w.heap.size ≤ D → Sp pre → Ix pre W → W.heap[D]? = some (.deferred (some [])) → Code.ret.wpIn F n P Q { a with defers := { target := .collected D, args := #[] } :: a.defers } W) :
    (Code.rangeFunc g ps assign body).wpIn F n P Q a w := by
  refine wpIn_rangeFunc fun fn hfn => ?_
  rw [hro]
  obtain ⟨s, hs⟩ : ∃ s, w.heap.size = s := ⟨_, rfl⟩
  have hr0 := run_enterLoop_outer (P := P) (w := w) fn a.tmps ps assign body
  obtain ⟨R, hR⟩ : ∃ R : LoopState → Option Code → Loop, R = fun st pe => { state := st, pending := pe, fn, tmps := a.tmps, params := ps, assign, body, defers := s } := ⟨_, rfl⟩
  -- the two blocks of the loop's own, and that they lie
  obtain ⟨G, hG⟩ : ∃ G : LoopState → Option Code → World → Prop, G = fun st pe W => W.heap[s + 1]? = some (.loop (R st pe)) ∧ W.heap[s]? = some (.deferred (some [])) := ⟨_, rfl⟩
  have hlt : ∀ {st pe W}, G st pe W → s + 1 < W.heap.size := fun h => by rw [hG] at h; exact (Array.getElem?_eq_some_iff.1 h.1).1
  have hput : ∀ {st pe W} (st' : LoopState) (pe' : Option Code), G st pe W → G st' pe' (W.putObj (s + 1) (.loop (R st' pe'))) := fun st' pe' h => by
    have hl := hlt h
    rw [hG] at h ⊢
    exact ⟨World.putObj_heap_same hl, (World.putObj_heap_other (by omega)).trans h.2⟩
  have hkeep : ∀ {st pe W W'}, G st pe W → W'.heap[s + 1]? = W.heap[s + 1]? → W'.heap[s]? = W.heap[s]? → G st pe W' := fun h e1 e2 => by
    rw [hG] at h ⊢
    exact ⟨e1.trans h.1, e2.trans h.2⟩
  obtain ⟨W1, hW1⟩ : ∃ W1, (w.alloc (.deferred (some []))).alloc (.loop (R .ready none)) = W1 := ⟨_, rfl⟩
  have hsz : W1.heap.size = s + 1 + 1 := by rw [← hW1, World.size_alloc, World.size_alloc, hs]
  have hG1 : G .ready none W1 := by
    have e1 := World.alloc_heap_new (w.alloc (.deferred (some []))) (.loop (R .ready none))
    have e0 := World.alloc_heap_new w (.deferred (some []))
    rw [hs] at e0
    have e2 : ((w.alloc (.deferred (some []))).alloc (.loop (R .ready none))).heap[s]? = some (.deferred (some [])) := (Below.heap_alloc _ _ s (by rw [World.size_alloc]; omega)).trans e0
    rw [World.size_alloc, hs, hW1] at e1
    rw [hW1] at e2
    rw [hG]
    exact ⟨e1, e2⟩
  have hI1 : I [] W1 := by rw [← hW1]; exact hI.alloc _ (hI.alloc _ h0)
  have hb1 : Below w0.heap.size w0 W1 := by
    rw [← hW1]; exact (hb0.alloc hb0.size _).alloc (by have := hb0.size; simp; omega) _
  refine ⟨s + 1, [{ target := .collected s, args := #[] }], W1, { target := .fn (.func gf) lb, args := #[.func (.yield (s + 1)) #[] #[]] }, W1, gf, #[.func (.yield (s + 1)) #[] #[]] ++ lb, W1, ?_, ?_, ?_, ?_, fun _ => h1, ?_⟩
  · rw [← hW1, hR, ← hs]; exact hr0
  · simp only [resolve, hg]
    simp [go_sem]
  · intro f' hf'; simp [Target.leads] at hf'; subst hf'; exact hFg
  · simp [invoke, go_sem, eg]
  rw [hs] at hI hIx hseq hbs
  refine (hseq (s + 1) (fun pre W => I pre W ∧ G .ready none W) (fun pre W => Ix pre W ∧ G .done (some .ret) W) W1 hb1 ?_ ?_ ?_ ?_ ⟨hI1, hG1⟩).mono ?_
  · intro b hb
    rcases List.mem_cons.1 hb with rfl | hb
    · omega
    · have := hbs b hb; omega
  · rintro t A B row ⟨hi, hg'⟩ hgr hr
    have := hlt hg'
    exact ⟨hI t A B row hi hgr (fun r e => by have := hr r e; omega), hkeep hg' (hgr.block _ (by omega) (fun e => by have := hr _ e.symm; omega)) (hgr.block _ (by omega) (fun e => by have := hr _ e.symm; omega))⟩
  · rintro t A B row ⟨hi, hg'⟩ hgr hr
    have := hlt hg'
    exact ⟨hIx t A B row hi hgr (fun r e => by have := hr r e; omega), hkeep hg' (hgr.block _ (by omega) (fun e => by have := hr _ e.symm; omega)) (hgr.block _ (by omega) (fun e => by have := hr _ e.symm; omega))⟩
  · rintro pre x W ⟨hi, hg'⟩ hlen
    have hg2 := hg'
    rw [hG] at hg2
    have hy := run_yield (P := P) (args := encs x) hg2.1 (by rw [hR]; exact hps x)
    rw [hR] at hy
    refine ⟨fn, _, assign, body, hy, roundIn_of_wpIn hfn (hassign _ x W _ ⟨_, run_beginRound hg2.1 (by rw [hR]), ?_⟩)⟩
    have e1 : ({ R .ready none with state := .busy } : Loop) = R .busy none := by rw [hR]
    rw [e1]
    have hgb := hput .busy none hg'
    have hs2 := hlt hgb
    have hk1 : Kx ((s + 1) :: bs) W (W.putObj (s + 1) (.loop (R .busy none))) := Kx.grown (grownBy_putObj' W _ _) (fun r e => by cases e; simp)
    refine wpIn_mono (hbody _ pre x _ (hI.putObj _ hi (by omega)) hlen (by omega)) ?_
    have fin : ∀ (jump : Option Code) (W3 : World), Kx bs (W.putObj (s + 1) (.loop (R .busy none))) W3 →
        (Instr.endRound (s + 1) jump).run P W3 = .ok (.bool jump.isNone) (W3.putObj (s + 1) (.loop (R (if jump.isNone then .ready else .done) jump))) ∧
        G (if jump.isNone then .ready else .done) jump (W3.putObj (s + 1) (.loop (R (if jump.isNone then .ready else .done) jump))) ∧ Kx ((s + 1) :: bs) W (W3.putObj (s + 1) (.loop (R (if jump.isNone then .ready else .done) jump))) := fun jump W3 hk3 => by
      have hg3 : G .busy none W3 := hkeep hgb (hk3.same _ (by omega) (fun e => by have := hbs _ e; omega)) (hk3.same _ (by omega) (fun e => by have := hbs _ e; omega))
      have hg4 := hg3
      rw [hG] at hg4
      have hend := run_endRound (P := P) jump hg4.1
      have e2 : ({ R .busy none with state := (if jump.isNone then .ready else .done), pending := jump } : Loop) = R (if jump.isNone then .ready else .done) jump := by rw [hR]
      rw [e2] at hend
      exact ⟨hend, hput _ _ hg3, hk1.trans ((hk3.more (fun b hb => List.mem_cons_of_mem _ hb)).trans (Kx.grown (grownBy_putObj' _ _ _) (fun r e => by cases e; simp)))⟩
    rintro e a3 W3 hp
    cases e with
    | normal =>
      obtain ⟨hk3, hi3⟩ := hp
      obtain ⟨hr, hg4, hk4⟩ := fin none W3 hk3
      exact ⟨_, _, hr, .inl ⟨rfl, hI.putObj _ hi3 (by omega), hg4⟩, hk4⟩
    | ret =>
      obtain ⟨hk3, hi3⟩ := hp
      obtain ⟨hr, hg4, hk4⟩ := fin (some .ret) W3 hk3
      exact ⟨_, _, hr, .inr ⟨rfl, hIx.putObj _ hi3 (by omega), hg4⟩, hk4⟩
    | _ => exact hp.elim
  · rintro e W2 ⟨⟨v, rfl⟩, (⟨xs, hS, hi, hg'⟩ | ⟨pre, hSp, hi, hg'⟩)⟩
    · have hg2 := hg'
      rw [hG] at hg2
      have hend := run_endLoop (P := P) hg2.1 (by rw [hR]; simp)
      rw [hR] at hend
      refine ⟨none, _, hend, hdone s xs _ (by omega) hS (hI.putObj _ hi (by omega)) ?_⟩
      exact (World.putObj_heap_other (by omega)).trans hg2.2
    · have hg2 := hg'
      rw [hG] at hg2
      have hend := run_endLoop (P := P) hg2.1 (by rw [hR]; simp)
      rw [hR] at hend
      refine ⟨some .ret, _, hend, hstop s pre _ (by omega) hSp (hIx.putObj _ hi (by omega)) ?_⟩
      exact (World.putObj_heap_other (by omega)).trans hg2.2
end Go.Proofs.Ytphebmbapllinaa

/- Contracts of chapter 7: the program's iterator over the marks of parts. -/
namespace Go.Proofs.Ytphebmbapllinaa
open Go.RowKit Go.Shelf
set_option linter.unusedVariables false
set_option linter.unusedSimpArgs false
attribute [local go_sem] Oper.semAt_some

/-- A block of cells of type T. -/
def isT (T : TypeId) : Obj → Bool
  | .cells _ t _ => t == T
  | _ => false
/-- Blocks of cells of type T lie as they lay. -/
structure KeepsT (T : TypeId) (W W' : World) : Prop where
  size : W.heap.size ≤ W'.heap.size
  same : ∀ (k : Nat) (o : Obj), W.heap[k]? = some o → isT T o = true → W'.heap[k]? = W.heap[k]?
theorem KeepsT.refl (T : TypeId) (W : World) : KeepsT T W W := ⟨Nat.le_refl _, fun _ _ _ _ => rfl⟩
theorem KeepsT.trans {T : TypeId} {A B C : World} (h : KeepsT T A B) (k : KeepsT T B C) : KeepsT T A C :=
  ⟨Nat.le_trans h.size k.size, fun i o hi ho => (k.same i o ((h.same i o hi ho).trans hi) ho).trans (h.same i o hi ho)⟩
theorem KeepsT.grown {T : TypeId} {W W' : World} {row : Option Nat} (hg : W.grownBy W' row) (hrow : ∀ r, row = some r → ∃ o : Obj, W.heap[r]? = some o ∧ isT T o = false) : KeepsT T W W' :=
  ⟨hg.size, fun k o hk ho => hg.block k (Array.getElem?_eq_some_iff.1 hk).1 (fun e => by
    obtain ⟨o', h1, h2⟩ := hrow k e.symm
    rw [hk] at h1
    cases h1
    rw [ho] at h2
    cases h2)⟩
theorem KeepsT.alloc (T : TypeId) (W : World) (o : Obj) : KeepsT T W (W.alloc o) := KeepsT.grown (World.grownBy_alloc W o none) (fun r e => by cases e)
theorem KeepsT.of_gr {T : TypeId} {W W' : World} (h : Gr W W') : KeepsT T W W' := ⟨h.below.size, fun k o hk _ => h.below.block k (Array.getElem?_eq_some_iff.1 hk).1⟩
theorem KeepsT.set {T : TypeId} {W : World} {B : Nat} {t : TypeId} {v : Value} (h : Boxed W B t v) (ht : (t == T) = false) (u : Value) : KeepsT T W (W.setCell ⟨B, 0, none⟩ u) :=
  KeepsT.grown (grownBy_setCell' W B u) (fun r e => by cases e; exact ⟨_, h, ht⟩)
/-- What a round keeps: what lay below n₀, and each block of type T. -/
def KM (T : TypeId) (n₀ : Nat) (W W' : World) : Prop := Below n₀ W W' ∧ KeepsT T W W'
theorem KM.refl (T : TypeId) (n₀ : Nat) (W : World) : KM T n₀ W W := ⟨Below.refl _ _, KeepsT.refl _ _⟩
theorem KM.t {T : TypeId} {n₀ : Nat} {A B C : World} (h : KM T n₀ A B) (k : KM T n₀ B C) : KM T n₀ A C := ⟨h.1.trans k.1, h.2.trans k.2⟩
theorem KM.b {T : TypeId} {n₀ : Nat} {w : World} (hn : n₀ ≤ w.heap.size) (W : World) (l : Nat) (o o' : Obj) (hl : w.heap.size ≤ l) (h : W.heap[l]? = some o) (hc : o.isCells = false) (hw : o.isWalk = false) : KM T n₀ W (W.putObj l o') :=
  ⟨belowK_b hn W l o o' hl h hc hw, KeepsT.grown (grownBy_putObj' W l o') (fun r e => by cases e; refine ⟨o, h, ?_⟩; cases o <;> simp_all [Obj.isCells, isT])⟩
theorem KM.alloc {T : TypeId} {n₀ : Nat} {W : World} (h : n₀ ≤ W.heap.size) (o : Obj) : KM T n₀ W (W.alloc o) := ⟨(Below.refl _ _).alloc h o, KeepsT.alloc _ _ _⟩
theorem KM.gr {T : TypeId} {n₀ : Nat} {W W' : World} (h : n₀ ≤ W.heap.size) (hg : Gr W W') : KM T n₀ W W' := ⟨hg.below.mono h, KeepsT.of_gr hg⟩
/-- Parts at an address, in a block below n₀ or of their own type. -/
def Rd3 (T : TypeId) (n₀ : Nat) (W : World) (A : Option Addr) (zs : List P3) : Prop :=
  ∀ k (h : k < (cells3 zs).length), ∃ g o : Nat, A = some ⟨g, o, none⟩ ∧ W.cell? ⟨g, o + k, none⟩ = some (cells3 zs)[k] ∧ (g < n₀ ∨ ∃ ob, W.heap[g]? = some ob ∧ isT T ob = true)
theorem Rd3.of_reads {T : TypeId} {n₀ : Nat} {W : World} {A : Option Addr} {zs : List P3} (h : Reads W n₀ A (cells3 zs)) : Rd3 T n₀ W A zs := fun k hk => by
  obtain ⟨g, o, e, hg, hc⟩ := h k hk
  exact ⟨g, o, e, hc, .inl hg⟩
theorem Rd3.of_row {T : TypeId} {n₀ : Nat} {W : World} {b : Nat} {zs : List P3} (h : Row W b T (cells3 zs)) : Rd3 T n₀ W (some ⟨b, 0, none⟩) zs := fun k hk =>
  ⟨b, 0, rfl, by rw [Nat.zero_add, h.cell, List.getElem?_eq_getElem hk], .inr ⟨_, h, by simp [isT]⟩⟩
theorem Rd3.keep {T : TypeId} {n₀ : Nat} {W W' : World} {A : Option Addr} {zs : List P3} (h : Rd3 T n₀ W A zs) (hk : KM T n₀ W W') : Rd3 T n₀ W' A zs := fun k hk' => by
  obtain ⟨g, o, e, hc, hg⟩ := h k hk'
  have hb : W'.heap[g]? = W.heap[g]? := by
    rcases hg with hg | ⟨ob, h1, h2⟩
    · exact hk.1.block g hg
    · exact hk.2.same g ob h1 h2
  refine ⟨g, o, e, (World.cell?_of_block hb).trans hc, ?_⟩
  rcases hg with hg | ⟨ob, h1, h2⟩
  · exact .inl hg
  · exact .inr ⟨ob, hb.trans h1, h2⟩
theorem Rd3.at3 {T : TypeId} {n₀ : Nat} {W : World} {A : Option Addr} {zs : List P3} (h : Rd3 T n₀ W A zs) {i : Nat} {p : P3} (hp : zs[i]? = some p) :
    ∃ g o : Nat, A = some ⟨g, o, none⟩ ∧ W.cell? ⟨g, o + i * 3, none⟩ = some (vi p.1) ∧ W.cell? ⟨g, o + i * 3 + 1, none⟩ = some (vi p.2.1) ∧ W.cell? ⟨g, o + i * 3 + 2, none⟩ = some (vi p.2.2) := by
  have hr : Reads W W.heap.size A (cells3 zs) := fun k hk => by
    obtain ⟨g, o, e, hc, -⟩ := h k hk
    exact ⟨g, o, e, World.block_lt_of_cell? W _ hc, hc⟩
  obtain ⟨g, o, e, -, x⟩ := hr.at3 hp
  exact ⟨g, o, e, x⟩

theorem frs_mono (p : P3) (j : Nat) : ∀ d : Nat, frs p j <+: frs p (j + d)
  | 0 => List.prefix_refl _
  | d + 1 => by
    rw [show j + (d + 1) = (j + d) + 1 from rfl, frs_succ]
    exact List.IsPrefix.trans (frs_mono p j d) (List.prefix_append _ _)
/-- One mark more: it is among all marks. -/
theorem frs_lt {zs : List P3} {k : Nat} {p : P3} (h : zs[k]? = some p) {j : Nat} (hj : j ≤ prN p) :
    (mks (zs.take k) ++ frs p j) <+: mks zs ∧ (j < prN p → (mks (zs.take k) ++ frs p j).length < (mks zs).length) := by
  obtain ⟨hk, e⟩ := List.getElem?_eq_some_iff.1 h
  have e4 : mks zs = (mks (zs.take k) ++ prM p) ++ mks (zs.drop (k + 1)) := by
    have e4 : zs = zs.take k ++ (p :: zs.drop (k + 1)) := by rw [← e, ← List.drop_eq_getElem_cons hk, List.take_append_drop]
    unfold mks
    conv => lhs; rw [e4]
    rw [List.flatMap_append, List.flatMap_cons, List.append_assoc]
  have e5 : frs p j <+: prM p := by
    obtain ⟨d, hd⟩ := Nat.exists_eq_add_of_le hj
    have h1 : prM p = frs p (j + d) := by rw [← hd]; rfl
    rw [h1]
    exact frs_mono p j d
  refine ⟨?_, fun hlt => ?_⟩
  · rw [e4]
    obtain ⟨t, ht⟩ := e5
    exact ⟨t ++ mks (zs.drop (k + 1)), by rw [← ht]; simp [List.append_assoc]⟩
  · rw [e4, List.length_append, List.length_append, List.length_append, frs_len, prM_len]
    omega

/-- A mark of these parts. -/
abbrev Mk (zs : List P3) := { x : Int // x ∈ mks zs }
def unM {zs : List P3} (l : List (Mk zs)) : List Int := l.map (·.1)
theorem unM_snoc {zs : List P3} (l : List (Mk zs)) (x : Mk zs) : unM (l ++ [x]) = unM l ++ [x.1] := by simp [unM]
theorem unM_len {zs : List P3} (l : List (Mk zs)) : (unM l).length = l.length := by simp [unM]
/-- Parts at an address, in a block that is none of a list. -/
def RdX (bs : List Nat) (W : World) (A : Option Addr) (zs : List P3) : Prop :=
  ∀ k (h : k < (cells3 zs).length), ∃ g o : Nat, A = some ⟨g, o, none⟩ ∧ W.cell? ⟨g, o + k, none⟩ = some (cells3 zs)[k] ∧ g ∉ bs
theorem RdX.keep {bs : List Nat} {W W' : World} {A : Option Addr} {zs : List P3} (h : RdX bs W A zs) (hk : Kx bs W W') : RdX bs W' A zs := fun k hk' => by
  obtain ⟨g, o, e, hc, hg⟩ := h k hk'
  exact ⟨g, o, e, (World.cell?_of_block (hk.same g (World.block_lt_of_cell? W _ hc) hg)).trans hc, hg⟩
theorem RdX.at3 {bs : List Nat} {W : World} {A : Option Addr} {zs : List P3} (h : RdX bs W A zs) {i : Nat} {p : P3} (hp : zs[i]? = some p) :
    ∃ g o : Nat, A = some ⟨g, o, none⟩ ∧ W.cell? ⟨g, o + i * 3, none⟩ = some (vi p.1) ∧ W.cell? ⟨g, o + i * 3 + 1, none⟩ = some (vi p.2.1) ∧ W.cell? ⟨g, o + i * 3 + 2, none⟩ = some (vi p.2.2) := by
  have hr : Reads W W.heap.size A (cells3 zs) := fun k hk => by
    obtain ⟨g, o, e, hc, -⟩ := h k hk
    exact ⟨g, o, e, World.block_lt_of_cell? W _ hc, hc⟩
  obtain ⟨g, o, e, -, x⟩ := hr.at3 hp
  exact ⟨g, o, e, x⟩
theorem boxed_gr {W W' : World} {B : Nat} {t : TypeId} {v : Value} (h : Boxed W B t v) (hg : Gr W W') : Boxed W' B t v := (hg.below.block B h.lt).trans h
theorem KO_gr {W W' : World} (h : Gr W W') : KeepsOthers W W' := ⟨h.below.size, fun k o hk _ => (h.below.block k (Array.getElem?_eq_some_iff.1 hk).1).trans hk⟩
/-- A round that ends in a store into a box of the caller's. -/
theorem round_set {T : TypeId} {n₀ : Nat} {W W1 : World} {B : Nat} {t : TypeId} {v : Value} (hg : Gr W W1) (h : Boxed W B t v) (ht : (t == T) = false) (hn : n₀ ≤ W.heap.size) (hB : n₀ ≤ B) (u : Value) :
    KeepsOthers W (W1.setCell ⟨B, 0, none⟩ u) ∧ KM T n₀ W (W1.setCell ⟨B, 0, none⟩ u) ∧ Boxed (W1.setCell ⟨B, 0, none⟩ u) B t u :=
  ⟨(KO_gr hg).trans (KeepsOthers.setCell _ _ _), (KM.gr hn hg).t ⟨(Below.refl _ _).setCell (p := ⟨B, 0, none⟩) hB _, KeepsT.set (boxed_gr h hg) ht u⟩, (boxed_gr h hg).set u⟩
/-- A round that appends to a list in a box keeps the blocks of another type. -/
theorem appended_T {T : TypeId} {W w1 : World} {n₀ B : Nat} {t e : TypeId} {size : Nat} {v v' : Value} {k : Nat} {xs : List Value} {tmp : Obj}
    (hv : Boxed W B t v) (hte : t ≠ e) (hrow : W.ownsRow n₀ e size v k xs) (hgrow : (W.alloc tmp).grownBy w1 v.ownBlock) (h1 : (t == T) = false) (h2 : (e == T) = false) : KeepsT T W (w1.setCell ⟨B, 0, none⟩ v') := by
  have hv1 : Boxed w1 B t v := (hv.alloc tmp).kept hgrow (hv.not_row hte hrow)
  refine ((KeepsT.alloc T W tmp).trans (KeepsT.grown hgrow fun j ej => ?_)).trans (KeepsT.set hv1 h1 v')
  rcases (hrow.alloc tmp).2 with ⟨rfl, _⟩ | ⟨g, cap, cur, rfl, _, hgb, _⟩
  · simp [Value.ownBlock] at ej
  · obtain rfl : g = j := by simpa [Value.ownBlock] using ej
    exact ⟨_, hgb, by simp only [isT]; exact h2⟩
end Go.Proofs.Ytphebmbapllinaa

/- Contracts of chapter 7: the program's nearest mark. -/
namespace Go.Proofs.Ytphebmbapllinaa
open Go.RowKit Go.Shelf
set_option linter.unusedVariables false
set_option linter.unusedSimpArgs false
attribute [local go_sem] Oper.semAt_some

end Go.Proofs.Ytphebmbapllinaa

/- Contracts of chapter 7: the program's marks within bounds. -/
namespace Go.Proofs.Ytphebmbapllinaa
open Go.RowKit Go.Shelf
set_option linter.unusedVariables false
set_option linter.unusedSimpArgs false
attribute [local go_sem] Oper.semAt_some

/-- The marks in range that have come. -/
def flM {zs : List P3} (f t : Int) (l : List (Mk zs)) : List Int := (unM l).filter (inR f t)
theorem flM_snoc {zs : List P3} (f t : Int) (l : List (Mk zs)) (y : Mk zs) : flM f t (l ++ [y]) = flM f t l ++ (if inR f t y.1 = true then [y.1] else []) := by
  unfold flM
  rw [unM_snoc, List.filter_append]
  congr 1
  cases h : inR f t y.1 <;> simp [h]
end Go.Proofs.Ytphebmbapllinaa

/- Contracts of chapter 7: the program's iterator over the distances of marks. -/
namespace Go.Proofs.Ytphebmbapllinaa
open Go.RowKit Go.Shelf
set_option linter.unusedVariables false
set_option linter.unusedSimpArgs false
attribute [local go_sem] Oper.semAt_some

theorem lst0_mem : ∀ (L : List Int), L ≠ [] → lst0 L ∈ L
  | [], h => absurd rfl h
  | a :: r, _ => by
    have key : ∀ (r : List Int) (a : Int), lastO a r ∈ a :: r := by
      intro r
      induction r with
      | nil => intro a; simp [lastO]
      | cons b r ih => intro a; exact List.mem_cons_of_mem _ (ih b)
    exact key r a
theorem gapF_len (s l : Int) : ∀ (r : List Int) (a : Int), (gapF s l a r).length ≤ r.length
  | [], a => by simp [gapF]
  | b :: r, a => by
    have e : gapF s l a (b :: r) = gap1 s l a b ++ gapF s l b r := rfl
    rw [e, List.length_append]
    have := gapF_len s l r b
    have h1 : (gap1 s l a b).length ≤ 1 := by unfold gap1; split <;> simp
    simp; omega
theorem gapsL_len (s l : Int) (L : List Int) : (gapsL s l L).length ≤ L.length := by
  cases L with
  | nil => simp [gapsL]
  | cons a r => have := gapF_len s l r a; simp [gapsL]; omega
/-- The middle of the last mark that has come. -/
def lmM (s l : Int) (L : List Int) : Int := if L = [] then 0 else mdl s l (lst0 L)
theorem lmM_snoc (s l : Int) (L : List Int) (y : Int) : lmM s l (L ++ [y]) = mdl s l y := by unfold lmM; rw [if_neg (by simp), lst0_snoc]
theorem RoundIn_any {m m' : Nat} {P : Program} {l : Nat} {f : FuncId} {tmps : Array Value} {assign body : Code} {w : World} {R : Ending → World → Prop}
    (h : RoundIn Fence.wide m P l f tmps assign body w R) : RoundIn Fence.wide m' P l f tmps assign body w R := ⟨h.1, fun c cs _ => h.2 c cs (room_wide _)⟩
theorem RoundIn_in {m m' : Nat} {P : Program} {l l' : Nat} {f : FuncId} {tmps : Array Value} {assign body : Code} {w : World} {R : Ending → World → Prop}
    (h : RoundIn Fence.wide m P l f tmps assign body w R) : RoundIn (Fence.wide.inRound l') m' P l f tmps assign body w R := RoundIn_any h

theorem RdX.more {bs cs : List Nat} {W W' : World} {A : Option Addr} {zs : List P3} (h : RdX bs W A zs) (hk : Below W.heap.size W W') (hc : ∀ b ∈ cs, b ∈ bs ∨ W.heap.size ≤ b) : RdX cs W' A zs := fun k hk' => by
  obtain ⟨g, o, e, hcell, hg⟩ := h k hk'
  have hlt := World.block_lt_of_cell? W _ hcell
  exact ⟨g, o, e, (hk.cell hlt).trans hcell, fun hm => by rcases hc g hm with h1 | h1; exact hg h1; simp at hlt; omega⟩
theorem grown_gr {W W' : World} (h : Gr W W') : W.grownBy W' none := ⟨h.below.os, h.below.tape, h.below.output, h.below.size, fun k hk _ => h.below.block k hk⟩
theorem AbX.gr {β : Type} {B : Nat} {J : β → World → Prop} (h : AbX B J) {s : β} {W W' : World} (hs : J s W) (hg : Gr W W') : J s W' := h s W W' none hs (grown_gr hg) (fun r e => by cases e)

end Go.Proofs.Ytphebmbapllinaa
