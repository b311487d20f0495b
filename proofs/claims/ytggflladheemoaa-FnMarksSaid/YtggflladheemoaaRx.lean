/- A loop over an iterator that keeps cells of its own between two rounds: its contract and the caller's law. -/
import Derived.RangeFuncNested
import Derived.RangeFuncFrom
import Derived.RangeFuncBound
import Derived.RangeFuncCalls
import Derived.RangeFuncLeaves
import Derived.WalkKit
import Derived.OwnWalkIn
import Derived.Test.YtggflladheemoaaRows
namespace Go.Proofs.Ytggflladheemoaa
open Go.RowKit
set_option linter.unusedVariables false

/-- All that lay lies as it lay, save the blocks of a list. -/
structure Kx (bs : List Nat) (W W' : World) : Prop where
  os : W'.os = W.os
  tape : W'.tape = W.tape
  output : W'.output = W.output
  size : W.heap.size ≤ W'.heap.size
  same : ∀ k, k < W.heap.size → k ∉ bs → W'.heap[k]? = W.heap[k]?
theorem Kx.refl (bs : List Nat) (W : World) : Kx bs W W := ⟨rfl, rfl, rfl, Nat.le_refl _, fun _ _ _ => rfl⟩
theorem Kx.trans {bs : List Nat} {A B C : World} (h : Kx bs A B) (k : Kx bs B C) : Kx bs A C :=
  ⟨k.os.trans h.os, k.tape.trans h.tape, k.output.trans h.output, Nat.le_trans h.size k.size, fun i hi hb => (k.same i (Nat.lt_of_lt_of_le hi h.size) hb).trans (h.same i hi hb)⟩
theorem Kx.grown {bs : List Nat} {W W' : World} {row : Option Nat} (hg : W.grownBy W' row) (hr : ∀ r, row = some r → r ∈ bs) : Kx bs W W' :=
  ⟨hg.os, hg.tape, hg.output, hg.size, fun k hk hb => hg.block k hk (fun e => hb (hr k e.symm))⟩
theorem Kx.more {bs cs : List Nat} {W W' : World} (h : Kx bs W W') (hc : ∀ b ∈ bs, b ∈ cs) : Kx cs W W' := ⟨h.os, h.tape, h.output, h.size, fun k hk hb => h.same k hk (fun e => hb (hc k e))⟩
theorem Kx.below {bs : List Nat} {W W' : World} (h : Kx bs W W') {B : Nat} (hB : B ≤ W.heap.size) (hb : ∀ b ∈ bs, B ≤ b) : Below B W W' :=
  ⟨h.os, h.tape, h.output, h.size, fun k hk => h.same k (Nat.lt_of_lt_of_le hk hB) (fun e => by have := hb k e; omega)⟩
theorem Kx.of_below {bs : List Nat} {W W' : World} (h : Below W.heap.size W W') : Kx bs W W' := ⟨h.os, h.tape, h.output, h.size, fun k hk _ => h.block k hk⟩
theorem Kx.boxed {bs : List Nat} {W W' : World} (h : Kx bs W W') {B : Nat} {t : TypeId} {v : Value} (hb : Boxed W B t v) (hn : B ∉ bs) : Boxed W' B t v := (h.same B hb.lt hn).trans hb
theorem Kx.set (bs : List Nat) (W : World) {B : Nat} (hB : B ∈ bs) (v : Value) : Kx bs W (W.setCell ⟨B, 0, none⟩ v) := Kx.grown (grownBy_setCell' W B v) (fun r e => by cases e; exact hB)

/-- Whatever is turned at or beyond B: it abides. -/
def AbX {β : Type} (B : Nat) (J : β → World → Prop) : Prop := ∀ s W W' row, J s W → W.grownBy W' row → (∀ r, row = some r → B ≤ r) → J s W'
theorem AbX.and {β : Type} {B : Nat} {I J : β → World → Prop} (h : AbX B I) (k : AbX B J) : AbX B (fun s W => I s W ∧ J s W) := fun s W W' row hs hg hr => ⟨h s W W' row hs.1 hg hr, k s W W' row hs.2 hg hr⟩
theorem AbX.alloc {β : Type} {B : Nat} {J : β → World → Prop} (h : AbX B J) {s : β} {W : World} (o : Obj) (hs : J s W) : J s (W.alloc o) := h s W _ none hs (World.grownBy_alloc W o none) (fun r e => by cases e)
theorem AbX.putObj {β : Type} {B : Nat} {J : β → World → Prop} (h : AbX B J) {s : β} {W : World} {l : Nat} (o : Obj) (hs : J s W) (hl : B ≤ l) : J s (W.putObj l o) := h s W _ (some l) hs (grownBy_putObj' W l o) (fun r e => by cases e; exact hl)
theorem abX_boxed {β : Type} {B b : Nat} (hb : b < B) (t : TypeId) (f : β → Value) : AbX B (fun s W => Boxed W b t (f s)) := fun s W W' row hs hg hr => Boxed.kept hs hg (fun e => by have := hr b e.symm; omega)
theorem abX_pure {β : Type} (B : Nat) (p : β → Prop) : AbX B (fun s (_ : World) => p s) := fun _ _ _ _ hs _ _ => hs
theorem abX_below {β : Type} {B n₀ : Nat} {w : World} (hn : n₀ ≤ B) (hw : n₀ ≤ w.heap.size) : AbX B (fun (_ : β) W => Below n₀ w W) := fun s W W' row hs hg hr => hs.grown hg (Nat.le_trans hw hs.size) (fun k e => Nat.le_trans hn (hr k e))
theorem AbX.mono {β : Type} {B C : Nat} {J : β → World → Prop} (h : AbX B J) (hc : B ≤ C) : AbX C J := fun s W W' row hs hg hr => h s W W' row hs hg (fun r e => Nat.le_trans hc (hr r e))

/-- The iterator's contract: each round keeps all but the blocks of a list; the iterator may turn whatever it has laid itself. -/
def SeqX {α : Type} (F : Fence) (n : Nat) (P : Program) (g : Nat) (lb : Array Value) (encs : α → Array Value) (bs : List Nat) (S Sp : List α → Prop) (N : Nat) (w : World) : Prop :=
  ∀ (l : Nat) (J Jx : List α → World → Prop) (W : World), Below w.heap.size w W → (∀ b ∈ bs, b < W.heap.size) → AbX W.heap.size J → AbX W.heap.size Jx →
    (∀ pre x W1, J pre W1 → pre.length < N → YieldAt F (n - 1) P l (encs x) W1 fun e W' =>
      ((e = .returned (.bool true) ∧ J (pre ++ [x]) W') ∨ (e = .returned (.bool false) ∧ Jx (pre ++ [x]) W')) ∧ Kx bs W1 W') →
    J [] W →
    CallsIn F n P g (#[.func (.yield l) #[] #[]] ++ lb) W fun e W' => (∃ v, e = .returned v) ∧ ((∃ xs, S xs ∧ J xs W') ∨ (∃ pre, Sp pre ∧ Jx pre W'))

/-- How a round's body may be left. -/
def postX {α : Type} (bs : List Nat) (I Ix : List α → World → Prop) (xs : List α) (W : World) : Exit → Act → World → Prop
  | .normal, _, W' => Kx bs W W' ∧ I xs W'
  | .ret, _, W' => Kx bs W W' ∧ Ix xs W'
  | _, _, _ => False

theorem rangeX {F : Fence} {n : Nat} {P : Program} {α : Type} {g : Operand} {ps : Array Tmp} {assign body : Code} {Q : Exit → Act → World → Prop} {a : Act} {w : World}
    (hro : F.round = none) (h1 : 1 ≤ n) {gf : Nat} {lb : Array Value} (hg : a.eval g = .func (.func gf) #[] lb) (hFg : F.fn gf) (eg : ∀ args w, (callFunc gf args).run P w = .ok (.enter gf args) w)
    {encs : α → Array Value} {bs : List Nat} {S Sp : List α → Prop} {N : Nat} {w0 : World} (hbs : ∀ b ∈ bs, b < w.heap.size) (hseq : SeqX F (n - 1) P gf lb encs ((w.heap.size + 1) :: bs) S Sp N w0) (hb0 : Below w0.heap.size w0 w) (hps : ∀ x, (encs x).size = ps.size)
    (I Ix : List α → World → Prop) (hI : AbX w.heap.size I) (hIx : AbX w.heap.size Ix) (h0 : I [] w) (a₁ : α → Act)
    (hassign : ∀ (l : Nat) (x : α) (W : World) (K : Act → World → Prop), K (a₁ x) W →
      assign.wpIn (F.inRound l) (n - 1 - 1) P (Exit.then K (fun _ _ _ => False)) { tmps := (ps.zip (encs x)).foldl (fun t (p, v) => t.setIfInBounds p v) a.tmps, defers := [] } W)
    (hbody : ∀ (l : Nat) (pre : List α) (x : α) (W : World), I pre W → pre.length < N → w.heap.size ≤ W.heap.size → body.wpIn (F.inRound l) (n - 1 - 1) P (postX bs I Ix (pre ++ [x]) W) (a₁ x) W)
    (hdone : ∀ (D : Nat) (xs : List α) (W : World), w.heap.size ≤ D → S xs → I xs W → W.heap[D]? = some (.deferred (some [])) → Q .normal { a with defers := { target := .collected D, args := #[] } :: a.defers } W)
    (hstop : ∀ (D : Nat) (pre : List α) (W : World), w.heap.size ≤ D → Sp pre → Ix pre W → W.heap[D]? = some (.deferred (some [])) → Code.ret.wpIn F n P Q { a with defers := { target := .collected D, args := #[] } :: a.defers } W) :
    (Code.rangeFunc g ps assign body).wpIn F n P Q a w := by
  refine wpIn_rangeFunc fun fn hfn => ?_
  rw [hro]
  obtain ⟨s, hs⟩ : ∃ s, w.heap.size = s := ⟨_, rfl⟩
  have hr0 := run_enterLoop_outer (P := P) (w := w) fn a.tmps ps assign body
  obtain ⟨R, hR⟩ : ∃ R : LoopState → Option Code → Loop, R = fun st pe => { state := st, pending := pe, fn, tmps := a.tmps, params := ps, assign, body, defers := s } := ⟨_, rfl⟩
  -- the two blocks of the loop's own, and that they lie
  obtain ⟨G, hG⟩ : ∃ G : LoopState → Option Code → World → Prop, G = fun st pe W => W.heap[s + 1]? = some (.loop (R st pe)) ∧ W.heap[s]? = some (.deferred (some [])) := ⟨_, rfl⟩
  have hlt : ∀ {st pe W}, G st pe W → s + 1 < W.heap.size := fun h => by rw [hG] at h; exact (Array.getElem?_eq_some_iff.1 h.1).1
  have hput : ∀ {st pe W} (st' : LoopState) (pe' : Option Code), G st pe W → G st' pe' (W.putObj (s + 1) (.loop (R st' pe'))) := fun st' pe' h => by
    have hl := hlt h
    rw [hG] at h ⊢
    exact ⟨World.putObj_heap_same hl, (World.putObj_heap_other (by omega)).trans h.2⟩
  have hkeep : ∀ {st pe W W'}, G st pe W → W'.heap[s + 1]? = W.heap[s + 1]? → W'.heap[s]? = W.heap[s]? → G st pe W' := fun h e1 e2 => by
    rw [hG] at h ⊢
    exact ⟨e1.trans h.1, e2.trans h.2⟩
  obtain ⟨W1, hW1⟩ : ∃ W1, (w.alloc (.deferred (some []))).alloc (.loop (R .ready none)) = W1 := ⟨_, rfl⟩
  have hsz : W1.heap.size = s + 1 + 1 := by rw [← hW1, World.size_alloc, World.size_alloc, hs]
  have hG1 : G .ready none W1 := by
    have e1 := World.alloc_heap_new (w.alloc (.deferred (some []))) (.loop (R .ready none))
    have e0 := World.alloc_heap_new w (.deferred (some []))
    rw [hs] at e0
    have e2 : ((w.alloc (.deferred (some []))).alloc (.loop (R .ready none))).heap[s]? = some (.deferred (some [])) := (Below.heap_alloc _ _ s (by rw [World.size_alloc]; omega)).trans e0
    rw [World.size_alloc, hs, hW1] at e1
    rw [hW1] at e2
    rw [hG]
    exact ⟨e1, e2⟩
  have hI1 : I [] W1 := by rw [← hW1]; exact hI.alloc _ (hI.alloc _ h0)
  have hb1 : Below w0.heap.size w0 W1 := by
    rw [← hW1]; exact (hb0.alloc hb0.size _).alloc (by have := hb0.size; simp; omega) _
  refine ⟨s + 1, [{ target := .collected s, args := #[] }], W1, { target := .fn (.func gf) lb, args := #[.func (.yield (s + 1)) #[] #[]] }, W1, gf, #[.func (.yield (s + 1)) #[] #[]] ++ lb, W1, ?_, ?_, ?_, ?_, fun _ => h1, ?_⟩
  · rw [← hW1, hR, ← hs]; exact hr0
  · simp only [resolve, hg]
    simp [go_sem]
  · intro f' hf'; simp [Target.leads] at hf'; subst hf'; exact hFg
  · simp [invoke, go_sem, eg]
  rw [hs] at hI hIx hseq hbs
  refine (hseq (s + 1) (fun pre W => I pre W ∧ G .ready none W) (fun pre W => Ix pre W ∧ G .done (some .ret) W) W1 hb1 ?_ ?_ ?_ ?_ ⟨hI1, hG1⟩).mono ?_
  · intro b hb
    rcases List.mem_cons.1 hb with rfl | hb
    · omega
    · have := hbs b hb; omega
  · rintro t A B row ⟨hi, hg'⟩ hgr hr
    have := hlt hg'
    exact ⟨hI t A B row hi hgr (fun r e => by have := hr r e; omega), hkeep hg' (hgr.block _ (by omega) (fun e => by have := hr _ e.symm; omega)) (hgr.block _ (by omega) (fun e => by have := hr _ e.symm; omega))⟩
  · rintro t A B row ⟨hi, hg'⟩ hgr hr
    have := hlt hg'
    exact ⟨hIx t A B row hi hgr (fun r e => by have := hr r e; omega), hkeep hg' (hgr.block _ (by omega) (fun e => by have := hr _ e.symm; omega)) (hgr.block _ (by omega) (fun e => by have := hr _ e.symm; omega))⟩
  · rintro pre x W ⟨hi, hg'⟩ hlen
    have hg2 := hg'
    rw [hG] at hg2
    have hy := run_yield (P := P) (args := encs x) hg2.1 (by rw [hR]; exact hps x)
    rw [hR] at hy
    refine ⟨fn, _, assign, body, hy, roundIn_of_wpIn hfn (hassign _ x W _ ⟨_, run_beginRound hg2.1 (by rw [hR]), ?_⟩)⟩
    have e1 : ({ R .ready none with state := .busy } : Loop) = R .busy none := by rw [hR]
    rw [e1]
    have hgb := hput .busy none hg'
    have hs2 := hlt hgb
    have hk1 : Kx ((s + 1) :: bs) W (W.putObj (s + 1) (.loop (R .busy none))) := Kx.grown (grownBy_putObj' W _ _) (fun r e => by cases e; simp)
    refine wpIn_mono (hbody _ pre x _ (hI.putObj _ hi (by omega)) hlen (by omega)) ?_
    have fin : ∀ (jump : Option Code) (W3 : World), Kx bs (W.putObj (s + 1) (.loop (R .busy none))) W3 →
        (Instr.endRound (s + 1) jump).run P W3 = .ok (.bool jump.isNone) (W3.putObj (s + 1) (.loop (R (if jump.isNone then .ready else .done) jump))) ∧
        G (if jump.isNone then .ready else .done) jump (W3.putObj (s + 1) (.loop (R (if jump.isNone then .ready else .done) jump))) ∧ Kx ((s + 1) :: bs) W (W3.putObj (s + 1) (.loop (R (if jump.isNone then .ready else .done) jump))) := fun jump W3 hk3 => by
      have hg3 : G .busy none W3 := hkeep hgb (hk3.same _ (by omega) (fun e => by have := hbs _ e; omega)) (hk3.same _ (by omega) (fun e => by have := hbs _ e; omega))
      have hg4 := hg3
      rw [hG] at hg4
      have hend := run_endRound (P := P) jump hg4.1
      have e2 : ({ R .busy none with state := (if jump.isNone then .ready else .done), pending := jump } : Loop) = R (if jump.isNone then .ready else .done) jump := by rw [hR]
      rw [e2] at hend
      exact ⟨hend, hput _ _ hg3, hk1.trans ((hk3.more (fun b hb => List.mem_cons_of_mem _ hb)).trans (Kx.grown (grownBy_putObj' _ _ _) (fun r e => by cases e; simp)))⟩
    rintro e a3 W3 hp
    cases e with
    | normal =>
      obtain ⟨hk3, hi3⟩ := hp
      obtain ⟨hr, hg4, hk4⟩ := fin none W3 hk3
      exact ⟨_, _, hr, .inl ⟨rfl, hI.putObj _ hi3 (by omega), hg4⟩, hk4⟩
    | ret =>
      obtain ⟨hk3, hi3⟩ := hp
      obtain ⟨hr, hg4, hk4⟩ := fin (some .ret) W3 hk3
      exact ⟨_, _, hr, .inr ⟨rfl, hIx.putObj _ hi3 (by omega), hg4⟩, hk4⟩
    | _ => exact hp.elim
  · rintro e W2 ⟨⟨v, rfl⟩, (⟨xs, hS, hi, hg'⟩ | ⟨pre, hSp, hi, hg'⟩)⟩
    · have hg2 := hg'
      rw [hG] at hg2
      have hend := run_endLoop (P := P) hg2.1 (by rw [hR]; simp)
      rw [hR] at hend
      refine ⟨none, _, hend, hdone s xs _ (by omega) hS (hI.putObj _ hi (by omega)) ?_⟩
      exact (World.putObj_heap_other (by omega)).trans hg2.2
    · have hg2 := hg'
      rw [hG] at hg2
      have hend := run_endLoop (P := P) hg2.1 (by rw [hR]; simp)
      rw [hR] at hend
      refine ⟨some .ret, _, hend, hstop s pre _ (by omega) hSp (hIx.putObj _ hi (by omega)) ?_⟩
      exact (World.putObj_heap_other (by omega)).trans hg2.2
end Go.Proofs.Ytggflladheemoaa
