/- A region that draws its order, makes blocks and calls functions that only grow the world; guards: one walk of the order of the text (XLz). -/
import Derived.Test.YtphebmbapllinaaDoorLz
import Derived.Test.YtphebmbapllinaaDoorBk
namespace Go.Proofs.YtphebmbapllinaaDoor
open Go.RowKit
set_option linter.unusedVariables false
set_option linter.unusedSimpArgs false

/-- What is told of an operation: its value; a block that it made, at or behind block b; something of both that stays true as the world grows. -/
inductive Gk where
  | is (v : Value)
  | box (b : Nat) (T : TypeId) (cs : Array Value)
  | ever (F : Value → World → Prop) (h : ∀ v w w', Gr w w' → F v w → F v w')
def Gk.tale : Gk → Tale
  | .is x => fun _ v _ => v = x
  | .box b T cs => fun _ v w => ∃ g, v = .pointer (some ⟨g, 0, none⟩) ∧ b ≤ g ∧ Blk w g T cs
  | .ever F _ => fun _ v w => F v w
def gsOf (L : List (Nat × Gk)) : Nat → Option Tale := fun i => (L.lookup i).map Gk.tale
theorem steadies_gr {C : World → Prop} (L : List (Nat × Gk)) : Steadies C (fun _ a b => Gr a b) (gsOf L) := by
  intro i F hF j _ vs v w w' _ hr hf
  unfold gsOf at hF
  cases hl : L.lookup i with
  | none => rw [hl] at hF; simp at hF
  | some k =>
    rw [hl] at hF
    simp only [Option.map_some, Option.some.injEq] at hF
    subst hF
    cases k with
    | is x => exact hf
    | box b T cs =>
      obtain ⟨g, h1, h2, h3⟩ := hf
      exact ⟨g, h1, h2, h3.gr hr⟩
    | ever F h => exact h v w w' hr hf
theorem region_grows {P : Program} {id : Nat} {Q : Exit → Act → World → Prop} {a : Act} {w : World} {l : List Oper} (L : List (Nat × Gk)) (hm : P.follows .mixedOrders = true) (hlex : Region.lexB .any l.toArray = true)
    (H : wpLoose P l.toArray .any (fun w' => Gr w w') (fun _ a b => Gr a b) (gsOf L) (fun Γ a' => ∀ w', Gr w w' → (∀ k, Γ k w') → Q .normal a' w') 0 l noneKnown a) : (Code.region id l.toArray true).wp P Q a w :=
  wp_region_loose (gsOf L) hm hlex (Gr.drew (Gr.refl w)) (steadies_gr L) H
theorem lg_call {P : Program} {w wz : World} {f : FuncId} {args : Array Value} {v : Value} {vs : List Value} (hz : Gr w wz) (h : Calls P f args wz fun e w' => e = .returned v ∧ Gr wz w') :
    Calls P f args wz fun e w'' => ∃ u, e = .returned u ∧ Gr w w'' ∧ Gr wz w'' ∧ Gk.tale (.is v) vs u w'' := h.mono fun e w' ⟨he, hg⟩ => ⟨_, he, hz.trans hg, hg, rfl⟩
theorem lg_box {w wz : World} {b : Nat} {T : TypeId} {cs : Array Value} {vs : List Value} (hz : Gr w wz) (hb : b ≤ wz.heap.size) :
    Gr w (wz.alloc (.cells cs T)) ∧ Gr wz (wz.alloc (.cells cs T)) ∧ Gk.tale (.box b T cs) vs (.pointer (some ⟨wz.heap.size, 0, none⟩)) (wz.alloc (.cells cs T)) :=
  ⟨hz.alloc _, (Gr.refl _).alloc _, _, rfl, hb, Blk.new _ _ _⟩
theorem lg_ever {P : Program} {w wz : World} {f : FuncId} {args : Array Value} {F : Value → World → Prop} {hF : ∀ v w w', Gr w w' → F v w → F v w'} {vs : List Value} (hz : Gr w wz) (h : Calls P f args wz fun e w' => ∃ v, e = .returned v ∧ F v w' ∧ Gr wz w') :
    Calls P f args wz fun e w'' => ∃ u, e = .returned u ∧ Gr w w'' ∧ Gr wz w'' ∧ Gk.tale (.ever F hF) vs u w'' := h.mono fun e w' ⟨v, he, hf, hg⟩ => ⟨v, he, hz.trans hg, hg, hf⟩
theorem cell_up {w v : World} {n i : Nat} {x : Value} (hg : Gr w v) (h : w.cell? ⟨n, i, none⟩ = some x) : v.cell? ⟨n, i, none⟩ = some x := (hg.below.cell (p := ⟨n, i, none⟩) (World.block_lt_of_cell? w _ h)).trans h

/- .. and with one operation that writes into a block that is there: block g. -/
/-- Grown, but for block g. -/
structure Gx (g : Nat) (w w' : World) : Prop where
  os : w'.os = w.os
  tape : w'.tape = w.tape
  output : w'.output = w.output
  size : w.heap.size ≤ w'.heap.size
  block : ∀ k, k < w.heap.size → k ≠ g → w'.heap[k]? = w.heap[k]?
theorem Gx.of {g : Nat} {w w' : World} (h : Gr w w') : Gx g w w' := let b := h.below; ⟨b.os, b.tape, b.output, b.size, fun k hk _ => b.block k hk⟩
theorem Gx.trans {g : Nat} {u v w : World} (h : Gx g u v) (h' : Gx g v w) : Gx g u w :=
  ⟨h'.os.trans h.os, h'.tape.trans h.tape, h'.output.trans h.output, Nat.le_trans h.size h'.size, fun k hk hg => (h'.block k (Nat.lt_of_lt_of_le hk h.size) hg).trans (h.block k hk hg)⟩
theorem Gx.set {g : Nat} {w w' : World} (h : Gx g w w') (i : Nat) (x : Value) : Gx g w (w'.setCell ⟨g, i, none⟩ x) :=
  ⟨h.os, h.tape, h.output, by have := h.size; simpa using this, fun k hk hg => (heap_setCell_other w' ⟨g, i, none⟩ k x hg).trans (h.block k hk hg)⟩
theorem Gx.keeps {g k : Nat} {w w' : World} {t : TypeId} {cs : Array Value} (h : Gx g w w') (hb : Blk w k t cs) (hk : k ≠ g) : Blk w' k t cs := (h.block k hb.lt hk).trans hb
theorem Gx.cell {g k i : Nat} {w w' : World} {x : Value} (h : Gx g w w') (hc : w.cell? ⟨k, i, none⟩ = some x) (hk : k ≠ g) : w'.cell? ⟨k, i, none⟩ = some x := (World.cell?_of_block (h.block k (World.block_lt_of_cell? w _ hc) hk)).trans hc
theorem Gx.below {g B : Nat} {w w' : World} (h : Gx g w w') (hB : B ≤ g) (hw : B ≤ w.heap.size) : Below B w w' := ⟨h.os, h.tape, h.output, h.size, fun k hk => h.block k (by omega) (by omega)⟩
def rWr (k g : Nat) (j : Nat) (a b : World) : Prop := if j = k then (b.heap.size = a.heap.size ∧ Gx g a b) else Gr a b
theorem rWr_at (k g : Nat) (a b : World) : rWr k g k a b = (b.heap.size = a.heap.size ∧ Gx g a b) := if_pos rfl
theorem rWr_ne {k j : Nat} (g : Nat) (h : j ≠ k) (a b : World) : rWr k g j a b = Gr a b := if_neg h
def wsOf (k g : Nat) (T : TypeId) (cs : Array Value) (L : List (Nat × Value)) : Nat → Option Tale := fun i => if i = k then some (fun _ _ w => Blk w g T cs) else (L.lookup i).map (fun x _ v _ => v = x)
theorem steadies_wr {C : World → Prop} (k g : Nat) (T : TypeId) (cs : Array Value) (L : List (Nat × Value)) : Steadies C (rWr k g) (wsOf k g T cs L) := by
  intro i F hF j hji vs v w w' _ hr hf
  unfold wsOf at hF
  by_cases hi : i = k
  · subst hi
    rw [if_pos rfl] at hF
    simp only [Option.some.injEq] at hF
    subst hF
    rw [rWr_ne g hji] at hr
    exact Blk.gr hf hr
  · rw [if_neg hi] at hF
    cases hl : L.lookup i with
    | none => rw [hl] at hF; simp at hF
    | some x =>
      rw [hl] at hF
      simp only [Option.map_some, Option.some.injEq] at hF
      subst hF
      exact hf
/-- The worlds of such a region. -/
structure CW (g : Nat) (p : World → Prop) (w w' : World) : Prop where
  gx : Gx g w w'
  at' : p w'
theorem region_writes {P : Program} {id : Nat} {Q : Exit → Act → World → Prop} {a : Act} {w : World} {l : List Oper} (k g : Nat) (T : TypeId) (cs : Array Value) (L : List (Nat × Value)) (p : World → Prop) (hp : p w.drew) (hm : P.follows .mixedOrders = true) (hlex : Region.lexB .any l.toArray = true)
    (H : wpLoose P l.toArray .any (CW g p w) (rWr k g) (wsOf k g T cs L) (fun Γ a' => ∀ w', CW g p w w' → (∀ k, Γ k w') → Q .normal a' w') 0 l noneKnown a) : (Code.region id l.toArray true).wp P Q a w :=
  wp_region_loose (wsOf k g T cs L) hm hlex ⟨Gx.of (Gr.drew (Gr.refl w)), hp⟩ (steadies_wr k g T cs L) H
theorem lw_call {P : Program} {w wz : World} {k g j : Nat} {p : World → Prop} {f : FuncId} {args : Array Value} {v : Value} (hj : j ≠ k) (hp : ∀ a b, Gr a b → p a → p b) (hz : CW g p w wz) (h : Calls P f args wz fun e w' => e = .returned v ∧ Gr wz w') :
    Calls P f args wz fun e w'' => ∃ u, e = .returned u ∧ CW g p w w'' ∧ rWr k g j wz w'' ∧ u = v :=
  h.mono fun e w' ⟨he, hg⟩ => ⟨_, he, ⟨hz.gx.trans (Gx.of hg), hp _ _ hg hz.at'⟩, by rw [rWr_ne g hj]; exact hg, rfl⟩
theorem lw_store {w wz w' : World} {k g : Nat} {T : TypeId} {cs : Array Value} {p : World → Prop} (hz : CW g p w wz) (hs : w'.heap.size = wz.heap.size) (hg : Gx g wz w') (hp : p w') (hb : Blk w' g T cs) : CW g p w w' ∧ rWr k g k wz w' ∧ Blk w' g T cs :=
  ⟨⟨hz.gx.trans hg, hp⟩, by rw [rWr_at]; exact ⟨hs, hg⟩, hb⟩
theorem Blk.five {w : World} {g : Nat} {t : TypeId} {a b c d e : Value} (h : Blk w g t #[a, b, c, d, e]) : w.cell? ⟨g, 0, none⟩ = some a ∧ w.cell? ⟨g, 1, none⟩ = some b ∧ w.cell? ⟨g, 2, none⟩ = some c ∧ w.cell? ⟨g, 3, none⟩ = some d ∧ w.cell? ⟨g, 4, none⟩ = some e ∧ (∀ i, w.frozen? ⟨g, i, none⟩ = false) := by
  have c0 := cell_of_row w g 0 _ _ _ h
  have c1 := cell_of_row w g 1 _ _ _ h
  have c2 := cell_of_row w g 2 _ _ _ h
  have c3 := cell_of_row w g 3 _ _ _ h
  have c4 := cell_of_row w g 4 _ _ _ h
  simp at c0 c1 c2 c3 c4
  exact ⟨c0, c1, c2, c3, c4, fun i => free_row h i⟩
end Go.Proofs.YtphebmbapllinaaDoor
