/- A region that draws its order, makes blocks and calls functions that only grow the world; guards: one walk of the order of the text (XLz). -/
import Derived.Test.YtddcdodbmbmdnaaLz
import Derived.Test.YtddcdodbmbmdnaaBk
namespace Go.Proofs.Ytddcdodbmbmdnaa
open Go.RowKit
set_option linter.unusedVariables false
set_option linter.unusedSimpArgs false

/-- What is told of an operation: its value; a block that it made, at or behind block b; something of both that stays true as the world grows. -/
inductive Gk where
  | is (v : Value)
  | box (b : Nat) (T : TypeId) (cs : Array Value)
  | ever (F : Value → World → Prop) (h : ∀ v w w', Gr w w' → F v w → F v w')
def Gk.tale : Gk → Tale
  | .is x => fun _ v _ => v = x
  | .box b T cs => fun _ v w => ∃ g, v = .pointer (some ⟨g, 0, none⟩) ∧ b ≤ g ∧ Blk w g T cs
  | .ever F _ => fun _ v w => F v w
def gsOf (L : List (Nat × Gk)) : Nat → Option Tale := fun i => (L.lookup i).map Gk.tale
theorem steadies_gr {C : World → Prop} (L : List (Nat × Gk)) : Steadies C (fun _ a b => Gr a b) (gsOf L) := by
  intro i F hF j _ vs v w w' _ hr hf
  unfold gsOf at hF
  cases hl : L.lookup i with
  | none => rw [hl] at hF; simp at hF
  | some k =>
    rw [hl] at hF
    simp only [Option.map_some, Option.some.injEq] at hF
    subst hF
    cases k with
    | is x => exact hf
    | box b T cs =>
      obtain ⟨g, h1, h2, h3⟩ := hf
      exact ⟨g, h1, h2, h3.gr hr⟩
    | ever F h => exact h v w w' hr hf
theorem region_grows {P : Program} {id : Nat} {Q : Exit → Act → World → Prop} {a : Act} {w : World} {l : List Oper} (L : List (Nat × Gk)) (hm : P.follows .mixedOrders = true) (hlex : Region.lexB .any l.toArray = true)
    (H : wpLoose P l.toArray .any (fun w' => Gr w w') (fun _ a b => Gr a b) (gsOf L) (fun Γ a' => ∀ w', Gr w w' → (∀ k, Γ k w') → Q .normal a' w') 0 l noneKnown a) : (Code.region id l.toArray true).wp P Q a w :=
  wp_region_loose (gsOf L) hm hlex (Gr.drew (Gr.refl w)) (steadies_gr L) H
theorem lg_call {P : Program} {w wz : World} {f : FuncId} {args : Array Value} {v : Value} {vs : List Value} (hz : Gr w wz) (h : Calls P f args wz fun e w' => e = .returned v ∧ Gr wz w') :
    Calls P f args wz fun e w'' => ∃ u, e = .returned u ∧ Gr w w'' ∧ Gr wz w'' ∧ Gk.tale (.is v) vs u w'' := h.mono fun e w' ⟨he, hg⟩ => ⟨_, he, hz.trans hg, hg, rfl⟩
theorem lg_box {w wz : World} {b : Nat} {T : TypeId} {cs : Array Value} {vs : List Value} (hz : Gr w wz) (hb : b ≤ wz.heap.size) :
    Gr w (wz.alloc (.cells cs T)) ∧ Gr wz (wz.alloc (.cells cs T)) ∧ Gk.tale (.box b T cs) vs (.pointer (some ⟨wz.heap.size, 0, none⟩)) (wz.alloc (.cells cs T)) :=
  ⟨hz.alloc _, (Gr.refl _).alloc _, _, rfl, hb, Blk.new _ _ _⟩
theorem lg_ever {P : Program} {w wz : World} {f : FuncId} {args : Array Value} {F : Value → World → Prop} {hF : ∀ v w w', Gr w w' → F v w → F v w'} {vs : List Value} (hz : Gr w wz) (h : Calls P f args wz fun e w' => ∃ v, e = .returned v ∧ F v w' ∧ Gr wz w') :
    Calls P f args wz fun e w'' => ∃ u, e = .returned u ∧ Gr w w'' ∧ Gr wz w'' ∧ Gk.tale (.ever F hF) vs u w'' := h.mono fun e w' ⟨v, he, hf, hg⟩ => ⟨v, he, hz.trans hg, hg, hf⟩
theorem cell_up {w v : World} {n i : Nat} {x : Value} (hg : Gr w v) (h : w.cell? ⟨n, i, none⟩ = some x) : v.cell? ⟨n, i, none⟩ = some x := (hg.below.cell (p := ⟨n, i, none⟩) (World.block_lt_of_cell? w _ h)).trans h
end Go.Proofs.Ytddcdodbmbmdnaa
