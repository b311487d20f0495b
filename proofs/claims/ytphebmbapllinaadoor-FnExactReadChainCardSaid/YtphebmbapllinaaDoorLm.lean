/- A region that draws its order, whose calls grow the world, and which makes a local of type T and stores a result into it ('a, b := f(g(x), h(y))'): one walk (XLz). -/
import Derived.Test.YtphebmbapllinaaDoorLw
import Derived.Test.YtphebmbapllinaaDoorSA
namespace Go.Proofs.YtphebmbapllinaaDoor
open Go.RowKit
set_option linter.unusedVariables false
set_option linter.unusedSimpArgs false

/-- Nothing but blocks of type T has changed, and they are as large as they were. -/
structure Ty (T : TypeId) (w w' : World) : Prop where
  os : w'.os = w.os
  tape : w'.tape = w.tape
  output : w'.output = w.output
  size : w'.heap.size = w.heap.size
  other : ∀ k t cs, t ≠ T → Blk w k t cs → Blk w' k t cs
  own : ∀ k cs, Blk w k T cs → ∃ cs' : Array Value, cs'.size = cs.size ∧ Blk w' k T cs'
theorem Ty.refl (T : TypeId) (w : World) : Ty T w w := ⟨rfl, rfl, rfl, rfl, fun _ _ _ _ h => h, fun _ cs h => ⟨cs, rfl, h⟩⟩
theorem blk_type {w : World} {g : Nat} {t u : TypeId} {cs ds : Array Value} (h : Blk w g t cs) (h' : Blk w g u ds) : t = u := by
  unfold Blk at h h'
  rw [h] at h'
  injection h' with h'
  injection h' with _ h2 _
theorem Ty.set {T : TypeId} {w w' : World} {g : Nat} {cs : Array Value} (h : Ty T w w') (hB : Blk w' g T cs) (i : Nat) (x : Value) : Ty T w (w'.setCell ⟨g, i, none⟩ x) :=
  ⟨h.os, h.tape, h.output, by have := h.size; simpa using this, fun k t ds ht hk => (h.other k t ds ht hk).far (a := ⟨g, i, none⟩) (fun e => ht (blk_type (h.other k t ds ht hk) ((show g = k from e) ▸ hB))) x, fun k ds hk => by
    obtain ⟨es, h1, h2⟩ := h.own k ds hk
    by_cases e : g = k
    · subst e; exact ⟨es.setIfInBounds i x, by simpa using h1, h2.set i x⟩
    · exact ⟨es, h1, h2.far (a := ⟨g, i, none⟩) e x⟩⟩
/-- What is told of an operation. -/
inductive Mk11 (T : TypeId) where
  | is (v : Value)
  | ever (F : Value → World → Prop) (h : ∀ v w w', Gr w w' → F v w → F v w') (h' : ∀ v w w', Ty T w w' → F v w → F v w')
  | made (b n : Nat)
def Mk11.tale {T : TypeId} : Mk11 T → Tale
  | .is x => fun _ v _ => v = x
  | .ever F _ _ => fun _ v w => F v w
  | .made b n => fun _ v w => ∃ g, v = .pointer (some ⟨g, 0, none⟩) ∧ b ≤ g ∧ ∃ cs : Array Value, cs.size = n ∧ Blk w g T cs
def msOf (j0 : Nat) (T : TypeId) (cs : Array Value) (L : List (Nat × Mk11 T)) : Nat → Option Tale := fun i => if i = j0 then some (fun vs _ w => ∃ g, vs.getD 0 undef = .pointer (some ⟨g, 0, none⟩) ∧ Blk w g T cs) else (L.lookup i).map Mk11.tale
def rMx (j0 : Nat) (T : TypeId) (j : Nat) (a b : World) : Prop := if j = j0 then Ty T a b else Gr a b
theorem rMx_at (j0 : Nat) (T : TypeId) (a b : World) : rMx j0 T j0 a b = Ty T a b := if_pos rfl
theorem rMx_ne {j0 j : Nat} (T : TypeId) (h : j ≠ j0) (a b : World) : rMx j0 T j a b = Gr a b := if_neg h
theorem steadies_mx {C : World → Prop} (j0 : Nat) (T : TypeId) (cs : Array Value) (L : List (Nat × Mk11 T)) : Steadies C (rMx j0 T) (msOf j0 T cs L) := by
  intro i F hF j hji vs v w w' _ hr hf
  unfold msOf at hF
  by_cases hi : i = j0
  · subst hi
    rw [if_pos rfl] at hF
    simp only [Option.some.injEq] at hF
    subst hF
    rw [rMx_ne T hji] at hr
    obtain ⟨g, h1, h2⟩ := hf
    exact ⟨g, h1, h2.gr hr⟩
  · rw [if_neg hi] at hF
    cases hl : L.lookup i with
    | none => rw [hl] at hF; simp at hF
    | some k =>
      rw [hl] at hF
      simp only [Option.map_some, Option.some.injEq] at hF
      subst hF
      by_cases hj : j = j0
      · subst hj
        rw [rMx_at] at hr
        cases k with
        | is x => exact hf
        | ever F h h' => exact h' v w w' hr hf
        | made b n =>
          obtain ⟨g, h1, h2, ds, h3, h4⟩ := hf
          obtain ⟨es, h5, h6⟩ := hr.own g ds h4
          exact ⟨g, h1, h2, es, h5.trans h3, h6⟩
      · rw [rMx_ne T hj] at hr
        cases k with
        | is x => exact hf
        | ever F h h' => exact h v w w' hr hf
        | made b n =>
          obtain ⟨g, h1, h2, ds, h3, h4⟩ := hf
          exact ⟨g, h1, h2, ds, h3, h4.gr hr⟩
theorem region_mix {P : Program} {id : Nat} {Q : Exit → Act → World → Prop} {a : Act} {w : World} {l : List Oper} (j0 : Nat) (T : TypeId) (cs : Array Value) (L : List (Nat × Mk11 T)) (hm : P.follows .mixedOrders = true) (hlex : Region.lexB .any l.toArray = true)
    (H : wpLoose P l.toArray .any (fun w' => Gr w w') (rMx j0 T) (msOf j0 T cs L) (fun Γ a' => ∀ w', Gr w w' → (∀ k, Γ k w') → Q .normal a' w') 0 l noneKnown a) : (Code.region id l.toArray true).wp P Q a w :=
  wp_region_loose (msOf j0 T cs L) hm hlex (Gr.drew (Gr.refl w)) (steadies_mx j0 T cs L) H
theorem lm_call {P : Program} {w wz : World} {j0 j : Nat} {T : TypeId} {f : FuncId} {args : Array Value} {v : Value} (hj : j ≠ j0) (hz : Gr w wz) (h : Calls P f args wz fun e w' => e = .returned v ∧ Gr wz w') :
    Calls P f args wz fun e w'' => ∃ u, e = .returned u ∧ Gr w w'' ∧ rMx j0 T j wz w'' ∧ u = v :=
  h.mono fun e w' ⟨he, hg⟩ => ⟨_, he, hz.trans hg, by rw [rMx_ne T hj]; exact hg, rfl⟩
theorem lm_ever {P : Program} {w wz : World} {j0 j : Nat} {T : TypeId} {f : FuncId} {args : Array Value} {F : Value → World → Prop} (hj : j ≠ j0) (hz : Gr w wz) (h : Calls P f args wz fun e w' => ∃ v, e = .returned v ∧ F v w' ∧ Gr wz w') :
    Calls P f args wz fun e w'' => ∃ u, e = .returned u ∧ Gr w w'' ∧ rMx j0 T j wz w'' ∧ F u w'' :=
  h.mono fun e w' ⟨v, he, hf, hg⟩ => ⟨v, he, hz.trans hg, by rw [rMx_ne T hj]; exact hg, hf⟩
theorem lm_made {w wz : World} {j0 j b n : Nat} {T : TypeId} {cs : Array Value} (hj : j ≠ j0) (hz : Gr w wz) (hb : b ≤ w.heap.size) (hn : cs.size = n) :
    Gr w (wz.alloc (.cells cs T)) ∧ rMx j0 T j wz (wz.alloc (.cells cs T)) ∧ ∃ g, Value.pointer (some ⟨wz.heap.size, 0, none⟩) = .pointer (some ⟨g, 0, none⟩) ∧ b ≤ g ∧ ∃ ds : Array Value, ds.size = n ∧ Blk (wz.alloc (.cells cs T)) g T ds :=
  ⟨hz.alloc _, by rw [rMx_ne T hj]; exact (Gr.refl _).alloc _, _, rfl, Nat.le_trans hb hz.below.size, cs, hn, Blk.new _ _ _⟩
theorem two_of {cs : Array Value} (h : cs.size = 2) : ∃ x y, cs = #[x, y] := by
  obtain ⟨l⟩ := cs
  match l, h with
  | [x, y], _ => exact ⟨x, y, rfl⟩
theorem lm_two {w wz : World} {j0 g : Nat} {T : TypeId} {x y c d : Value} {u : Value} (hz : Gr w wz) (hg : w.heap.size ≤ g) (hB : Blk wz g T #[c, d]) (hu : u = .pointer (some ⟨g, 0, none⟩)) :
    Gr w ((wz.setCell ⟨g, 0, none⟩ x).setCell ⟨g, 1, none⟩ y) ∧ rMx j0 T j0 wz ((wz.setCell ⟨g, 0, none⟩ x).setCell ⟨g, 1, none⟩ y) ∧ ∃ g', u = .pointer (some ⟨g', 0, none⟩) ∧ Blk ((wz.setCell ⟨g, 0, none⟩ x).setCell ⟨g, 1, none⟩ y) g' T #[x, y] :=
  ⟨Gr.of_below ((hz.below.setCell (p := ⟨g, 0, none⟩) hg x).setCell (p := ⟨g, 1, none⟩) hg y), by rw [rMx_at]; exact ((Ty.refl T wz).set hB 0 x).set (hB.set 0 x) 1 y, g, hu, (hB.set 0 x).set 1 y⟩
theorem Row.ty {T : TypeId} {w w' : World} {b : Nat} {t : TypeId} {vs : List Value} (h : Row w b t vs) (ht : t ≠ T) (hg : Ty T w w') : Row w' b t vs := hg.other b t vs.toArray ht h
end Go.Proofs.YtphebmbapllinaaDoor
