/- A door law's frame that keeps the world's shape; lists that a law marks and holds. -/
import Derived.Test.YtefhhigcplemaaaGreatDoorDr
import Derived.Test.YtefhhigcplemaaaGreatDoorD1
import Derived.Test.YtefhhigcplemaaaGreatDoor1A
import Derived.HandedShaped
namespace Go
/-- A row's claim out of a contract that is told the world's shape and one condition besides. -/
theorem handed_told {H : Type} {enc : TypeId × Value → H} {a : Assume} {C : Checked} {os : Os} {f : FuncId} {fn : Func} {s : ChangeSpec} {conds : List PathCond} {apart fresh handsOn again : Bool} {X : World → Array Value → Prop}
    (hX : ∀ (w w' : World) (args : Array Value), w.heap = w'.heap → X w args → X w' args) (own : ownKnob C.prog.godebug = none) (started : os.Started) (noInit : C.prog.inits.idxOf? f = none) (hfn : C.prog.funcs[f]? = some fn)
    (witness : ∃ (w : World) (tape : Tape) (i : Input), w.os = os ∧ (w.forCall tape i).Shaped C.prog ∧ i.vars = [] ∧ Input.okWide C.prog (w.forCall tape i) .any w.heap.size f i ∧
      ((s.pre enc C.prog fn conds apart (w.forCall tape i).memory i.args ∧ X (w.forCall tape i).memory i.args) ∧ sizedMet enc C.prog fn (OpenSpec.ofChange s) apart (w.forCall tape i).memory i.args) ∧ a.holds C.prog (lone (Frame.enter C.prog f i.args .normal) [] (w.forCall tape i)))
    (contract : ∀ (W : World) (args : Array Value) (ds gs : List (DataW H)) (before : List MemPlace),
      (∀ (j : Nat) t v, fn.params[j]? = some t → args[j]? = some v → Value.okWide C.prog W .any W.heap.size t v) → DataW.Whole enc C.prog fn.params.toList s.vars apart W args.toList ds gs before →
      X W args → W.ShapedOpen C.prog → Calls C.prog f args W fun e W' => ∃ v, e = .returned v ∧ s.post enc C.prog fn apart fresh handsOn again W args v W') :
    ReturnsInHanded a C os f .any (fun w args => (s.pre enc C.prog fn conds apart w args ∧ X w args) ∧ sizedMet enc C.prog fn (OpenSpec.ofChange s) apart w args) (s.post enc C.prog fn apart fresh handsOn again) := by
  refine returnsInHanded_of_calls own started noInit witness ?_
  intro w tape i _ hsh _ hok hpre _
  obtain ⟨_, _, _, fn', hfn', _, _, _, _, hval⟩ := hok
  obtain rfl : fn' = fn := Option.some.inj (hfn'.symm.trans hfn)
  obtain ⟨⟨⟨ds, gs, before, hw, -⟩, hx⟩, -⟩ := hpre
  refine (contract (w.forCall tape i) i.args ds gs before hval (DataW.Whole.of_heap (by rfl) hw) (hX _ _ _ (by rfl) hx) hsh).mono ?_
  rintro e W' ⟨v, rfl, hp⟩
  exact ChangeSpec.post_blind hp
theorem shaped_below {P : Program} {W W' : World} (h : W.ShapedOpen P) (hb : Go.RowKit.Below W.heap.size W W') : W'.ShapedOpen P := h.keptBut (hb.frame fun _ => False) (fun _ h => h.elim)
end Go
namespace Go.Proofs.YtefhhigcplemaaaGreatDoor
open Go.RowKit
set_option linter.unusedVariables false
set_option linter.unusedSimpArgs false

/-- The marks that a law lays into a list: 1, 2, and so on. -/
def marks (n : Nat) : List Value := (List.range n).map fun (i : Nat) => vi (1 + i)
theorem marks_len (n : Nat) : (marks n).length = n := by simp [marks]
theorem marks_at (n k : Nat) (h : k < n) : (marks n)[k]? = some (vi (1 + k)) := by simp [marks, h]
def mix (vs : List Value) (k : Nat) : List Value := (marks vs.length).take k ++ vs.drop k
theorem mix_zero (vs : List Value) : mix vs 0 = vs := by simp [mix]
theorem mix_all (vs : List Value) : mix vs vs.length = marks vs.length := by
  unfold mix
  rw [List.drop_length, List.append_nil, List.take_of_length_le (by rw [marks_len]; exact Nat.le_refl _)]
theorem mix_at (vs : List Value) (k : Nat) (h : k < vs.length) : (mix vs k)[k]? = vs[k]? := by
  unfold mix
  rw [List.getElem?_append_right (by rw [List.length_take, marks_len]; omega), List.length_take, marks_len, List.getElem?_drop]
  congr 1; omega
theorem mix_set (vs : List Value) (k : Nat) (h : k < vs.length) : (mix vs k).set k (vi (1 + k)) = mix vs (k + 1) := by
  unfold mix
  have e := marks_at vs.length k h
  obtain ⟨hl, e⟩ := List.getElem?_eq_some_iff.1 e
  rw [List.set_append_right _ _ (by rw [List.length_take, marks_len]; omega), List.length_take, marks_len, show k - min k vs.length = 0 by omega, List.drop_eq_getElem_cons h, List.set_cons_zero, List.take_succ_eq_append_getElem hl, e, List.append_assoc]
  rfl

end Go.Proofs.YtefhhigcplemaaaGreatDoor
