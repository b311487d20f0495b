/- A door law's frame that keeps the world's shape; lists that a law marks and holds. -/
import Derived.Test.YtefhhigcplemaaaDoorDr
import Derived.Test.YtefhhigcplemaaaDoorD1
import Derived.Test.YtefhhigcplemaaaDoor1A
import Derived.HandedShaped
namespace Go
/-- A row's claim out of a contract that is told the world's shape and one condition besides. -/
theorem handed_told {H : Type} {enc : TypeId × Value → H} {a : Assume} {C : Checked} {os : Os} {f : FuncId} {fn : Func} {s : ChangeSpec} {conds : List PathCond} {apart fresh handsOn again : Bool} {X : World → Array Value → Prop}
    (hX : ∀ (w w' : World) (args : Array Value), w.heap = w'.heap → X w args → X w' args) (own : ownKnob C.prog.godebug = none) (started : os.Started) (noInit : C.prog.inits.idxOf? f = none) (hfn : C.prog.funcs[f]? = some fn)
    (witness : ∃ (w : World) (tape : Tape) (i : Input), w.os = os ∧ (w.forCall tape i).Shaped C.prog ∧ i.vars = [] ∧ Input.okWide C.prog (w.forCall tape i) .any w.heap.size f i ∧
      ((s.pre enc C.prog fn conds apart (w.forCall tape i).memory i.args ∧ X (w.forCall tape i).memory i.args) ∧ sizedMet enc C.prog fn (OpenSpec.ofChange s) apart (w.forCall tape i).memory i.args) ∧ a.holds C.prog (lone (Frame.enter C.prog f i.args .normal) [] (w.forCall tape i)))
    (contract : ∀ (W : World) (args : Array Value) (ds gs : List (DataW H)) (before : List MemPlace),
      (∀ (j : Nat) t v, fn.params[j]? = some t → args[j]? = some v → Value.okWide C.prog W .any W.heap.size t v) → DataW.Whole enc C.prog fn.params.toList s.vars apart W args.toList ds gs before →
      X W args → W.ShapedOpen C.prog → Calls C.prog f args W fun e W' => ∃ v, e = .returned v ∧ s.post enc C.prog fn apart fresh handsOn again W args v W') :
    ReturnsInHanded a C os f .any (fun w args => (s.pre enc C.prog fn conds apart w args ∧ X w args) ∧ sizedMet enc C.prog fn (OpenSpec.ofChange s) apart w args) (s.post enc C.prog fn apart fresh handsOn again) := by
  refine returnsInHanded_of_calls own started noInit witness ?_
  intro w tape i _ hsh _ hok hpre _
  obtain ⟨_, _, _, fn', hfn', _, _, _, _, hval⟩ := hok
  obtain rfl : fn' = fn := Option.some.inj (hfn'.symm.trans hfn)
  obtain ⟨⟨⟨ds, gs, before, hw, -⟩, hx⟩, -⟩ := hpre
  refine (contract (w.forCall tape i) i.args ds gs before hval (DataW.Whole.of_heap (by rfl) hw) (hX _ _ _ (by rfl) hx) hsh).mono ?_
  rintro e W' ⟨v, rfl, hp⟩
  exact ChangeSpec.post_blind hp
theorem shaped_below {P : Program} {W W' : World} (h : W.ShapedOpen P) (hb : Go.RowKit.Below W.heap.size W W') : W'.ShapedOpen P := h.keptBut (hb.frame fun _ => False) (fun _ h => h.elim)
end Go
namespace Go.Proofs.YtefhhigcplemaaaDoor
open Go.RowKit
set_option linter.unusedVariables false
set_option linter.unusedSimpArgs false

/-- The marks that a law lays into a list: 1, 2, and so on. -/
def marks (n : Nat) : List Value := (List.range n).map fun (i : Nat) => vi (1 + i)
theorem marks_len (n : Nat) : (marks n).length = n := by simp [marks]
theorem marks_at (n k : Nat) (h : k < n) : (marks n)[k]? = some (vi (1 + k)) := by simp [marks, h]
def mix (vs : List Value) (k : Nat) : List Value := (marks vs.length).take k ++ vs.drop k
theorem mix_zero (vs : List Value) : mix vs 0 = vs := by simp [mix]
theorem mix_all (vs : List Value) : mix vs vs.length = marks vs.length := by
  unfold mix
  rw [List.drop_length, List.append_nil, List.take_of_length_le (by rw [marks_len]; exact Nat.le_refl _)]
theorem mix_at (vs : List Value) (k : Nat) (h : k < vs.length) : (mix vs k)[k]? = vs[k]? := by
  unfold mix
  rw [List.getElem?_append_right (by rw [List.length_take, marks_len]; omega), List.length_take, marks_len, List.getElem?_drop]
  congr 1; omega
theorem mix_set (vs : List Value) (k : Nat) (h : k < vs.length) : (mix vs k).set k (vi (1 + k)) = mix vs (k + 1) := by
  unfold mix
  have e := marks_at vs.length k h
  obtain ⟨hl, e⟩ := List.getElem?_eq_some_iff.1 e
  rw [List.set_append_right _ _ (by rw [List.length_take, marks_len]; omega), List.length_take, marks_len, show k - min k vs.length = 0 by omega, List.drop_eq_getElem_cons h, List.set_cons_zero, List.take_succ_eq_append_getElem hl, e, List.append_assoc]
  rfl

theorem mark_nil (A : Option Addr) (c : Nat) (w : World) :
    Calls Tryd.prog 62 #[.slice A 0 c, .int .i64 1] w fun e w' => e = .returned (.int .i64 1) ∧ w = w' := by
  go_enter Tryd.func62, Tryd.ntmps62
  go_wp2
  go_loop [1, 5] (fun x i => x = .int .i64 1 ∧ i = .int .i64 0) (fun _ _ => 0)
  case atStart => exact ⟨rfl, rfl⟩
  case round =>
    obtain ⟨rfl, rfl⟩ := hrel
    go_wp2
    go_ret
    exact ⟨rfl, rfl⟩
theorem held_nil (A : Option Addr) (c : Nat) (w : World) :
    Calls Tryd.prog 63 #[.slice A 0 c, .int .i64 1] w fun e w' => e = .returned (.int .i64 1) ∧ w = w' := by
  go_enter Tryd.func63, Tryd.ntmps63
  go_wp2
  go_loop [1, 5] (fun x i => x = .int .i64 1 ∧ i = .int .i64 0) (fun _ _ => 0)
  case atStart => exact ⟨rfl, rfl⟩
  case round =>
    obtain ⟨rfl, rfl⟩ := hrel
    go_wp2
    go_ret
    exact ⟨rfl, rfl⟩

theorem mark_any (g n c : Nat) (vs : List Value) (w : World) (hn : vs.length = n) (hN : n ≤ 16777216) (hR : Row w g 2 vs) :
    Calls Tryd.prog 62 #[.slice (some ⟨g, 0, none⟩) n c, .int .i64 1] w fun e w' => e = .returned (.int .i64 (1 + n)) ∧ Row w' g 2 (marks n) ∧ Dr g w w' := by
  have HN := Lib.hid hn
  clear hn
  go_enter Tryd.func62, Tryd.ntmps62
  go_wp2
  go_loopw [1, 5] (fun x i wr => ∃ k : Nat, k ≤ n ∧ x = .int .i64 (1 + k) ∧ i = .int .i64 k ∧ Row wr g 2 (mix vs k) ∧ Dr g w wr) (fun _ i _ => n - (intOf i).toNat)
  case atStart => exact ⟨0, by omega, by simp, rfl, by rw [mix_zero]; exact hR, Dr.refl _ _⟩
  case round =>
    obtain ⟨k, hk, rfl, rfl, hrow, hd⟩ := hrel
    by_cases hlt : k < n
    · have hk2 : k < vs.length := by rw [HN.out]; exact hlt
      obtain ⟨z, hz⟩ := some_at hk2
      have c0 := hrow.cell k
      rw [mix_at _ _ hk2, hz] at c0
      have f0 := hrow.free k
      have HS := Lib.hid (mix_set vs k hk2)
      clear hz hk2
      go_wp2
      go_roundw
      case rel => exact ⟨k + 1, by omega, by go_num, by go_num, by rw [← HS.out]; exact hrow.set k _, hd.setCell (.inl rfl) _⟩
      case measure => simp [intOf]; omega
    · obtain rfl : k = n := by omega
      have HM := Lib.hid (mix_all vs)
      rw [HN.out] at HM
      go_wp2
      go_ret
      exact ⟨rfl, by rw [← HM.out]; exact hrow, hd⟩

theorem held_any (g n c : Nat) (w : World) (hN : n ≤ 16777216) (hR : Row w g 2 (marks n)) :
    Calls Tryd.prog 63 #[.slice (some ⟨g, 0, none⟩) n c, .int .i64 1] w fun e w' => e = .returned (.int .i64 (1 + n)) ∧ w = w' := by
  go_enter Tryd.func63, Tryd.ntmps63
  go_wp2
  go_loop [1, 5] (fun x i => ∃ k : Nat, k ≤ n ∧ x = .int .i64 (1 + k) ∧ i = .int .i64 k) (fun _ i => n - (intOf i).toNat)
  case atStart => exact ⟨0, by omega, by simp, rfl⟩
  case round =>
    obtain ⟨k, hk, rfl, rfl⟩ := hrel
    by_cases hlt : k < n
    · have c0 := hR.cell k
      rw [marks_at n k hlt] at c0
      go_wp2
      go_round
      case rel => exact ⟨k + 1, by omega, by go_num, by go_num⟩
      case measure => simp [intOf]; omega
    · obtain rfl : k = n := by omega
      go_wp2
      go_ret
      exact ⟨rfl, rfl⟩
end Go.Proofs.YtefhhigcplemaaaDoor
