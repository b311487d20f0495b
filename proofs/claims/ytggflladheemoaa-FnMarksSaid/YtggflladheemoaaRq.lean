/- A region that draws its order, within a round of a loop over an iterator: walked once. -/
import Derived.Sort.QuietTacIn
import Derived.OwnWalkIn
import Derived.WalkKit
import Derived.Test.YtggflladheemoaaRows
namespace Go.Proofs.Ytggflladheemoaa
open Go.RowKit
set_option linter.unusedVariables false

/-- No operation is a statement that defers. -/
def noDefer (ops : Array Oper) : Bool := ops.all fun o => match o.op with
  | .defer _ => false
  | _ => true
theorem noDefer_spec {ops : Array Oper} (h : noDefer ops = true) {o : Oper} {i : Nat} (hi : ops[i]? = some o) : ∀ c, o.op ≠ .defer c := by
  intro c hc
  have h1 := Array.all_eq_true_iff_forall_mem.1 h o (Array.mem_of_getElem? hi)
  rw [hc] at h1
  cases h1
theorem quietR_op {F : Fence} {n : Nat} {P : Program} {C : World → Prop} {o : Oper} {a : Act} {K : Act → Prop} {K' : Act → World → Prop} {Q' : Exit → Act → World → Prop} {w : World} (hd : ∀ c, o.op ≠ .defer c) (hw : C w) (h : ∀ a w', C w' → K a → K' a w')
    (ha : o.askedIn F P a C) (hh : o.quietIn F n P a C K) : o.wpIn F n P a w K' Q' := by
  obtain ⟨v, h1, h2⟩ := hh
  have h3 := h1 w hw
  unfold Oper.quietAtIn at h3
  unfold Oper.wpIn
  refine ⟨ha w hw, ?_⟩
  rw [Oper.semAt_plain F _ _ hd]
  generalize (execOp a.eval o).run P w = r at *
  cases r with
  | ok x w' =>
    cases x <;> simp only [Oper.quietUponIn] at h3 <;> simp only [Oper.uponIn]
    case value u =>
      obtain ⟨e1, e2⟩ := h3
      rw [e1, e2]
      exact h _ _ hw h2
    case skip =>
      obtain ⟨e1, e2⟩ := h3
      rw [e1, ← e2]
      exact h _ _ hw h2
    case enter f args =>
      obtain ⟨e1, hd, hc⟩ := h3
      rw [e1]
      exact ⟨hd, hc.mono fun e w'' ⟨he, hw''⟩ => by subst he; exact h _ _ hw'' h2⟩
  | halt x w' => simp only [Oper.quietUponIn] at h3
theorem quietR_opIn {F : Fence} {n : Nat} {P : Program} {ops : Array Oper} {C : World → Prop} {i : Nat} {a : Act} {K : Act → Prop} {K' : Act → World → Prop} {Q' : Exit → Act → World → Prop} {w : World} (hd : noDefer ops = true) (hC : C w) (h : ∀ a w', C w' → K a → K' a w')
    (hh : qOpIn F n P ops C i K a) : wpOpIn F n P ops Q' i K' a w := by
  unfold qOpIn at hh
  unfold wpOpIn
  split
  · rename_i ho; simp only [ho] at hh; exact h _ _ hC hh
  · rename_i o ho
    simp only [ho] at hh
    obtain ⟨ha, hh⟩ := hh
    split
    · rename_i hw; simp only [hw, if_true] at hh; exact quietR_op (noDefer_spec hd ho) hC h ha hh
    · rename_i hw; simp only [hw] at hh; exact ⟨ha w hC, h _ _ hC hh⟩
theorem quietR_any {F : Fence} {n : Nat} {P : Program} {ops : Array Oper} {md : Region.Mode} {C : World → Prop} {Q : Act → Prop} {Q' : Exit → Act → World → Prop} (hd : noDefer ops = true) (hQ : ∀ a w, C w → Q a → Q' .normal a w) : ∀ (fuel : Nat) (listed : Array Bool) (a : Act) (w : World), C w →
    wpAnyQIn F n P md ops C Q fuel listed a → wpAnyIn F n P md ops Q' fuel listed a w
  | 0, _, _, _, hw, h => ⟨h.1, hQ _ _ hw h.2⟩
  | fuel + 1, _, _, _, hw, h => ⟨fun h0 => hQ _ _ hw (h.1 h0), fun i hi => quietR_opIn hd hw (fun a' w' hw' => quietR_any hd hQ fuel _ a' w' hw') (h.2 i hi)⟩
/-- One walk of the order of the text serves every order, within a round. -/
theorem wpIn_region_quietR {F : Fence} {n : Nat} {P : Program} {C : World → Prop} {id : Nat} {Q : Exit → Act → World → Prop} {a : Act} {w : World} {l : List Oper} (hm : P.follows .mixedOrders = true) (hd : noDefer l.toArray = true) (hB : Region.lexB .any l.toArray = true) (hC : C { w with drawn := w.drawn + 1 })
    (h : wpQuietIn F n P l.toArray C (fun a' => ∀ w', C w' → Q .normal a' w') l a) : (Code.region id l.toArray true).wpIn F n P Q a w := by
  simp only [Region.lexB, Bool.and_eq_true] at hB
  refine wpIn_region_any hm (quietR_any (Q := fun a' => ∀ w', C w' → Q .normal a' w') hd (fun _ w' hw' h => h w' hw') _ _ _ _ hC ?_)
  have := wpAnyQIn_lex (F := F) (n := n) (C := C) (md := .any) hB.1 l 0 (Array.replicate l.length false) a (by simp) (by simpa using hB.2) (by simpa using h)
  simpa using this
theorem wpIn_region_quietR_lit {F : Fence} {n : Nat} {P : Program} {id : Nat} {Q : Exit → Act → World → Prop} {a : Act} {w : World} {l : List Oper} (hm : P.follows .mixedOrders = true) (hd : noDefer l.toArray = true) (hB : Region.lexB .any l.toArray = true)
    (h : wpQuietIn F n P l.toArray (fun w' => ∃ n, w' = w.drewN n) (fun a' => ∀ w', (∃ n, w' = w.drewN n) → Q .normal a' w') l a) : (Code.region id l.toArray true).wpIn F n P Q a w :=
  wpIn_region_quietR (C := fun w' => ∃ n, w' = w.drewN n) hm hd hB ⟨1, rfl⟩ h

/-- A region whose first operations are quiet, whatever order is picked, and lead to one state. -/
def anyQ (F : Fence) (n : Nat) (P : Program) (md : Region.Mode) (ops : Array Oper) (C : World → Prop) (Qb : Array Bool → Act → Prop) : Nat → Array Bool → Act → Prop
  | 0, listed, a => Qb listed a
  | fuel + 1, listed, a => Region.ready md ops listed ≠ [] ∧ ∀ i ∈ Region.ready md ops listed, qOpIn F n P ops C i (anyQ F n P md ops C Qb fuel (listed.setIfInBounds i true)) a
theorem anyQ_wp {F : Fence} {n : Nat} {P : Program} {ops : Array Oper} {md : Region.Mode} {C : World → Prop} {Qb : Array Bool → Act → Prop} {Q : Exit → Act → World → Prop} {r : Nat} (hd : noDefer ops = true) (hQ : ∀ listed a w, C w → Qb listed a → wpAnyIn F n P md ops Q r listed a w) :
    ∀ (fuel : Nat) (listed : Array Bool) (a : Act) (w : World), C w → anyQ F n P md ops C Qb fuel listed a → wpAnyIn F n P md ops Q (fuel + r) listed a w
  | 0, listed, a, w, hw, h => by rw [Nat.zero_add]; exact hQ _ _ _ hw h
  | fuel + 1, listed, a, w, hw, h => by
    rw [Nat.add_right_comm]
    exact ⟨fun h0 => absurd h0 h.1, fun i hi => quietR_opIn hd hw (fun a' w' hw' h' => anyQ_wp hd hQ fuel _ a' w' hw' h') (h.2 i hi)⟩
theorem anyQ_ready {F : Fence} {n : Nat} {P : Program} {ops : Array Oper} {md : Region.Mode} {C : World → Prop} {Qb : Array Bool → Act → Prop} {fuel : Nat} {listed : Array Bool} {a : Act} {rs : List Nat} (hr : Region.ready md ops listed = rs) (hne : rs ≠ [])
    (h : ∀ i ∈ rs, qOpIn F n P ops C i (anyQ F n P md ops C Qb fuel (listed.setIfInBounds i true)) a) : anyQ F n P md ops C Qb (fuel + 1) listed a := ⟨hr ▸ hne, hr ▸ h⟩
theorem allQ_nil {p : Nat → Prop} : ∀ i ∈ ([] : List Nat), p i := fun _ h => by cases h
theorem allQ_cons {p : Nat → Prop} {i : Nat} {rs : List Nat} (h : p i) (hs : ∀ j ∈ rs, p j) : ∀ j ∈ i :: rs, p j := fun j hj => by
  rcases List.mem_cons.1 hj with rfl | hj
  · exact h
  · exact hs j hj
theorem qOp_step {F : Fence} {n : Nat} {P : Program} {ops : Array Oper} {C : World → Prop} {i : Nat} {o : Oper} {K : Act → Prop} {a : Act} (ho : ops[i]? = some o) (ha : o.askedIn F P a C)
    (h : ∀ K' : Act → Prop, (∀ a, K a → K' a) → if Region.wanted o (yielded ops a.tmps) then o.quietIn F n P a C K' else K' (a.put o.dst undef)) : qOpIn F n P ops C i K a := by
  unfold qOpIn
  simp only [ho]
  exact ⟨ha, h K (fun _ h => h)⟩
theorem wpIn_region_prefix {F : Fence} {n : Nat} {P : Program} {id : Nat} {Q : Exit → Act → World → Prop} {a : Act} {w : World} {l : List Oper} {Qb : Array Bool → Act → Prop} (fuel r : Nat) (hm : P.follows .mixedOrders = true) (hd : noDefer l.toArray = true) (hsz : l.length = fuel + r)
    (hq : anyQ F n P .any l.toArray (fun w' => ∃ n, w' = w.drewN n) Qb fuel (Array.replicate (fuel + r) false) a)
    (hQ : ∀ listed a' k, Qb listed a' → wpAnyIn F n P .any l.toArray Q r listed a' (w.drewN k)) : (Code.region id l.toArray true).wpIn F n P Q a w := by
  refine wpIn_region_any hm ?_
  rw [show l.toArray.size = fuel + r by simpa using hsz]
  exact anyQ_wp hd (fun listed a' w' ⟨k, hk⟩ h => by rw [hk]; exact hQ _ _ _ h) fuel _ a _ ⟨1, rfl⟩ hq
theorem wpIn_region_prefixA {F : Fence} {n : Nat} {P : Program} {id : Nat} {Q : Exit → Act → World → Prop} {a : Act} {w : World} {l : List Oper} (L : Array Bool) (A : Act) (fuel r : Nat) (hm : P.follows .mixedOrders = true) (hd : noDefer l.toArray = true) (hsz : l.length = fuel + r)
    (hq : anyQ F n P .any l.toArray (fun w' => ∃ n, w' = w.drewN n) (fun li a' => li = L ∧ a' = A) fuel (Array.replicate (fuel + r) false) a)
    (hQ : ∀ k, wpAnyIn F n P .any l.toArray Q r L A (w.drewN k)) : (Code.region id l.toArray true).wpIn F n P Q a w :=
  wpIn_region_prefix fuel r hm hd hsz hq (fun listed a' k ⟨h1, h2⟩ => by rw [h1, h2]; exact hQ k)
end Go.Proofs.Ytggflladheemoaa
