/- A region that draws its order, whose operations may make memory and call functions that answer one of many values: walked once. Each operation either has one value in every world of a class ('none'), or a relation says what it answers ('some F'), which stays true as the worlds go on; an operation may use what is known of those alone for which it waits. Each operation has a relation of its own for what it does to the world: what is known of the others stays true under it. -/
import Derived.StillTail
import Derived.Deep.Quiet
import Derived.Deep.QuietTactic
namespace Go.Proofs.YtphebmbapllinaaDoor
set_option linter.unusedVariables false
set_option linter.unusedSimpArgs false

/-- What an operation read, how it is told apart: nothing but the values of the slots that it looks at. -/
abbrev Tale := List Value → Value → World → Prop
def seenBy (ops : Array Oper) (o : Oper) (a : Act) : List Value := (o.looksAt ops).map fun d => a.tmps.getD d undef
/-- What is asked once an operation has yielded this. -/
def looseUpon (P : Program) (G : Value → World → Prop) : Result Next → Prop
  | .ok (.value u) w' => G u w'
  | .ok .skip w' => G undef w'
  | .ok (.enter f args) w' => Calls P f args w' (fun e w'' => ∃ v, e = .returned v ∧ G v w'')
  | _ => False
theorem looseUpon_mono {P : Program} {G G' : Value → World → Prop} (h : ∀ v w, G v w → G' v w) : ∀ {r : Result Next}, looseUpon P G r → looseUpon P G' r
  | .ok (.value u) w', hh => h _ _ hh
  | .ok (.enter f args) w', hh => Calls.mono hh fun e w'' ⟨v, he, hv⟩ => ⟨v, he, h _ _ hv⟩
  | .ok .skip w', hh => h _ _ hh
  | .ok (.defer _) _, hh => hh.elim
  | .halt _ _, hh => hh.elim
theorem looseUpon_ex {P : Program} {G : Value → World → Prop} : ∀ {r : Result Next}, looseUpon P G r → ∃ v w, G v w
  | .ok (.value u) w', hh => ⟨u, w', hh⟩
  | .ok (.enter f args) w', hh => by
    obtain ⟨e, w'', fr, ⟨v, -, hv⟩, -⟩ := hh []
    exact ⟨v, w'', hv⟩
  | .ok .skip w', hh => ⟨undef, w', hh⟩
  | .ok (.defer _) _, hh => hh.elim
  | .halt _ _, hh => hh.elim

/-- What is known, by operations. -/
abbrev Known := Nat → World → Prop
def noneKnown : Known := fun _ _ => True
def upd (Γ : Known) (i : Nat) (S : World → Prop) : Known := fun k => if k = i then S else Γ k
theorem upd_same (Γ : Known) (i : Nat) (S : World → Prop) : upd Γ i S i = S := if_pos rfl
theorem upd_ne (Γ : Known) {i k : Nat} (S : World → Prop) (h : k ≠ i) : upd Γ i S k = Γ k := if_neg h
theorem upd_comm (Γ : Known) {i j : Nat} (S T : World → Prop) (h : i ≠ j) : upd (upd Γ i S) j T = upd (upd Γ j T) i S := by
  funext k
  unfold upd
  by_cases h1 : k = j
  · subst h1
    rw [if_pos rfl, if_neg (fun e => h e.symm), if_pos rfl]
  · rw [if_neg h1]
    by_cases h2 : k = i
    · rw [if_pos h2, if_pos h2]
    · rw [if_neg h2, if_neg h2, if_neg h1]

section
variable {P : Program} {ops : Array Oper} {md : Region.Mode} {C : World → Prop} {R : Nat → World → World → Prop} {Fs : Nat → Option Tale}

def afters (md : Region.Mode) (o : Oper) (Γ : Known) (w : World) : Prop := ∀ e ∈ o.after, Region.binds md e = true → Γ e.on w
def oneAt (P : Program) (md : Region.Mode) (C : World → Prop) (o : Oper) (Γ : Known) (a : Act) (u : Value) : Prop := ∀ w, C w → afters md o Γ w → (execOp a.eval o).run P w = .ok (.value u) w
def manyAt (P : Program) (ops : Array Oper) (md : Region.Mode) (C : World → Prop) (r : World → World → Prop) (F : Tale) (o : Oper) (Γ : Known) (a : Act) : Prop :=
  ∀ w, C w → afters md o Γ w → looseUpon P (fun v w' => C w' ∧ r w w' ∧ F (seenBy ops o a) v w') ((execOp a.eval o).run P w)
def stepAt (P : Program) (ops : Array Oper) (md : Region.Mode) (C : World → Prop) (R : Nat → World → World → Prop) (Fs : Nat → Option Tale) (i : Nat) (o : Oper) (Γ : Known) (a : Act) : Prop :=
  Region.wanted o (yielded ops a.tmps) = true → match Fs i with
  | none => ∃ u, oneAt P md C o Γ a u
  | some F => manyAt P ops md C (R i) F o Γ a
def factOf (ops : Array Oper) (Fs : Nat → Option Tale) (i : Nat) (o : Oper) (a : Act) (v : Value) (w : World) : Prop :=
  Region.wanted o (yielded ops a.tmps) = true → match Fs i with
  | none => True
  | some F => F (seenBy ops o a) v w
/-- A value that it may have yielded. -/
def mayBe (P : Program) (ops : Array Oper) (md : Region.Mode) (C : World → Prop) (Fs : Nat → Option Tale) (i : Nat) (o : Oper) (Γ : Known) (a : Act) (v : Value) : Prop :=
  (Region.wanted o (yielded ops a.tmps) = true → Fs i = none → oneAt P md C o Γ a v) ∧ (Region.wanted o (yielded ops a.tmps) = false → v = undef) ∧ ∃ w, C w ∧ (∀ k, Γ k w) ∧ factOf ops Fs i o a v w
def lzOp (P : Program) (ops : Array Oper) (md : Region.Mode) (C : World → Prop) (R : Nat → World → World → Prop) (Fs : Nat → Option Tale) (i : Nat) (K : Known → Act → Prop) (Γ : Known) (a : Act) : Prop :=
  match ops[i]? with
  | none => False
  | some o => stepAt P ops md C R Fs i o Γ a ∧ ∀ v, mayBe P ops md C Fs i o Γ a v → K (upd Γ i (factOf ops Fs i o a v)) (a.put o.dst v)
theorem lzOp_mono {i : Nat} {K K' : Known → Act → Prop} {Γ : Known} {a : Act} (h : ∀ Γ a, K Γ a → K' Γ a) (hh : lzOp P ops md C R Fs i K Γ a) : lzOp P ops md C R Fs i K' Γ a := by
  unfold lzOp at *
  split
  · rename_i h0; simp only [h0] at hh
  · rename_i o h0
    simp only [h0] at hh
    exact ⟨hh.1, fun v hv => h _ _ (hh.2 v hv)⟩

/-- Whatever order is picked. -/
def lzAny (P : Program) (md : Region.Mode) (ops : Array Oper) (C : World → Prop) (R : Nat → World → World → Prop) (Fs : Nat → Option Tale) (L : Known → Act → Prop) : Nat → Array Bool → Known → Act → Prop
  | 0, listed, Γ, a => Region.ready md ops listed = [] ∧ L Γ a
  | f + 1, listed, Γ, a => (Region.ready md ops listed = [] → L Γ a) ∧ ∀ i ∈ Region.ready md ops listed, lzOp P ops md C R Fs i (lzAny P md ops C R Fs L f (listed.setIfInBounds i true)) Γ a

/-- What is known stays, whatever another operation does. -/
def Steady (C : World → Prop) (R : Nat → World → World → Prop) (Γ : Known) : Prop := ∀ k j, j ≠ k → ∀ w w', C w → R j w w' → Γ k w → Γ k w'
/-- Each tale stays, whatever another operation does. -/
def Steadies (C : World → Prop) (R : Nat → World → World → Prop) (Fs : Nat → Option Tale) : Prop := ∀ i F, Fs i = some F → ∀ j, j ≠ i → ∀ vs v w w', C w → R j w w' → F vs v w → F vs v w'
theorem known_upd (hst : Steadies C R Fs) {Γ : Known} (hΓ : Steady C R Γ) (i : Nat) (o : Oper) (a : Act) (v : Value) : Steady C R (upd Γ i (factOf ops Fs i o a v)) := by
  intro k j hjk w w' hc hr hf
  by_cases hki : k = i
  · subst hki
    rw [upd_same] at hf ⊢
    unfold factOf at hf ⊢
    intro hwz
    have hf := hf hwz
    cases hF : Fs k with
    | none => trivial
    | some F => rw [hF] at hf; exact hst k F hF j hjk _ _ _ _ hc hr hf
  · rw [upd_ne _ _ hki] at hf ⊢; exact hΓ k j hjk w w' hc hr hf

/-- In a world where all that is known holds an operation goes through, and what is known behind it holds. -/
theorem wpOp_of_lzOp {i : Nat} {K : Known → Act → Prop} {K' : Act → World → Prop} {Q' : Exit → Act → World → Prop} {Γ : Known} {a : Act} {w : World}
    (hst : Steadies C R Fs) (hΓ : Steady C R Γ) (hT : Γ i = fun _ => True) (hC : C w) (hk : ∀ k, Γ k w)
    (h : ∀ v o a' w', Steady C R (upd Γ i (factOf ops Fs i o a v)) → C w' → (∀ k, upd Γ i (factOf ops Fs i o a v) k w') → K (upd Γ i (factOf ops Fs i o a v)) a' → K' a' w') (hh : lzOp P ops md C R Fs i K Γ a) : wpOp P ops Q' i K' a w := by
  unfold lzOp at hh
  unfold wpOp
  split
  · rename_i h0; simp only [h0] at hh
  rename_i o h0
  simp only [h0] at hh
  obtain ⟨hs, hK⟩ := hh
  by_cases hw : Region.wanted o (yielded ops a.tmps) = true
  rotate_left
  · simp only [hw]
    have hfact : factOf ops Fs i o a undef w := fun h' => absurd h' hw
    refine h undef o _ _ (known_upd hst hΓ i o a undef) hC (fun k => ?_) (hK undef ⟨fun h' => absurd h' hw, fun _ => rfl, w, hC, hk, hfact⟩)
    by_cases hki : k = i
    · subst hki; rw [upd_same]; exact hfact
    · rw [upd_ne _ _ hki]; exact hk k
  simp only [hw, if_true]
  left
  unfold stepAt at hs
  replace hs := hs hw
  cases hF : Fs i with
  | none =>
    rw [hF] at hs
    obtain ⟨u, hu⟩ := hs
    have he := hu w hC (fun e _ _ => hk e.on)
    unfold Oper.wp
    rw [he]
    have hfact : factOf ops Fs i o a u w := by unfold factOf; rw [hF]; intro _; trivial
    refine h u o _ _ (known_upd hst hΓ i o a u) hC (fun k => ?_) (hK u ⟨fun _ _ => hu, fun h' => (by rw [hw] at h'; cases h'), w, hC, hk, hfact⟩)
    by_cases hki : k = i
    · subst hki; rw [upd_same]; exact hfact
    · rw [upd_ne _ _ hki]; exact hk k
  | some F =>
    rw [hF] at hs
    have he := hs w hC (fun e _ _ => hk e.on)
    have go : ∀ v w', (C w' ∧ R i w w' ∧ F (seenBy ops o a) v w') → K' (a.put o.dst v) w' := by
      intro v w' ⟨c1, c2, c3⟩
      have hfact : factOf ops Fs i o a v w' := by unfold factOf; rw [hF]; intro _; exact c3
      have hk' : ∀ k, Γ k w' := fun k => by
        by_cases hki : k = i
        · subst hki; rw [hT]; trivial
        · exact hΓ k i (Ne.symm hki) w w' hC c2 (hk k)
      refine h v o _ _ (known_upd hst hΓ i o a v) c1 (fun k => ?_) (hK v ⟨fun _ hn => (by rw [hF] at hn; cases hn), fun h' => (by rw [hw] at h'; cases h'), w', c1, hk', hfact⟩)
      by_cases hki : k = i
      · subst hki; rw [upd_same]; exact hfact
      · rw [upd_ne _ _ hki]; exact hk' k
    unfold Oper.wp
    generalize (execOp a.eval o).run P w = r at *
    match r, he with
    | .ok (.value u) w', he => exact go u w' he
    | .ok .skip w', he => exact go undef w' he
    | .ok (.enter f args) w', he => exact Calls.mono he fun e w'' ⟨v, hv, hG⟩ => by subst hv; exact go v w'' hG
    | .ok (.defer _) _, he => exact he.elim
    | .halt _ _, he => exact he.elim

theorem wpAny_of_lzAny {L : Known → Act → Prop} {Q' : Exit → Act → World → Prop} (hst : Steadies C R Fs)
    (hL : ∀ Γ a w, C w → (∀ k, Γ k w) → L Γ a → Q' .normal a w) :
    ∀ (f : Nat) (listed : Array Bool) (Γ : Known) (a : Act) (w : World), Steady C R Γ → (∀ k, listed.getD k true = false → Γ k = fun _ => True) → C w → (∀ k, Γ k w) → lzAny P md ops C R Fs L f listed Γ a → wpAny P md ops Q' f listed a w
  | 0, listed, Γ, a, w, _, _, hC, hk, h => ⟨h.1, hL _ _ _ hC hk h.2⟩
  | f + 1, listed, Γ, a, w, hΓ, hT, hC, hk, h => by
    refine ⟨fun h0 => hL _ _ _ hC hk (h.1 h0), fun i hi => ?_⟩
    have hun := (mem_ready.1 hi).1
    refine wpOp_of_lzOp hst hΓ (hT i hun) hC hk (fun v o a' w' h1 h2 h3 h4 => wpAny_of_lzAny hst hL f _ _ a' w' h1 (fun k hkk => ?_) h2 h3 h4) (h.2 i hi)
    have hki : i ≠ k := fun e => by
      subst e
      rcases Nat.lt_or_ge i listed.size with h' | h'
      · simp [h'] at hkk
      · simp [Array.getElem?_eq_none h'] at hun
    rw [upd_ne _ _ (Ne.symm hki)]
    rw [getD_set_ne true hki] at hkk
    exact hT k hkk

theorem seenBy_put {o : Oper} {a : Act} {dst : Option Tmp} {v : Value} (h : ∀ d, dst = some d → d ∉ o.looksAt ops) : seenBy ops o (a.put dst v) = seenBy ops o a := by
  unfold seenBy
  apply List.map_congr_left
  intro d hd
  cases dst with
  | none => rfl
  | some e =>
    have hne : e ≠ d := fun he => h e rfl (he ▸ hd)
    simp [Act.put, Array.getElem?_setIfInBounds, hne]

theorem afters_upd {o : Oper} {Γ : Known} {i : Nat} {S : World → Prop} {w : World} (h : ∀ e ∈ o.after, Region.binds md e = true → e.on ≠ i) : afters md o (upd Γ i S) w ↔ afters md o Γ w := by
  unfold afters
  constructor
  · intro hh e he hb; have := hh e he hb; rwa [upd_ne _ _ (h e he hb)] at this
  · intro hh e he hb; rw [upd_ne _ _ (h e he hb)]; exact hh e he hb
theorem oneAt_move {o : Oper} {Γ : Known} {a : Act} {u v : Value} {i : Nat} {S : World → Prop} {dst : Option Tmp} (hsel : ∀ cs b, o.op ≠ .select cs b) (h : ∀ d, dst = some d → d ∉ o.looksAt ops)
    (hn : ∀ e ∈ o.after, Region.binds md e = true → e.on ≠ i) : oneAt P md C o (upd Γ i S) (a.put dst v) u ↔ oneAt P md C o Γ a u := by
  unfold oneAt
  rw [execOp_put o hsel a dst v h]
  constructor
  · intro hh w hw ha; exact hh w hw ((afters_upd hn).2 ha)
  · intro hh w hw ha; exact hh w hw ((afters_upd hn).1 ha)
theorem factOf_move {o : Oper} {a : Act} {u v : Value} {j : Nat} {dst : Option Tmp} (h : ∀ d, dst = some d → d ∉ o.looksAt ops) : factOf ops Fs j o (a.put dst v) u = factOf ops Fs j o a u := by
  funext w
  unfold factOf
  rw [wanted_put o a dst v h, seenBy_put h]
theorem stepAt_move {o : Oper} {Γ : Known} {a : Act} {v : Value} {i j : Nat} {S : World → Prop} {dst : Option Tmp} (hsel : ∀ cs b, o.op ≠ .select cs b) (h : ∀ d, dst = some d → d ∉ o.looksAt ops)
    (hn : ∀ e ∈ o.after, Region.binds md e = true → e.on ≠ i) : stepAt P ops md C R Fs j o (upd Γ i S) (a.put dst v) ↔ stepAt P ops md C R Fs j o Γ a := by
  unfold stepAt
  rw [wanted_put o a dst v h]
  refine imp_congr_right fun _ => ?_
  split
  · constructor
    · rintro ⟨u, hu⟩; exact ⟨u, (oneAt_move hsel h hn).1 hu⟩
    · rintro ⟨u, hu⟩; exact ⟨u, (oneAt_move hsel h hn).2 hu⟩
  · unfold manyAt
    rw [execOp_put o hsel a dst v h, seenBy_put h]
    constructor
    · intro hh w hw ha; exact hh w hw ((afters_upd hn).2 ha)
    · intro hh w hw ha; exact hh w hw ((afters_upd hn).1 ha)
theorem mayBe_ex {o : Oper} {Γ : Known} {a : Act} {i : Nat} (hΓ : Steady C R Γ) (hT : Γ i = fun _ => True) (hex : ∃ w, C w ∧ ∀ k, Γ k w) (h : stepAt P ops md C R Fs i o Γ a) : ∃ v, mayBe P ops md C Fs i o Γ a v := by
  obtain ⟨w, hw, hk⟩ := hex
  by_cases hwz : Region.wanted o (yielded ops a.tmps) = true
  rotate_left
  · exact ⟨undef, fun h' => absurd h' hwz, fun _ => rfl, w, hw, hk, fun h' => absurd h' hwz⟩
  unfold stepAt at h
  replace h := h hwz
  unfold mayBe factOf
  cases hF : Fs i with
  | none =>
    rw [hF] at h
    obtain ⟨u, hu⟩ := h
    exact ⟨u, fun _ _ => hu, fun h' => (by rw [hwz] at h'; cases h'), w, hw, hk, fun _ => trivial⟩
  | some F =>
    rw [hF] at h
    obtain ⟨v, w', c1, c2, c3⟩ := looseUpon_ex (h w hw (fun e _ _ => hk e.on))
    refine ⟨v, fun _ hn => by simp at hn, fun h' => (by rw [hwz] at h'; cases h'), w', c1, fun k => ?_, fun _ => c3⟩
    by_cases hki : k = i
    · subst hki; rw [hT]; trivial
    · exact hΓ k i (Ne.symm hki) w w' hw c2 (hk k)

/-- An operation that may come up now may be taken first. -/
theorem lzAny_first {i : Nat} {oi : Oper} {L : Known → Act → Prop} (hst : Steadies C R Fs)
    (hi : ops[i]? = some oi) (hsel : ∀ (j : Nat) (o : Oper) cs b, ops[j]? = some o → o.op ≠ .select cs b) :
    ∀ (f : Nat) (listed : Array Bool) (Γ : Known) (a : Act),
      (∀ j oj, ops[j]? = some oj → j ≠ i → listed.getD j true = false → (∀ e ∈ oj.after, Region.binds md e = true → e.on ≠ i) → oi.apart ops oj = true) →
      i ∈ Region.ready md ops listed → (∀ k, listed.getD k true = false → Γ k = fun _ => True) → Steady C R Γ → (∃ w, C w ∧ ∀ k, Γ k w) →
      stepAt P ops md C R Fs i oi Γ a →
      (∀ v, mayBe P ops md C Fs i oi Γ a v → lzAny P md ops C R Fs L f (listed.setIfInBounds i true) (upd Γ i (factOf ops Fs i oi a v)) (a.put oi.dst v)) → lzAny P md ops C R Fs L (f + 1) listed Γ a := by
  intro f
  induction f with
  | zero =>
    intro listed Γ a _ hr hT hΓ hex hs1 H
    have hun := (mem_ready.1 hr).1
    refine ⟨fun h => (by rw [h] at hr; cases hr), fun j hj => ?_⟩
    by_cases hji : j = i
    · subst hji; unfold lzOp; simp only [hi]; exact ⟨hs1, H⟩
    · obtain ⟨v, hv⟩ := mayBe_ex hΓ (hT i hun) hex hs1
      have h1 := ready_mono hj hji
      rw [(H v hv).1] at h1
      cases h1
  | succ f ih =>
    intro listed Γ a hfree hr hT hΓ hex hs1 H
    have hun := (mem_ready.1 hr).1
    refine ⟨fun h => (by rw [h] at hr; cases hr), fun j hj => ?_⟩
    by_cases hji : j = i
    · subst hji; unfold lzOp; simp only [hi]; exact ⟨hs1, H⟩
    · obtain ⟨v0, hv0⟩ := mayBe_ex hΓ (hT i hun) hex hs1
      obtain ⟨hjun, oj, hoj, hall⟩ := mem_ready.1 hj
      have hnot : ∀ e ∈ oj.after, Region.binds md e = true → e.on ≠ i := fun e he hb heq => by
        have h1 := hall e he hb
        rw [heq, getD_both hun] at h1
        cases h1
      obtain ⟨_, oi', hoi', halli⟩ := mem_ready.1 hr
      have hoe : oi' = oi := Option.some.inj (hoi'.symm.trans hi)
      subst hoe
      have hnoti : ∀ e ∈ oi'.after, Region.binds md e = true → e.on ≠ j := fun e he hb heq => by
        have h1 := halli e he hb
        rw [heq, getD_both hjun] at h1
        cases h1
      obtain ⟨p1, p2, p3⟩ := Oper.apart_spec (hfree j oj hoj hji hjun hnot)
      have si : ∀ cs b, oi'.op ≠ .select cs b := fun cs b => hsel i oi' cs b hi
      have sj : ∀ cs b, oj.op ≠ .select cs b := fun cs b => hsel j oj cs b hoj
      have hjv := fun v hv => by
        have h1 := (H v hv).2 j (ready_mono hj hji)
        unfold lzOp at h1
        simp only [hoj] at h1
        exact h1
      have hfree' : ∀ k ok, ops[k]? = some ok → k ≠ i → (listed.setIfInBounds j true).getD k true = false →
          (∀ e ∈ ok.after, Region.binds md e = true → e.on ≠ i) → oi'.apart ops ok = true := fun k ok hk hki hun hno => by
        refine hfree k ok hk hki ?_ hno
        by_cases hjk : j = k
        · subst hjk; exact hjun
        · rw [getD_set_ne true hjk] at hun; exact hun
      have hTj : Γ j = fun _ => True := hT j hjun
      obtain ⟨g2, -⟩ := hjv v0 hv0
      unfold lzOp
      simp only [hoj]
      refine ⟨(stepAt_move sj p1 hnot).1 g2, fun u hu => ?_⟩
      have hT' : ∀ k, (listed.setIfInBounds j true).getD k true = false → upd Γ j (factOf ops Fs j oj a u) k = fun _ => True := fun k hk => by
        have hkj : j ≠ k := fun e => by
          subst e
          rcases Nat.lt_or_ge j listed.size with h' | h'
          · simp [h'] at hk
          · simp [Array.getElem?_eq_none h'] at hjun
        rw [upd_ne _ _ (Ne.symm hkj)]
        rw [getD_set_ne true hkj] at hk
        exact hT k hk
      have hex' : ∃ w, C w ∧ ∀ k, upd Γ j (factOf ops Fs j oj a u) k w := by
        obtain ⟨w, c1, c2, c3⟩ := hu.2.2
        refine ⟨w, c1, fun k => ?_⟩
        by_cases hkj : k = j
        · subst hkj; rw [upd_same]; exact c3
        · rw [upd_ne _ _ hkj]; exact c2 k
      refine ih (listed.setIfInBounds j true) (upd Γ j (factOf ops Fs j oj a u)) (a.put oj.dst u) hfree' (ready_mono hr (Ne.symm hji)) hT' (known_upd hst hΓ j oj a u) hex'
        ((stepAt_move si p3 hnoti).2 hs1) (fun v hv => ?_)
      rw [factOf_move p3]
      obtain ⟨e1, e0, w, c1, c2, c3⟩ := hv
      rw [wanted_put oi' a oj.dst u p3] at e1 e0
      rw [factOf_move p3] at c3
      have c2' : ∀ k, Γ k w := fun k => by
        by_cases hkj : k = j
        · subst hkj; rw [hTj]; trivial
        · have := c2 k; rwa [upd_ne _ _ hkj] at this
      have hv' : mayBe P ops md C Fs i oi' Γ a v := ⟨fun hw hF => (oneAt_move si p3 hnoti).1 (e1 hw hF), e0, w, c1, c2', c3⟩
      have hu' : mayBe P ops md C Fs j oj (upd Γ i (factOf ops Fs i oi' a v)) (a.put oi'.dst v) u := by
        refine ⟨fun hw hF => (oneAt_move sj p1 hnot).2 (hu.1 (by rwa [wanted_put oj a oi'.dst v p1] at hw) hF), fun hw => hu.2.1 (by rwa [wanted_put oj a oi'.dst v p1] at hw), w, c1, fun k => ?_, ?_⟩
        · by_cases hki : k = i
          · subst hki; rw [upd_same]; exact c3
          · rw [upd_ne _ _ hki]; exact c2' k
        · rw [factOf_move p1]
          have := c2 j
          rwa [upd_same] at this
      have h3 := (hjv v hv').2 u hu'
      rw [factOf_move p1] at h3
      rw [Array.setIfInBounds_comm _ _ (Ne.symm hji), upd_comm _ _ _ (Ne.symm hji), Act.put_comm a v u p2] at h3
      exact h3

/-- The walk in the order of the text. -/
def wpLoose (P : Program) (ops : Array Oper) (md : Region.Mode) (C : World → Prop) (R : Nat → World → World → Prop) (Fs : Nat → Option Tale) (Q : Known → Act → Prop) : Nat → List Oper → Known → Act → Prop
  | _, [], Γ, a => Q Γ a
  | k, o :: rest, Γ, a => stepAt P ops md C R Fs k o Γ a ∧ ∀ v, mayBe P ops md C Fs k o Γ a v → wpLoose P ops md C R Fs Q (k + 1) rest (upd Γ k (factOf ops Fs k o a v)) (a.put o.dst v)

theorem lzAny_lex {Lq : Known → Act → Prop} (hst : Steadies C R Fs) (hsel : Region.noSelect ops = true) :
    ∀ (l : List Oper) (k : Nat) (listed : Array Bool) (Γ : Known) (a : Act), (∀ j, l[j]? = ops[k + j]?) →
    (∀ j, k ≤ j → Γ j = fun _ => True) → (∀ j, listed.getD j true = false → k ≤ j) → Steady C R Γ → (∃ w, C w ∧ ∀ k, Γ k w) →
    Region.lexFrom md ops l.length k listed = true → wpLoose P ops md C R Fs Lq k l Γ a →
    lzAny P md ops C R Fs Lq l.length listed Γ a
  | [], k, listed, Γ, a, _, _, _, _, _, hB, h => ⟨by simpa [Region.lexFrom] using hB, h⟩
  | o :: l, k, listed, Γ, a, hl, hT, hU, hΓ, hex, hB, h => by
    have h0 : ops[k]? = some o := by simpa using (hl 0).symm
    simp only [List.length_cons, Region.lexFrom, Bool.and_eq_true] at hB
    obtain ⟨⟨hr, hf⟩, hB'⟩ := hB
    have hr' : k ∈ Region.ready md ops listed := by simpa using hr
    have hun := (mem_ready.1 hr').1
    obtain ⟨h2, h3⟩ := h
    refine lzAny_first hst h0 (Region.noSelect_spec hsel) l.length listed Γ a (Region.free_spec h0 hf) hr' (fun j hj => hT j (hU j hj)) hΓ hex h2 (fun v hv => ?_)
    refine lzAny_lex hst hsel l (k + 1) _ _ _ (fun j => by have := hl (j + 1); simpa [Nat.add_assoc, Nat.add_comm 1 j] using this)
      (fun j hj => by rw [upd_ne _ _ (by omega)]; exact hT j (by omega)) (fun j hj => ?_) (known_upd hst hΓ k o a v) ?_ hB' (h3 v hv)
    · have hkj : k ≠ j := fun e => by
        subst e
        rcases Nat.lt_or_ge k listed.size with h' | h'
        · simp [h'] at hj
        · simp [Array.getElem?_eq_none h'] at hun
      rw [getD_set_ne true hkj] at hj
      have := hU j hj
      omega
    · obtain ⟨w, c1, c2, c3⟩ := hv.2.2
      refine ⟨w, c1, fun j => ?_⟩
      by_cases hjk : j = k
      · subst hjk; rw [upd_same]; exact c3
      · rw [upd_ne _ _ hjk]; exact c2 j
end

/-- One walk of the text's order. -/
theorem wp_region_loose {P : Program} {C : World → Prop} {R : Nat → World → World → Prop} {id : Nat} {Q : Exit → Act → World → Prop} {a : Act} {w : World} {l : List Oper} (Fs : Nat → Option Tale)
    (hm : P.follows .mixedOrders = true) (hB : Region.lexB .any l.toArray = true) (hC : C w.drew) (hst : Steadies C R Fs)
    (h : wpLoose P l.toArray .any C R Fs (fun Γ a' => ∀ w', C w' → (∀ k, Γ k w') → Q .normal a' w') 0 l noneKnown a) : (Code.region id l.toArray true).wp P Q a w := by
  simp only [Region.lexB, Bool.and_eq_true] at hB
  refine wp_region_any hm ?_
  have H := lzAny_lex (P := P) (C := C) (R := R) (md := .any) (ops := l.toArray) hst hB.1 l 0 (Array.replicate l.toArray.size false) noneKnown a (by simp) (fun _ _ => rfl) (fun _ _ => Nat.zero_le _) (fun _ _ _ _ _ _ _ _ => trivial) ⟨_, hC, fun _ => trivial⟩ (by simpa using hB.2) h
  exact wpAny_of_lzAny (L := fun Γ a' => ∀ w', C w' → (∀ k, Γ k w') → Q .normal a' w') hst (fun Γ a' w' hc hk hL => hL w' hc hk) _ _ noneKnown a w.drew (fun _ _ _ _ _ _ _ _ => trivial) (fun _ _ => rfl) hC (fun _ => trivial) (by simpa using H)

attribute [go_sem] looseUpon
def oneUpon (u : Value) (w : World) : Result Next → Prop
  | .ok (.value v) w' => v = u ∧ w' = w
  | _ => False
attribute [go_sem] oneUpon
theorem oneUpon_eq {u : Value} {w : World} : ∀ {r : Result Next}, oneUpon u w r → r = .ok (.value u) w
  | .ok (.value v) w', ⟨h1, h2⟩ => by rw [h1, h2]
  | .ok (.enter _ _) _, h => h.elim
  | .ok .skip _, h => h.elim
  | .ok (.defer _) _, h => h.elim
  | .halt _ _, h => h.elim

section
variable {P : Program} {ops : Array Oper} {md : Region.Mode} {C : World → Prop} {R : Nat → World → World → Prop} {Fs : Nat → Option Tale} {Q : Known → Act → Prop}
/-- An operation of one value. -/
theorem lz_one {k : Nat} {o : Oper} {rest : List Oper} {Γ : Known} {a : Act} (hF : Fs k = none)
    (h : ∀ K : Known → Act → Prop, (∀ Γ a, wpLoose P ops md C R Fs Q (k + 1) rest Γ a → K Γ a) → Region.wanted o (yielded ops a.tmps) = true ∧ ∃ u, (∀ w, C w → oneUpon u w ((execOp a.eval o).run P w)) ∧ K (upd Γ k fun _ => True) (a.put o.dst u)) :
    wpLoose P ops md C R Fs Q k (o :: rest) Γ a := by
  obtain ⟨hw, u, h1, h2⟩ := h _ (fun _ _ h => h)
  have h1' : ∀ w, C w → (execOp a.eval o).run P w = .ok (.value u) w := fun w hc => oneUpon_eq (h1 w hc)
  refine ⟨?_, fun v hv => ?_⟩
  · unfold stepAt; rw [hF]; exact fun _ => ⟨u, fun w hc _ => h1' w hc⟩
  · obtain ⟨e1, -, w, c1, c2, c3⟩ := hv
    have e2 := e1 hw hF w c1 (fun e _ _ => c2 e.on)
    rw [h1' w c1] at e2
    injection e2 with e3 e4
    injection e3 with e5
    subst e5
    have e6 : factOf ops Fs k o a u = fun _ => True := by funext w; unfold factOf; rw [hF]; simp
    rw [e6]
    exact h2
/-- An operation of many values. -/
theorem lz_many (F : Tale) {k : Nat} {o : Oper} {rest : List Oper} {Γ : Known} {a : Act} (hF : Fs k = some F)
    (h : ∀ K : Known → Act → Prop, (∀ Γ a, wpLoose P ops md C R Fs Q (k + 1) rest Γ a → K Γ a) → Region.wanted o (yielded ops a.tmps) = true ∧
      (∀ w, C w → (∀ e ∈ o.after, Region.binds md e = true → Γ e.on w) → looseUpon P (fun v w' => C w' ∧ R k w w' ∧ F (seenBy ops o a) v w') ((execOp a.eval o).run P w)) ∧
      ∀ v w, C w → F (seenBy ops o a) v w → K (upd Γ k (F (seenBy ops o a) v)) (a.put o.dst v)) :
    wpLoose P ops md C R Fs Q k (o :: rest) Γ a := by
  obtain ⟨hw, h1, h2⟩ := h _ (fun _ _ h => h)
  refine ⟨?_, fun v hv' => ?_⟩
  · unfold stepAt; rw [hF]
    exact fun _ => h1
  · obtain ⟨-, -, w, c1, c2, c3⟩ := hv'
    have e6 : factOf ops Fs k o a v = F (seenBy ops o a) v := by funext w; unfold factOf; rw [hF]; simp [hw]
    rw [e6] at c3 ⊢
    exact h2 v w c1 c3
/-- An operation that its guard leaves out. -/
theorem lz_skip {k : Nat} {o : Oper} {rest : List Oper} {Γ : Known} {a : Act}
    (h : ∀ K : Known → Act → Prop, (∀ Γ a, wpLoose P ops md C R Fs Q (k + 1) rest Γ a → K Γ a) → Region.wanted o (yielded ops a.tmps) = false ∧ K (upd Γ k fun _ => True) (a.put o.dst undef)) :
    wpLoose P ops md C R Fs Q k (o :: rest) Γ a := by
  obtain ⟨hw, h2⟩ := h _ (fun _ _ h => h)
  refine ⟨fun h' => (by rw [hw] at h'; cases h'), fun v hv => ?_⟩
  obtain ⟨-, e0, w, c1, c2, c3⟩ := hv
  obtain rfl := e0 hw
  have e6 : factOf ops Fs k o a undef = fun _ => True := by funext w; unfold factOf; simp [hw]
  rw [e6]
  exact h2
theorem lz_nil {k : Nat} {Γ : Known} {a : Act} (h : Q Γ a) : wpLoose P ops md C R Fs Q k [] Γ a := h
end
end Go.Proofs.YtphebmbapllinaaDoor
