/- Plain mathematics, merged. -/
import Derived.Test.YtphebmbapllinaaDoorD1
import Derived.Below
import Derived.Carry
import Derived.ChangeSlices
import Derived.OpenVars
/- The frame of a law's proof: arguments read as before where nothing below the old heap has turned; opening a code of bytes. -/
namespace Go.Proofs.YtphebmbapllinaaDoor
open Go.RowKit Go.ChangeShapes Go.WideShapes Go.ChangeAt
set_option linter.unusedVariables false
set_option linter.unusedSimpArgs false

theorem laidOut : laidOutB Tryd.prog = true := by kernel_rfl

theorem u8_bd {z : Int} (hw : (Lit.int .u8 z).wf = true) : 0 ≤ z ∧ z < 256 := by
  simp only [Lit.wf, Bool.and_eq_true, decide_eq_true_eq] at hw
  have h1 : (0 : Int) ≤ z := hw.1
  have h2 : z ≤ (255 : Int) := hw.2
  omega

section
variable {P : Program} {H : Type} {enc : TypeId × Value → H} {W W' : World}

theorem trodAll_later (hl : laidOutB P = true) (hb : Below W.heap.size W W') : ∀ {ts : List TypeId} {vs : List Value} {ds : List (DataW H)} {ps : List MemPlace},
    (ts.all fun t => P.readableRec t && decide (t < P.types.size)) = true → (∀ x ∈ ps, x.block < W.heap.size) →
    DataW.TrodAll enc P W 0 (fun _ => true) true ts vs ds ps → DataW.TrodAll enc P W' 0 (fun b => decide (b < W.heap.size)) true ts vs ds ps
  | [], _, _, _, _, _, h => by
    obtain ⟨rfl, rfl, rfl⟩ := trodAll_nil h
    exact trodAll_mk0
  | t :: ts, _, _, _, hr, hlt, h => by
    obtain ⟨v, vs, d, ds, p, q, rfl, rfl, rfl, h1, h2⟩ := trodAll_cons h
    rw [List.all_cons, Bool.and_eq_true] at hr
    have h0 := hr.1
    rw [Bool.and_eq_true, decide_eq_true_eq] at h0
    exact trodAll_cons_mk (Below.trod hl h0.1 h0.2 h1 hb fun x hx => hlt x (List.mem_append.2 (.inl hx))) (trodAll_later hl hb hr.2 (fun x hx => hlt x (List.mem_append.2 (.inr hx))) h2)

/-- A law that answered true and left the old memory alone meets its row. -/
theorem law_post {f : Func} {s : ChangeSpec} {apart fresh handsOn : Bool} {args : Array Value} {ds gs : List (DataW H)} {before p q : List MemPlace} (hl : laidOutB P = true)
    (hW : DataW.Whole enc P f.params.toList s.vars apart W args.toList ds gs before)
    (hT : DataW.TrodAll enc P W 0 (fun _ => true) true f.params.toList args.toList ds p) (hq : before = p ++ q)
    (hread : (f.params.toList.all fun t => P.readableRec t && decide (t < P.types.size)) = true)
    (hvars : ∀ sp : Nat → Bool, (∀ x ∈ before, sp x.block = true) → DataW.TrodVars enc P W' sp s.vars (s.fn H (ds ++ gs)).vars q)
    (hfn : (s.fn H (ds ++ gs)).args = ds) (hres : (s.fn H (ds ++ gs)).results = [.lit (.bool true)]) {tb : TypeId} (hrt : f.resultTypes = #[tb]) (htb : P.underlying tb = some .bool)
    (hb : Below W.heap.size W W') : s.post enc P f apart fresh handsOn false W args (.bool true) W' := by
  have hlt : ∀ x ∈ before, x.block < W.heap.size := fun x hx => hW.lt x hx
  refine ⟨ds, gs, before, [], p, q, hW, ?_, ?_, hvars _ fun x hx => by simpa using hlt x hx, World.keptBut_mono (fun x hx => ⟨hx, by rw [hq, List.mem_append] at hx; exact .inr hx⟩) (hb.frame (· ∈ before)), fun h => nomatch h⟩
  · rw [hrt, hres]
    exact trodAll_cons_mk (shut_bool htb true) trodAll_mk0
  · rw [hfn]
    exact trodAll_later hl hb hread (fun x hx => hlt x (by rw [hq]; exact List.mem_append.2 (.inl hx))) hT

/-- A slice of bytes, opened. -/
theorem open_code {t e : TypeId} {v : Value} {d : DataW H} {ps : List MemPlace} (ht : P.underlying t = some (.slice e)) (he : P.underlying e = some (.int .u8)) (hc : P.cellsOf e = 1) {r : Reach} {b0 : Nat}
    (hval : Value.okWide P W r b0 t v) (h : DataW.Trod enc P W 0 (fun _ => true) true t v d ps) :
    ∃ (A : Option Addr) (n c : Nat), v = .slice A n c ∧ n ≤ maxLen ∧ Bytes W W.heap.size A n := by
  obtain ⟨A, n, c, rfl⟩ := okWide_slice ht hval
  obtain ⟨fuel, hf⟩ := h
  rcases open_ints ht he hc hf with ⟨hv, -⟩ | ⟨a, len, cap, zs, hv, hbase, hlen, hcap, hz, -, hcell, hwf⟩
  · simp [Value.cells] at hv
    obtain ⟨rfl, rfl, rfl⟩ := hv
    exact ⟨none, 0, 0, rfl, by simp [maxLen], fun k hk => absurd hk (by omega)⟩
  · simp [Value.cells] at hv
    obtain ⟨rfl, rfl, rfl⟩ := hv
    refine ⟨some a, n, c, rfl, by omega, fun k hk => ?_⟩
    simp at hz
    have hkz : k < zs.length := by omega
    have h1 := hcell k hkz
    have hs : a.spot = none := by
      have h0 := hcell 0 (by omega)
      cases hsp : a.spot with
      | none => rfl
      | some s =>
        have : (a.add 0) = a := by unfold Addr.add; simp
        rw [this] at h0
        unfold World.cell? at h0
        rw [hsp] at h0
        split at h0 <;> simp at h0
    obtain ⟨g, o, sp⟩ := a
    simp at hs
    subst hs
    have hadd : (⟨g, o, none⟩ : Addr).add k = ⟨g, o + k, none⟩ := add_plain ..
    rw [hadd] at h1
    have hw := hwf (zs.getD k 0) (by simp [List.getD, hkz])
    generalize zs.getD k 0 = z at *
    have hw := u8_bd hw
    obtain ⟨x, rfl⟩ := Int.eq_ofNat_of_zero_le (show 0 ≤ z by omega)
    exact ⟨g, o, x, rfl, World.block_lt_of_cell? W _ h1, by omega, h1⟩
end
/-- The law answered true, and the old memory is as it was. -/
def LawDone (w : World) (e : Ending) (w' : World) : Prop := e = .returned (.bool true) ∧ Below w.heap.size w w'
end Go.Proofs.YtphebmbapllinaaDoor

/- The frame of a law whose program reads tables of its own: what they hold is read behind the call as before. -/
namespace Go.Proofs.YtphebmbapllinaaDoor
open Go.RowKit Go.ChangeShapes Go.WideShapes Go.ChangeAt
set_option linter.unusedVariables false
set_option linter.unusedSimpArgs false

section
variable {P : Program} {H : Type} {enc : TypeId × Value → H} {W W' : World}
theorem law_postv {f : Func} {s : ChangeSpec} {apart fresh handsOn : Bool} {args : Array Value} {ds gs : List (DataW H)} {before p q : List MemPlace} (hl : laidOutB P = true)
    (hW : DataW.Whole enc P f.params.toList s.vars apart W args.toList ds gs before)
    (hT : DataW.TrodAll enc P W 0 (fun _ => true) true f.params.toList args.toList ds p) (hq : before = p ++ q)
    (hread : (f.params.toList.all fun t => P.readableRec t && decide (t < P.types.size)) = true)
    (hvr : varsRowed P s.vars = true) (hV : DataW.TrodVars enc P W (fun _ => true) s.vars gs q) (hvs : (s.fn H (ds ++ gs)).vars = gs)
    (hfn : (s.fn H (ds ++ gs)).args = ds) (hres : (s.fn H (ds ++ gs)).results = [.lit (.bool true)]) {tb : TypeId} (hrt : f.resultTypes = #[tb]) (htb : P.underlying tb = some .bool)
    (hb : Below W.heap.size W W') : s.post enc P f apart fresh handsOn false W args (.bool true) W' := by
  have hlt : ∀ x ∈ before, x.block < W.heap.size := fun x hx => hW.lt x hx
  refine ⟨ds, gs, before, [], p, q, hW, ?_, ?_, ?_, World.keptBut_mono (fun x hx => ⟨hx, by rw [hq, List.mem_append] at hx; exact .inr hx⟩) (hb.frame (· ∈ before)), fun h => nomatch h⟩
  · rw [hrt, hres]
    exact trodAll_cons_mk (shut_bool htb true) trodAll_mk0
  · rw [hfn]
    exact trodAll_later hl hb hread (fun x hx => hlt x (by rw [hq]; exact List.mem_append.2 (.inl hx))) hT
  · rw [hvs]
    exact Below.trodVars hl hb hvr hV
/-- How many named variables a law has: their data. -/
theorem vars_one {n : String} {gs : List (DataW H)} {q : List MemPlace} (h : DataW.TrodVars enc P W (fun _ => true) [n] gs q) : ∃ g, gs = [g] := by
  cases gs with
  | nil => exact h.elim
  | cons g r => cases r with
    | nil => exact ⟨g, rfl⟩
    | cons g' r' => obtain ⟨_, _, _, _, _, _, -, -, -, -, h, -⟩ := h; exact h.elim
theorem vars_two {n m : String} {gs : List (DataW H)} {q : List MemPlace} (h : DataW.TrodVars enc P W (fun _ => true) [n, m] gs q) : ∃ g g', gs = [g, g'] := by
  cases gs with
  | nil => exact h.elim
  | cons g r =>
    obtain ⟨_, _, _, _, _, _, -, -, -, -, h, -⟩ := h
    obtain ⟨g', rfl⟩ := vars_one h
    exact ⟨g, g', rfl⟩
theorem vars_three {n m k : String} {gs : List (DataW H)} {q : List MemPlace} (h : DataW.TrodVars enc P W (fun _ => true) [n, m, k] gs q) : ∃ g g' g'', gs = [g, g', g''] := by
  cases gs with
  | nil => exact h.elim
  | cons g r =>
    obtain ⟨_, _, _, _, _, _, -, -, -, -, h, -⟩ := h
    obtain ⟨g', g'', rfl⟩ := vars_two h
    exact ⟨g, g', g'', rfl⟩
theorem vars_four {n m k l : String} {gs : List (DataW H)} {q : List MemPlace} (h : DataW.TrodVars enc P W (fun _ => true) [n, m, k, l] gs q) : ∃ g g' g'' g3, gs = [g, g', g'', g3] := by
  cases gs with
  | nil => exact h.elim
  | cons g r =>
    obtain ⟨_, _, _, _, _, _, -, -, -, -, h, -⟩ := h
    obtain ⟨g', g'', g3, rfl⟩ := vars_three h
    exact ⟨g, g', g'', g3, rfl⟩
end
end Go.Proofs.YtphebmbapllinaaDoor
