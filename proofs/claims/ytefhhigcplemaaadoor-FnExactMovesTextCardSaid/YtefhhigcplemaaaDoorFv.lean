/- The frame of a law whose program reads tables of its own: what they hold is read behind the call as before. -/
import Derived.Test.YtefhhigcplemaaaDoorFr
import Derived.OpenVars
namespace Go.Proofs.YtefhhigcplemaaaDoor
open Go.RowKit Go.ChangeShapes Go.WideShapes Go.ChangeAt
set_option linter.unusedVariables false
set_option linter.unusedSimpArgs false

section
variable {P : Program} {H : Type} {enc : TypeId × Value → H} {W W' : World}
theorem law_postv {f : Func} {s : ChangeSpec} {apart fresh handsOn : Bool} {args : Array Value} {ds gs : List (DataW H)} {before p q : List MemPlace} (hl : laidOutB P = true)
    (hW : DataW.Whole enc P f.params.toList s.vars apart W args.toList ds gs before)
    (hT : DataW.TrodAll enc P W 0 (fun _ => true) true f.params.toList args.toList ds p) (hq : before = p ++ q)
    (hread : (f.params.toList.all fun t => P.readableRec t && decide (t < P.types.size)) = true)
    (hvr : varsRowed P s.vars = true) (hV : DataW.TrodVars enc P W (fun _ => true) s.vars gs q) (hvs : (s.fn H (ds ++ gs)).vars = gs)
    (hfn : (s.fn H (ds ++ gs)).args = ds) (hres : (s.fn H (ds ++ gs)).results = [.lit (.bool true)]) {tb : TypeId} (hrt : f.resultTypes = #[tb]) (htb : P.underlying tb = some .bool)
    (hb : Below W.heap.size W W') : s.post enc P f apart fresh handsOn false W args (.bool true) W' := by
  have hlt : ∀ x ∈ before, x.block < W.heap.size := fun x hx => hW.lt x hx
  refine ⟨ds, gs, before, [], p, q, hW, ?_, ?_, ?_, World.keptBut_mono (fun x hx => ⟨hx, by rw [hq, List.mem_append] at hx; exact .inr hx⟩) (hb.frame (· ∈ before)), fun h => nomatch h⟩
  · rw [hrt, hres]
    exact trodAll_cons_mk (shut_bool htb true) trodAll_mk0
  · rw [hfn]
    exact trodAll_later hl hb hread (fun x hx => hlt x (by rw [hq]; exact List.mem_append.2 (.inl hx))) hT
  · rw [hvs]
    exact Below.trodVars hl hb hvr hV
/-- How many named variables a law has: their data. -/
theorem vars_one {n : String} {gs : List (DataW H)} {q : List MemPlace} (h : DataW.TrodVars enc P W (fun _ => true) [n] gs q) : ∃ g, gs = [g] := by
  cases gs with
  | nil => exact h.elim
  | cons g r => cases r with
    | nil => exact ⟨g, rfl⟩
    | cons g' r' => obtain ⟨_, _, _, _, _, _, -, -, -, -, h, -⟩ := h; exact h.elim
theorem vars_two {n m : String} {gs : List (DataW H)} {q : List MemPlace} (h : DataW.TrodVars enc P W (fun _ => true) [n, m] gs q) : ∃ g g', gs = [g, g'] := by
  cases gs with
  | nil => exact h.elim
  | cons g r =>
    obtain ⟨_, _, _, _, _, _, -, -, -, -, h, -⟩ := h
    obtain ⟨g', rfl⟩ := vars_one h
    exact ⟨g, g', rfl⟩
theorem vars_three {n m k : String} {gs : List (DataW H)} {q : List MemPlace} (h : DataW.TrodVars enc P W (fun _ => true) [n, m, k] gs q) : ∃ g g' g'', gs = [g, g', g''] := by
  cases gs with
  | nil => exact h.elim
  | cons g r =>
    obtain ⟨_, _, _, _, _, _, -, -, -, -, h, -⟩ := h
    obtain ⟨g', g'', rfl⟩ := vars_two h
    exact ⟨g, g', g'', rfl⟩
theorem vars_four {n m k l : String} {gs : List (DataW H)} {q : List MemPlace} (h : DataW.TrodVars enc P W (fun _ => true) [n, m, k, l] gs q) : ∃ g g' g'' g3, gs = [g, g', g'', g3] := by
  cases gs with
  | nil => exact h.elim
  | cons g r =>
    obtain ⟨_, _, _, _, _, _, -, -, -, -, h, -⟩ := h
    obtain ⟨g', g'', g3, rfl⟩ := vars_three h
    exact ⟨g, g', g'', g3, rfl⟩
end
end Go.Proofs.YtefhhigcplemaaaDoor
