/- ReadChain in the model: piece by piece. -/
import Derived.Test.YtphebmbapllinaaDoorT42
import Derived.Test.YtphebmbapllinaaDoorC13a
import Derived.Test.YtphebmbapllinaaDoorT11
namespace Go.Proofs.YtphebmbapllinaaDoor
open Go.RowKit Go.ChangeShapes Go.WideShapes Go.ChangeAt
set_option linter.unusedVariables false
set_option linter.unusedSimpArgs false

theorem rdS_valid (l : List UInt8) (h : (rdS l).2 = 0) : fg (rdS l).1.1 (rdS l).1.2 = true := by
  rw [← rdI_rdS] at h ⊢
  rcases read_text ⟨l.toArray⟩ with h0 | ⟨d, t, h1, h2, -⟩
  · exact absurd h h0
  have h2 : rdI l = ((d, t), 0) := h2
  rw [h2]; exact h1
theorem pc_take {l : List UInt8} {fr i : Nat} {c : UInt8} (hi : l[i]? = some c) (hf : fr ≤ i) : (l.take (i + 1)).drop fr = (l.take i).drop fr ++ [c] := by
  obtain ⟨h, e⟩ := List.getElem?_eq_some_iff.1 hi
  rw [List.take_succ_eq_append_getElem h, e, List.drop_append_of_le_length (by rw [List.length_take]; omega)]
theorem pc_drop {l : List UInt8} {i : Nat} {c : UInt8} (hi : l[i]? = some c) : l.drop i = c :: l.drop (i + 1) := by
  obtain ⟨h, e⟩ := List.getElem?_eq_some_iff.1 hi
  rw [List.drop_eq_getElem_cons h, e]
/-- Where the model stands: what is read, the piece's sign and start, the place. -/
def PcR (l : List UInt8) (zs : List Tm) (dvv : Bool) (fr i : Nat) : Prop :=
  ∃ ps : List (Bool × List UInt8), ps.all (okP rdS) = true ∧ zs = ps.map (tmP rdS) ∧ ((i ≤ l.length ∧ fr ≤ i ∧ prtS false [] l = ps ++ prtS dvv ((l.take i).drop fr) (l.drop i)) ∨ (i = l.length + 1 ∧ prtS false [] l = ps))
theorem PcR.zero (l : List UInt8) : PcR l [] false 0 0 := ⟨[], rfl, rfl, .inl ⟨Nat.zero_le _, Nat.le_refl _, by simp⟩⟩
theorem PcR.step {l : List UInt8} {zs : List Tm} {dvv : Bool} {fr i : Nat} {c : UInt8} (h : PcR l zs dvv fr i) (hi : l[i]? = some c) (hc : isSg c = false) : PcR l zs dvv fr (i + 1) := by
  obtain ⟨ps, h1, h2, h3⟩ := h
  have hl := (List.getElem?_eq_some_iff.1 hi).1
  rcases h3 with ⟨a, b, e⟩ | ⟨a, -⟩
  · refine ⟨ps, h1, h2, .inl ⟨by omega, by omega, ?_⟩⟩
    rw [e, pc_drop hi, prtS_no _ _ _ _ hc, pc_take hi b]
  · omega
theorem PcR.sign {l : List UInt8} {zs : List Tm} {dvv : Bool} {fr i : Nat} {c : UInt8} (h : PcR l zs dvv fr i) (hi : l[i]? = some c) (hc : isSg c = true) (ho : (rdS ((l.take i).drop fr)).2 = 0) :
    PcR l (zs ++ [((rdS ((l.take i).drop fr)).1.1, (rdS ((l.take i).drop fr)).1.2, dvv)]) (c == 47) (i + 1) (i + 1) := by
  obtain ⟨ps, h1, h2, h3⟩ := h
  have hl := (List.getElem?_eq_some_iff.1 hi).1
  rcases h3 with ⟨a, b, e⟩ | ⟨a, -⟩
  · refine ⟨ps ++ [(dvv, (l.take i).drop fr)], ?_, by rw [h2, List.map_append]; rfl, .inl ⟨by omega, by omega, ?_⟩⟩
    · rw [List.all_append, h1]
      simp only [List.all_cons, List.all_nil, okP, Bool.and_true, Bool.true_and]
      exact decide_eq_true ho
    · have e0 : (l.take (i + 1)).drop (i + 1) = [] := List.drop_eq_nil_of_le (by rw [List.length_take]; omega)
      rw [e, pc_drop hi, prtS_sg _ _ _ _ hc, e0, List.append_assoc]
      rfl
  · omega
theorem PcR.last {l : List UInt8} {zs : List Tm} {dvv : Bool} {fr : Nat} (h : PcR l zs dvv fr l.length) (ho : (rdS ((l.take l.length).drop fr)).2 = 0) (b : Bool) (f2 : Nat) :
    PcR l (zs ++ [((rdS ((l.take l.length).drop fr)).1.1, (rdS ((l.take l.length).drop fr)).1.2, dvv)]) b f2 (l.length + 1) := by
  obtain ⟨ps, h1, h2, h3⟩ := h
  rcases h3 with ⟨a, b, e⟩ | ⟨a, -⟩
  · refine ⟨ps ++ [(dvv, (l.take l.length).drop fr)], ?_, by rw [h2, List.map_append]; rfl, .inr ⟨rfl, ?_⟩⟩
    · rw [List.all_append, h1]
      simp only [List.all_cons, List.all_nil, okP, Bool.and_true, Bool.true_and]
      exact decide_eq_true ho
    · rw [e, List.drop_length, prtS_nil]
  · omega
theorem PcR.bad {l : List UInt8} {zs : List Tm} {dvv : Bool} {fr i : Nat} (h : PcR l zs dvv fr i) (hi : i = l.length ∨ ∃ c, l[i]? = some c ∧ isSg c = true) (ho : ¬ (rdS ((l.take i).drop fr)).2 = 0) : rcA (rcO rdS l) = ([], 6) := by
  obtain ⟨ps, h1, h2, h3⟩ := h
  have hm : (dvv, (l.take i).drop fr) ∈ prtS false [] l := by
    rcases h3 with ⟨a, b, e⟩ | ⟨a, -⟩
    · rw [e]
      rcases hi with rfl | ⟨c, hi, hc⟩
      · rw [List.drop_length, prtS_nil]; simp
      · rw [pc_drop hi, prtS_sg _ _ _ _ hc]; simp
    · rcases hi with rfl | ⟨c, hi, hc⟩
      · omega
      · have := (List.getElem?_eq_some_iff.1 hi).1; omega
  unfold rcO
  rw [rcP_bad rdS hm (decide_eq_false ho)]
  rfl
theorem prtS_head (l cur : List UInt8) : ∃ q r, prtS false cur l = (false, q) :: r := by
  induction l generalizing cur with
  | nil => exact ⟨cur, [], rfl⟩
  | cons c r ih =>
    cases hc : isSg c
    · rw [prtS_no _ _ _ _ hc]; exact ih _
    · rw [prtS_sg _ _ _ _ hc]; exact ⟨cur, _, rfl⟩
theorem PcR.done {l : List UInt8} {zs : List Tm} {dvv : Bool} {fr i : Nat} (h : PcR l zs dvv fr i) (hi : l.length < i) : rcA (rcO rdS l) = if chnB zs = true then (zs, 0) else ([], 6) := by
  obtain ⟨ps, h1, h2, h3⟩ := h
  rcases h3 with ⟨a, b, e⟩ | ⟨a, e⟩
  · omega
  · unfold rcO
    rw [e]
    unfold rcP
    have hlen : zs.length = ps.length := by rw [h2, List.length_map]
    have h0 : ∃ q r, ps = (false, q) :: r := by
      rw [← e]
      exact prtS_head _ _
    obtain ⟨q, r, hq⟩ := h0
    have hch : chnB zs = decide (ps.length ≤ 6) := by
      rw [Bool.eq_iff_iff, chnB_iff, decide_eq_true_eq, hlen]
      constructor
      · rintro ⟨⟨-, h⟩, -⟩; exact h
      · intro h
        refine ⟨⟨by rw [hq]; simp, h⟩, by rw [h2, hq]; rfl, ?_⟩
        rw [h2, List.all_eq_true]
        intro m hm
        obtain ⟨p, hp, rfl⟩ := List.mem_map.1 hm
        exact rdS_valid _ (of_decide_eq_true (List.all_eq_true.1 h1 p hp))
    rw [hch]
    by_cases h6 : ps.length ≤ 6
    · rw [if_pos ⟨h1, h6⟩, if_pos (decide_eq_true h6), h2]; rfl
    · rw [if_neg (fun h => h6 h.2), if_neg (by rw [decide_eq_false h6]; simp)]; rfl
end Go.Proofs.YtphebmbapllinaaDoor
