/- Contracts of chapter 9: IsChoice and WorthOf. -/
import Derived.Test.YtlimfpdibohioabDoorC09e
namespace Go.Proofs.YtlimfpdibohioabDoor
open Go.RowKit Go.Shelf
set_option linter.unusedVariables false
set_option linter.unusedSimpArgs false

/-- The worth of a list of indices. -/
def suW (zs : List P3) (cs : List Int) : Int := (cs.map fun c => woN zs c.toNat).sum
theorem suW_nil (zs : List P3) : suW zs [] = 0 := rfl
theorem suW_take (zs : List P3) (cs : List Int) (k : Nat) (hk : k < cs.length) : suW zs (cs.take (k + 1)) = suW zs (cs.take k) + woN zs (cs.getD k 0).toNat := by
  have e : cs.getD k 0 = cs[k] := by rw [List.getD_eq_getElem?_getD, List.getElem?_eq_getElem hk]; rfl
  unfold suW
  rw [List.take_succ_eq_append_getElem hk, List.map_append, List.sum_append, e]
  simp
theorem suW_bd {zs : List P3} (ha : allL zs = true) (cs : List Int) : 0 ≤ suW zs cs ∧ suW zs cs ≤ 41 * (cs.length : Int) := by
  induction cs with
  | nil => simp [suW]
  | cons c r ih =>
    have := woN_bd ha c.toNat
    unfold suW at *
    rw [List.map_cons, List.sum_cons, List.length_cons]
    omega
def icE (zs : List P3) : Int := lbE zs
def icV (zs : List P3) (cs : List Int) : Bool := if lbE zs = 0 then chB zs cs else false
def wtE (zs : List P3) (cs : List Int) : Int := if lbE zs = 0 then if chB zs cs = true then 0 else 5 else lbE zs
def wtV (zs : List P3) (cs : List Int) : Int := if wtE zs cs = 0 then suW zs cs else 0
theorem wt_cases (zs : List P3) (cs : List Int) : (lbE zs ≠ 0 ∧ wtE zs cs = lbE zs ∧ wtV zs cs = 0) ∨ (lbE zs = 0 ∧ chB zs cs = false ∧ wtE zs cs = 5 ∧ wtV zs cs = 0) ∨ (lbE zs = 0 ∧ chB zs cs = true ∧ wtE zs cs = 0 ∧ wtV zs cs = suW zs cs) := by
  by_cases h : lbE zs = 0
  · cases h2 : chB zs cs
    · have e : wtE zs cs = 5 := by unfold wtE; rw [if_pos h, h2]; rfl
      exact .inr (.inl ⟨h, rfl, e, by unfold wtV; rw [if_neg (by omega)]⟩)
    · have e : wtE zs cs = 0 := by unfold wtE; rw [if_pos h, h2]; rfl
      exact .inr (.inr ⟨h, rfl, e, by unfold wtV; rw [if_pos e]⟩)
  · have e : wtE zs cs = lbE zs := by unfold wtE; rw [if_neg h]
    exact .inl ⟨h, e, by unfold wtV; rw [if_neg (by omega)]⟩

set_option maxRecDepth 100000 in
theorem ic_spec (A : Option Addr) (n c : Nat) (zs : List P3) (B : Option Addr) (m d : Nat) (cs : List Int) (w : World) (hn : zs.length = n) (hN : n ≤ 16777216) (hA : Reads w w.heap.size A (cells3 zs)) (hm : cs.length = m) (hM : m ≤ 16777216) (hB : Reads w w.heap.size B (cs.map vi)) :
    Calls Tryd.prog 14 #[.slice A n c, .slice B m d] w fun e w' => e = .returned (.tuple #[.bool (icV zs cs), .int .i64 (lbE zs)]) ∧ Gr w w' := by
  have HC := Lib.hid (lbcode_spec A n c zs w hn hN hA)
  have HV := Lib.hid (show icV zs cs = if lbE zs = 0 then chB zs cs else false from rfl)
  by_cases h : lbE zs = 0
  · have HI := Lib.hid (fun W (hg : Gr w W) => choice_spec A n c zs B m d cs W hn hN (hA.gr hg) (lbE_zero h).2 hm hM (hB.gr hg))
    rw [if_pos h] at HV
    rw [h] at HC ⊢
    generalize icV zs cs = v at *
    generalize chB zs cs = b at *
    clear h hA hB hn hm
    go_enter Tryd.func14, Tryd.ntmps14
    go_wp2_with fail
    refine (HC.out).mono ?_
    rintro e w' ⟨rfl, hg1⟩
    go_wp2_with fail
    refine (HI.out _ hg1).mono ?_
    rintro e w2 ⟨rfl, hg2⟩
    go_wp2_with fail
    ((try simp only [Exit.inBlock, Exit.then]); refine bodyPost_ret (v := .tuple #[.bool b, .int .i64 0]) (by simp [results, Tryd.results14, go_sem]) rfl ?_)
    exact ⟨by rw [HV.out], hg1.trans hg2⟩
  · rw [if_neg h] at HV
    generalize icV zs cs = v at *
    have hc0 : (lbE zs == 0) = false := by simpa using h
    generalize lbE zs = cd at *
    clear hA hB hn hm
    go_enter Tryd.func14, Tryd.ntmps14
    go_wp2_with fail
    refine (HC.out).mono ?_
    rintro e w' ⟨rfl, hg1⟩
    go_wp2_with fail
    ((try simp only [Exit.inBlock, Exit.then]); refine bodyPost_ret (v := .tuple #[.bool false, .int .i64 cd]) (by simp [results, Tryd.results14, go_sem]) rfl ?_)
    exact ⟨by rw [HV.out], hg1⟩
set_option maxRecDepth 100000 in
theorem ic_impl (A : Option Addr) (n c : Nat) (zs : List P3) (B : Option Addr) (m d : Nat) (cs : List Int) (w : World) (ht : Tab w) (hn : zs.length = n) (hN : n ≤ 16777216) (hA : Reads w w.heap.size A (cells3 zs)) (hm : cs.length = m) (hM : m ≤ 2000000) (hmd : m ≤ d) (hB : Reads w w.heap.size B (cs.map vi)) :
    Calls Tryd.prog 17 #[.slice A n c, .slice B m d] w fun e w' => e = .returned (.tuple #[.bool (icV zs cs), .int .i64 (lbE zs)]) ∧ Gr w w' := by
  have HC := Lib.hid (lbcode_impl A n c zs w hn hN hA)
  have HV := Lib.hid (show icV zs cs = if lbE zs = 0 then chB zs cs else false from rfl)
  by_cases h : lbE zs = 0
  · have h40 := (lbE_zero h).1
    have HI := Lib.hid (fun W (hg : Gr w W) => choice_impl A n c zs B m d cs W (ht.gr hg) hn (by omega) (hA.gr hg) (lbE_zero h).2 hm hM hmd (hB.gr hg))
    rw [if_pos h] at HV
    rw [h] at HC ⊢
    generalize icV zs cs = v at *
    generalize chB zs cs = b at *
    clear h hA hB hn hm
    go_enter Tryd.func17, Tryd.ntmps17
    go_wp2_with fail
    refine (HC.out).mono ?_
    rintro e w' ⟨rfl, hg1⟩
    go_wp2_with fail
    refine (HI.out _ hg1).mono ?_
    rintro e w2 ⟨rfl, hg2⟩
    go_wp2_with fail
    ((try simp only [Exit.inBlock, Exit.then]); refine bodyPost_ret (v := .tuple #[.bool b, .int .i64 0]) (by simp [results, Tryd.results17, go_sem]) rfl ?_)
    exact ⟨by rw [HV.out], hg1.trans hg2⟩
  · rw [if_neg h] at HV
    generalize icV zs cs = v at *
    have hc0 : (lbE zs == 0) = false := by simpa using h
    generalize lbE zs = cd at *
    clear hA hB hn hm
    go_enter Tryd.func17, Tryd.ntmps17
    go_wp2_with fail
    refine (HC.out).mono ?_
    rintro e w' ⟨rfl, hg1⟩
    go_wp2_with fail
    ((try simp only [Exit.inBlock, Exit.then]); refine bodyPost_ret (v := .tuple #[.bool false, .int .i64 cd]) (by simp [results, Tryd.results17, go_sem]) rfl ?_)
    exact ⟨by rw [HV.out], hg1⟩

set_option maxRecDepth 100000 in
theorem sum_impl (A : Option Addr) (n c : Nat) (zs : List P3) (B : Option Addr) (m d : Nat) (cs : List Int) (w : World) (hn : zs.length = n) (hN : n ≤ 16777216) (hA : Reads w w.heap.size A (cells3 zs)) (ha : allL zs = true) (hm : cs.length = m) (hM : m ≤ 2000000) (hB : Reads w w.heap.size B (cs.map vi)) (hr : ∀ k, k < m → 0 ≤ cs.getD k 0 ∧ cs.getD k 0 < (n : Int)) :
    Calls Tryd.prog 42 #[.slice B m d, .func (.func 43) #[.slice A n c] #[]] w fun e w' => e = .returned (.int .i64 (suW zs cs)) ∧ Gr w w' := by
  have HB := Lib.hid hB
  have HM := Lib.hid hm
  have HR := Lib.hid hr
  have HS := Lib.hid (fun k hk => suW_take zs cs k (by rw [hm]; exact hk))
  have HBD := Lib.hid (fun k => suW_bd ha (cs.take k))
  have HWB := Lib.hid (fun k => woN_bd ha k)
  have HW := Lib.hid (fun i W (hg : Gr w W) (hi : i < n) => worth_impl A n c zs i W hn hN (hA.gr hg) hi ha)
  clear hA hB hn hm hr ha
  go_enter Tryd.func42, Tryd.ntmps42
  go_wp2
  go_loopw [5, 10] (fun s i wr => ∃ k : Nat, k ≤ m ∧ i = .int .i64 k ∧ s = .int .i64 (suW zs (cs.take k)) ∧ Gr w wr) (fun _ i _ => m - (intOf i).toNat)
  case atStart => exact ⟨0, by omega, rfl, by simp [suW], Gr.refl _⟩
  case round =>
    obtain ⟨k, hk, rfl, rfl, hG⟩ := hrel
    by_cases hlt : k < m
    · have h1 := cs_at (cs := cs) (k := k) (by rw [HM.out]; exact hlt)
      obtain ⟨gb, ob, rfl, hgb, xk⟩ := (HB.out.gr hG).at_ h1
      have r1 := HR.out k hlt
      have HS1 := Lib.hid (HS.out k hlt)
      obtain ⟨i, hi⟩ := Int.eq_ofNat_of_zero_le r1.1
      rw [hi, Int.toNat_natCast] at HS1
      rw [hi] at xk r1
      have hb := HBD.out k
      have hb2 := HWB.out i
      have hl := List.length_take_le k cs
      have HWI := Lib.hid (HW.out i _ hG (by omega))
      generalize suW zs (cs.take k) = s at *
      generalize woN zs i = x at *
      have hkk : ((cs.take k).length : Int) ≤ 2000000 := by omega
      have hws : IntKind.i64.wrap (s + x) = s + x := IntWalk.i64_in _ (by omega)
      have hG0 := Lib.hid hG
      clear h1 hi hG
      go_wp2_with (go_at_call 43; refine (HWI.out).mono ?_; rintro e w' ⟨rfl, rfl⟩)
      go_roundw
      case rel => exact ⟨k + 1, by omega, by go_num, by rw [HS1.out], hG0.out.trans (by repeat (first | with_reducible exact Gr.refl _ | with_reducible refine Gr.alloc ?_ _ | with_reducible refine Gr.gr ?_ _ _ | with_reducible refine Gr.drew ?_ | with_reducible refine Gr.drewN ?_ _))⟩
      case measure => simp [intOf]; omega
    · obtain rfl : k = m := by omega
      have HQ := Lib.hid (show suW zs (cs.take k) = suW zs cs by rw [List.take_of_length_le (by rw [HM.out]; omega)])
      go_wp2
      go_ret
      exact ⟨ret_int HQ.out, hG⟩
end Go.Proofs.YtlimfpdibohioabDoor
