/- Contracts of chapter 5: the names of scales, in the program and in the model. -/
import Derived.Test.YtefhhigcplemaaaGreatDoorC05a
import Derived.Lib.LaidTab
namespace Go.Proofs.YtefhhigcplemaaaGreatDoor
open Go.RowKit
set_option linter.unusedVariables false
set_option linter.unusedSimpArgs false

/-- The names of scales. -/
def nmA : Nat → ByteArray
  | 0 => ⟨#[67]⟩ | 1 => ⟨#[65]⟩ | 2 => ⟨#[75]⟩ | 3 => ⟨#[67, 73]⟩ | 4 => ⟨#[67, 70]⟩ | _ => ⟨#[76]⟩
def snR (s : Int) : ByteArray × Int := if sc s = true then (nmA s.toNat, 0) else (⟨#[]⟩, 2)
theorem snR_ok (s : Int) (h : sc s = true) : snR s = (nmA s.toNat, 0) := if_pos h
theorem snR_no (s : Int) (h : sc s = false) : snR s = (⟨#[]⟩, 2) := if_neg (by rw [h]; simp)
def rsR (b : ByteArray) : Int × Int :=
  if nmA 0 = b then (0, 0) else if nmA 1 = b then (1, 0) else if nmA 2 = b then (2, 0) else if nmA 3 = b then (3, 0) else if nmA 4 = b then (4, 0) else if nmA 5 = b then (5, 0) else (0, 6)
theorem rs_hit (b : ByteArray) (k : Nat) (hk : k < 6) (hb : ∀ j, j < k → nmA j ≠ b) (he : nmA k = b) : rsR b = ((k : Int), 0) := by
  unfold rsR
  rcases (show k = 0 ∨ k = 1 ∨ k = 2 ∨ k = 3 ∨ k = 4 ∨ k = 5 by omega) with rfl | rfl | rfl | rfl | rfl | rfl
  · rw [if_pos he]; rfl
  · rw [if_neg (hb 0 (by omega)), if_pos he]; rfl
  · rw [if_neg (hb 0 (by omega)), if_neg (hb 1 (by omega)), if_pos he]; rfl
  · rw [if_neg (hb 0 (by omega)), if_neg (hb 1 (by omega)), if_neg (hb 2 (by omega)), if_pos he]; rfl
  · rw [if_neg (hb 0 (by omega)), if_neg (hb 1 (by omega)), if_neg (hb 2 (by omega)), if_neg (hb 3 (by omega)), if_pos he]; rfl
  · rw [if_neg (hb 0 (by omega)), if_neg (hb 1 (by omega)), if_neg (hb 2 (by omega)), if_neg (hb 3 (by omega)), if_neg (hb 4 (by omega)), if_pos he]; rfl
theorem rs_miss (b : ByteArray) (hb : ∀ j, j < 6 → nmA j ≠ b) : rsR b = (0, 6) := by
  unfold rsR
  rw [if_neg (hb 0 (by omega)), if_neg (hb 1 (by omega)), if_neg (hb 2 (by omega)), if_neg (hb 3 (by omega)), if_neg (hb 4 (by omega)), if_neg (hb 5 (by omega))]

/-- The table of names, as a row lists it. -/
def strData {H : Type} (zs : List (List UInt8)) : DataW H := .agg (zs.map fun z => .lit (.string z))
def StrIs (P : Program) (w : World) (name : String) (zs : List (List UInt8)) : Prop := w.var? P name = some (zs.map fun z => Value.string ⟨z.toArray⟩).toArray
theorem cells_of_strs {H : Type} {enc : TypeId × Value → H} {P : Program} {w : World} {base : Nat} {sp : Nat → Bool} {held : Bool} {fuel : Nat} {t e : TypeId} {n : Nat} {cs : List Value} {zs : List (List UInt8)} {p : List MemPlace}
    (ht : P.underlying t = some (.array n e)) (he : P.underlying e = some .string) (hce : P.cellsOf e = 1) (hct : P.cellsOf t = n)
    (h : DataW.trod enc P w base sp held fuel t cs = some (strData zs, p)) : cs = zs.map fun z => Value.string ⟨z.toArray⟩ := by
  cases fuel with
  | zero => simp [DataW.trod] at h
  | succ fuel =>
    simp only [DataW.trod, ht, hce, hct, Nat.mul_one] at h
    split at h
    · rename_i hl
      obtain ⟨xs, hm, hx⟩ := Option.map_eq_some_iff.1 h
      have hxs : xs.map (·.1) = zs.map fun z => (DataW.lit (.string z) : DataW H) := by
        have := congrArg Prod.fst hx
        simpa [strData] using this
      have hxl : xs.length = n := by simpa using Lib.mapM_length hm
      have hzl : zs.length = n := by
        have := congrArg List.length hxs
        simp at this
        omega
      apply List.ext_getElem?
      intro i
      by_cases hi : i < n
      · obtain ⟨b, hb, hf⟩ := Lib.mapM_at hm i i (by simp [hi])
        obtain ⟨z, hc, rfl, -⟩ := DataW.trod_string he hf
        have h1 : cs[i]? = some (.string z) := by
          have := congrArg (·[0]?) hc
          simpa [List.getElem?_take, List.getElem?_drop] using this
        have h2 : (xs.map (·.1))[i]? = some (DataW.lit (.string z.data.toList) : DataW H) := by simp [hb]
        rw [hxs] at h2
        simp only [List.getElem?_map, Option.map_eq_some_iff, DataW.lit.injEq, Lit.string.injEq] at h2
        obtain ⟨z', hz', rfl⟩ := h2
        simp [h1, hz']
      · rw [List.getElem?_eq_none (by omega), List.getElem?_eq_none (by simp; omega)]
    · cases h
theorem strIs_of_head {P : Program} {W : World} {name : String} {zs : List (List UInt8)} {rest : List (String × DataW Unit)} {g : Nat} {t e : TypeId} {n : Nat}
    (hg : P.globalNamed name = some g) (hty : (P.globals[g]?).map (·.type) = some t) (ht : P.underlying t = some (.array n e)) (he : P.underlying e = some .string) (hce : P.cellsOf e = 1) (hct : P.cellsOf t = n)
    (h : laidMet P ((name, strData zs) :: rest) W) : StrIs P W name zs := by
  obtain ⟨ps, ⟨g', t', cs, fuel, p, q, hg', ht', hvar, hd, _, _⟩, _⟩ := h
  obtain rfl := Option.some.inj (hg.symm.trans hg')
  obtain rfl := Option.some.inj (hty.symm.trans ht')
  unfold StrIs
  rw [hvar, ← cells_of_strs ht he hce hct hd]

/-- The table of names lies as the program's text lays it. -/
def Nms (w : World) : Prop := ∀ i : Nat, i < 6 → w.cell? ⟨0, i, none⟩ = some (.string (nmA i))
theorem Nms.gr {w w' : World} (h : Nms w) (hg : Gr w w') : Nms w' := by
  obtain ⟨k, os, rfl⟩ := hg
  intro i hi
  have := h i hi
  rw [gr_cell _ _ _ _ _ (World.block_lt_of_cell? w _ this)]
  exact this
theorem nms_of {w : World} (h : StrIs Tryz.prog w "loop.example/g00951/impl.scaleNames" [[67], [65], [75], [67, 73], [67, 70], [76]]) : Nms w := by
  intro i hi
  have := World.var?_cell (g := 0) (by kernel_rfl) h i
  rw [this]
  rcases (show i = 0 ∨ i = 1 ∨ i = 2 ∨ i = 3 ∨ i = 4 ∨ i = 5 by omega) with rfl | rfl | rfl | rfl | rfl | rfl <;> rfl

theorem ret_si {a b : ByteArray} {c d : Int} (h : a = b) (h' : c = d) : Ending.returned (.tuple #[.string a, .int .i64 c]) = .returned (.tuple #[.string b, .int .i64 d]) := by rw [h, h']

/-- The model's names, in a new list. -/
def nmObj : Obj := .cells #[.string (nmA 0), .string (nmA 1), .string (nmA 2), .string (nmA 3), .string (nmA 4), .string (nmA 5)] 9
theorem names_spec (w : World) :
    Calls Tryz.prog 123 #[] w fun e w' => e = .returned (.slice (some ⟨w.heap.size, 0, none⟩) 6 6) ∧ w' = w.alloc nmObj := by
  go_enter Tryz.func123, Tryz.ntmps123
  go_wp2
  go_ret
  exact ⟨rfl, rfl⟩
theorem nmObj_cell (w : World) (i : Nat) (hi : i < 6) : (w.alloc nmObj).cell? ⟨w.heap.size, i, none⟩ = some (.string (nmA i)) := by
  unfold nmObj
  rw [World.cell?_alloc_at _ _ _ _ rfl]
  rcases (show i = 0 ∨ i = 1 ∨ i = 2 ∨ i = 3 ∨ i = 4 ∨ i = 5 by omega) with rfl | rfl | rfl | rfl | rfl | rfl <;> rfl

theorem nm_step {b : ByteArray} {k : Nat} (h : ∀ j, j < k → nmA j ≠ b) (hk : nmA k ≠ b) : ∀ j, j < k + 1 → nmA j ≠ b := by
  intro j hj
  by_cases e : j = k
  · rw [e]; exact hk
  · exact h j (by omega)

theorem str_beq (a b : ByteArray) : (a.toList == b.toList) = decide (a = b) := by
  rw [ByteArray.toList_eq, ByteArray.toList_eq]
  by_cases h : a = b
  · subst h; simp
  · have h' : a.data.toList ≠ b.data.toList := fun e => h (ByteArray.ext (Array.toList_inj.1 e))
    rw [decide_eq_false h]
    exact beq_eq_false_iff_ne.2 h'
theorem beq_yes {a b : ByteArray} (h : a = b) : (a.toList == b.toList) = true := by rw [str_beq, decide_eq_true h]
theorem beq_no {a b : ByteArray} (h : a ≠ b) : (a.toList == b.toList) = false := by rw [str_beq, decide_eq_false h]

set_option maxRecDepth 100000 in
theorem rsR_impl (b : ByteArray) (w : World) (hN : Nms w) :
    Calls Tryz.prog 151 #[.string b] w fun e w' => e = .returned (.tuple #[.int .i64 (rsR b).1, .int .i64 (rsR b).2]) ∧ w = w' := by
  have c0 := hN 0 (by omega)
  have c1 := hN 1 (by omega)
  have c2 := hN 2 (by omega)
  have c3 := hN 3 (by omega)
  have c4 := hN 4 (by omega)
  have c5 := hN 5 (by omega)
  clear hN
  have i0 : ∀ w : World, (Instr.index 156 (.agg #[.string (nmA 0), .string (nmA 1), .string (nmA 2), .string (nmA 3), .string (nmA 4), .string (nmA 5)]) (.int .i64 0)).run Tryz.prog w = .ok (.string (nmA 0)) w := fun _ => by kernel_rfl
  have i1 : ∀ w : World, (Instr.index 156 (.agg #[.string (nmA 0), .string (nmA 1), .string (nmA 2), .string (nmA 3), .string (nmA 4), .string (nmA 5)]) (.int .i64 1)).run Tryz.prog w = .ok (.string (nmA 1)) w := fun _ => by kernel_rfl
  have i2 : ∀ w : World, (Instr.index 156 (.agg #[.string (nmA 0), .string (nmA 1), .string (nmA 2), .string (nmA 3), .string (nmA 4), .string (nmA 5)]) (.int .i64 2)).run Tryz.prog w = .ok (.string (nmA 2)) w := fun _ => by kernel_rfl
  have i3 : ∀ w : World, (Instr.index 156 (.agg #[.string (nmA 0), .string (nmA 1), .string (nmA 2), .string (nmA 3), .string (nmA 4), .string (nmA 5)]) (.int .i64 3)).run Tryz.prog w = .ok (.string (nmA 3)) w := fun _ => by kernel_rfl
  have i4 : ∀ w : World, (Instr.index 156 (.agg #[.string (nmA 0), .string (nmA 1), .string (nmA 2), .string (nmA 3), .string (nmA 4), .string (nmA 5)]) (.int .i64 4)).run Tryz.prog w = .ok (.string (nmA 4)) w := fun _ => by kernel_rfl
  have i5 : ∀ w : World, (Instr.index 156 (.agg #[.string (nmA 0), .string (nmA 1), .string (nmA 2), .string (nmA 3), .string (nmA 4), .string (nmA 5)]) (.int .i64 5)).run Tryz.prog w = .ok (.string (nmA 5)) w := fun _ => by kernel_rfl
  go_enter Tryz.func151, Tryz.ntmps151
  go_wp2
  go_loop [7] (fun i => ∃ k : Nat, k ≤ 6 ∧ i = .int .i64 k ∧ (∀ j, j < k → nmA j ≠ b)) (fun i => 6 - (intOf i).toNat)
  case atStart => exact ⟨0, by omega, rfl, fun j hj => absurd hj (by omega)⟩
  case round =>
    obtain ⟨k, hk, rfl, hb⟩ := hrel
    by_cases hlt : k < 6
    · by_cases he : nmA k = b
      · have H := Lib.hid (rs_hit b k hlt hb he)
        have hq := beq_yes he
        clear hb he
        rcases (show k = 0 ∨ k = 1 ∨ k = 2 ∨ k = 3 ∨ k = 4 ∨ k = 5 by omega) with rfl | rfl | rfl | rfl | rfl | rfl
        all_goals
          go_wp2
          go_ret2
          exact ⟨ret_two (by rw [H.out]; rfl) (by rw [H.out]), rfl⟩
      · have hn := Lib.hid (nm_step hb he)
        have hq := beq_no he
        clear hb he
        rcases (show k = 0 ∨ k = 1 ∨ k = 2 ∨ k = 3 ∨ k = 4 ∨ k = 5 by omega) with rfl | rfl | rfl | rfl | rfl | rfl
        all_goals
          go_wp2
          go_round
          case rel => exact ⟨_, (by decide), rfl, hn.out⟩
          case measure => simp [intOf]
    · obtain rfl : k = 6 := by omega
      have H := Lib.hid (rs_miss b hb)
      clear hb
      go_wp2
      go_ret2
      exact ⟨ret_two (by rw [H.out]) (by rw [H.out]), rfl⟩

set_option maxRecDepth 100000 in
theorem rsR_spec (b : ByteArray) (w : World) :
    Calls Tryz.prog 128 #[.string b] w fun e w' => e = .returned (.tuple #[.int .i64 (rsR b).1, .int .i64 (rsR b).2]) ∧ Gr w w' := by
  have c0 := nmObj_cell w 0 (by omega)
  have c1 := nmObj_cell w 1 (by omega)
  have c2 := nmObj_cell w 2 (by omega)
  have c3 := nmObj_cell w 3 (by omega)
  have c4 := nmObj_cell w 4 (by omega)
  have c5 := nmObj_cell w 5 (by omega)
  go_enter Tryz.func128, Tryz.ntmps128
  go_wp2_with (go_at_call 123; refine (names_spec _).mono ?_; rintro e w' ⟨rfl, rfl⟩)
  go_loop [5] (fun i => ∃ k : Nat, k ≤ 6 ∧ i = .int .i64 k ∧ (∀ j, j < k → nmA j ≠ b)) (fun i => 6 - (intOf i).toNat)
  case atStart => exact ⟨0, by omega, rfl, fun j hj => absurd hj (by omega)⟩
  case round =>
    obtain ⟨k, hk, rfl, hb⟩ := hrel
    by_cases hlt : k < 6
    · by_cases he : nmA k = b
      · have H := Lib.hid (rs_hit b k hlt hb he)
        have hq := beq_yes he
        clear hb he
        rcases (show k = 0 ∨ k = 1 ∨ k = 2 ∨ k = 3 ∨ k = 4 ∨ k = 5 by omega) with rfl | rfl | rfl | rfl | rfl | rfl
        all_goals
          go_wp2
          go_ret2
          exact ⟨ret_two (by rw [H.out]; rfl) (by rw [H.out]), (by repeat (first | with_reducible exact Gr.refl _ | with_reducible refine Gr.alloc ?_ _ | with_reducible refine Gr.gr ?_ _ _ | with_reducible refine Gr.drew ?_ | with_reducible refine Gr.drewN ?_ _))⟩
      · have hn := Lib.hid (nm_step hb he)
        have hq := beq_no he
        clear hb he
        rcases (show k = 0 ∨ k = 1 ∨ k = 2 ∨ k = 3 ∨ k = 4 ∨ k = 5 by omega) with rfl | rfl | rfl | rfl | rfl | rfl
        all_goals
          go_wp2
          go_round
          case rel => exact ⟨_, (by decide), rfl, hn.out⟩
          case measure => simp [intOf]
    · obtain rfl : k = 6 := by omega
      have H := Lib.hid (rs_miss b hb)
      clear hb
      go_wp2
      go_ret2
      exact ⟨ret_two (by rw [H.out]) (by rw [H.out]), (by repeat (first | with_reducible exact Gr.refl _ | with_reducible refine Gr.alloc ?_ _ | with_reducible refine Gr.gr ?_ _ _ | with_reducible refine Gr.drew ?_ | with_reducible refine Gr.drewN ?_ _))⟩
end Go.Proofs.YtefhhigcplemaaaGreatDoor
