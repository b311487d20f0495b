/- Contracts: ListText, in the program and in the model. -/
import Derived.Test.YtddnmhkhgpangaaDoorT6
namespace Go.Proofs.YtddnmhkhgpangaaDoor
open Go.RowKit
set_option linter.unusedVariables false
set_option linter.unusedSimpArgs false

/-- The text of a list and its code. -/
def lt0 (zs : List Int) : Bool := allv zs && decide ((zs.length : Int) ≤ 100)
def ltS (zs : List Int) : ByteArray := if lt0 zs = true then (if zs = [] then ⟨#[45]⟩ else jB zs zs.length) else ⟨#[]⟩
def ltC (zs : List Int) : Int := if lt0 zs = true then 0 else 2
theorem lt_no (zs : List Int) (h : lt0 zs = false) : ltS zs = ⟨#[]⟩ ∧ ltC zs = 2 := ⟨if_neg (by rw [h]; simp), if_neg (by rw [h]; simp)⟩
theorem lt_nil (zs : List Int) (h : zs.length = 0) : ltS zs = ⟨#[45]⟩ ∧ ltC zs = 0 ∧ lt0 zs = true := by
  have e := List.length_eq_zero_iff.1 h
  subst e
  exact ⟨rfl, rfl, rfl⟩
theorem lt_ok (zs : List Int) (h : lt0 zs = true) (h1 : 0 < zs.length) : ltS zs = jB zs zs.length ∧ ltC zs = 0 := by
  have hne : zs ≠ [] := by intro e; rw [e] at h1; simp at h1
  exact ⟨by unfold ltS; rw [if_pos h, if_neg hne], if_pos h⟩

theorem text_spec1 (A : Option Addr) (n c : Nat) (zs : List Int) (w : World) (hn : zs.length = n) (hv : lt0 zs = true) (hA : Reads w w.heap.size A (zs.map vi)) :
    Calls Tryd.prog 55 #[.slice A n c] w fun e w' => e = .returned (.string (ltS zs)) ∧ Gr w w' := by
  have hv' := hv
  unfold lt0 at hv'
  rw [Bool.and_eq_true, decide_eq_true_eq, hn] at hv'
  by_cases h0 : n = 0
  · subst h0
    have H := Lib.hid (lt_nil zs hn)
    clear hn hv hv'
    go_enter Tryd.func55, Tryd.ntmps55
    go_wp2
    go_ret
    exact ⟨ret_str H.out.1.symm, (by repeat (first | with_reducible exact Gr.refl _ | with_reducible refine Gr.alloc ?_ _ | with_reducible refine Gr.gr ?_ _ _ | with_reducible refine Gr.drew ?_ | with_reducible refine Gr.drewN ?_ _))⟩
  · have H := Lib.hid (lt_ok zs hv (by omega))
    have hb : ((n : Int) == 0) = false := by simp [h0]
    have HN := Lib.hid hn
    go_enter Tryd.func55, Tryd.ntmps55
    clear hv hn
    go_wp2_with fail
    refine (join_spec A n c zs _ HN.out (by omega) hv'.1 hA).mono ?_
    rintro e w' ⟨rfl, hg⟩
    go_wp2_with fail
    go_ret
    exact ⟨ret_str (by rw [H.out.1, HN.out]), hg⟩

theorem listText_spec (A : Option Addr) (n c : Nat) (zs : List Int) (w : World) (hn : zs.length = n) (hN : n ≤ 16777216) (hA : Reads w w.heap.size A (zs.map vi)) :
    Calls Tryd.prog 20 #[.slice A n c] w fun e w' => e = .returned (.tuple #[.string (ltS zs), .int .i64 (ltC zs)]) ∧ Gr w w' := by
  have hl : ∀ w, Reads w w.heap.size A (zs.map vi) → Calls Tryd.prog 54 #[.slice A n c] w fun e w' => e = .returned (.bool (lt0 zs)) ∧ w = w' := fun w hw => by
    have := list_spec A n c zs w hn hN hw
    rwa [← hn] at this ⊢
  have HN := Lib.hid hn
  clear hn
  cases hv : lt0 zs
  · have H := Lib.hid (lt_no zs hv)
    have HV := Lib.hid hv
    clear hv
    go_enter Tryd.func20, Tryd.ntmps20
    go_wp2_with fail
    refine (hl _ hA).mono ?_
    rw [HV.out]
    rintro e w' ⟨rfl, rfl⟩
    go_wp2_with fail
    go_ret2
    exact ⟨ret_sc (by rw [H.out.1]) (by rw [H.out.2]), Gr.refl _⟩
  · have HV := Lib.hid hv
    have HC := Lib.hid (show ltC zs = 0 from if_pos hv)
    clear hv
    go_enter Tryd.func20, Tryd.ntmps20
    go_wp2_with fail
    refine (hl _ hA).mono ?_
    rw [HV.out]
    rintro e w' ⟨rfl, rfl⟩
    go_wp2_with fail
    refine (text_spec1 A n c zs _ HN.out HV.out hA).mono ?_
    rintro e w' ⟨rfl, hg⟩
    go_wp2_with fail
    go_ret2
    exact ⟨ret_sc rfl (by rw [HC.out]), hg⟩

def vs (z : Int) : Value := .string (itoaB z)
theorem mkStrs (n : Nat) (hn : n ≤ 16777216) (w : World) :
    (Instr.makeSlice 65 (.int .i64 (n : Int)) (.int .i64 (n : Int))).run Tryd.prog w = .ok (.slice (some ⟨w.heap.size, 0, none⟩) n n) (w.alloc (.cells (List.replicate n (.string ⟨#[]⟩)).toArray 9)) :=
  run_mk (b := 16) Tryd.underlying65 (by kernel_rfl) rfl (by omega) n hn w
theorem itoa_data (z : Int) : (itoaB z).data.toList = Lib.itoa z := rfl

set_option maxHeartbeats 1000000 in
theorem listText_impl (A : Option Addr) (n c : Nat) (zs : List Int) (w : World) (hn : zs.length = n) (hN : n ≤ 16777216) (hA : Reads w w.heap.size A (zs.map vi)) (hT : Tab w) :
    Calls Tryd.prog 19 #[.slice A n c] w fun e w' => e = .returned (.tuple #[.string (ltS zs), .int .i64 (ltC zs)]) ∧ Gr w w' := by
  have HN := Lib.hid hn
  have HT := Lib.hid hT
  have hm : ∀ w, Reads w w.heap.size A (zs.map vi) → Calls Tryd.prog 52 #[.slice A n c] w fun e w' => e = .returned (.bool (allv zs)) ∧ w = w' := fun w hw => areValues_any A n c zs w hn hN hw
  have hc0 : (100 : Int) < n ∨ ((n : Int) ≤ 100 ∧ allv zs = false) ∨ ((n : Int) ≤ 100 ∧ allv zs = true ∧ n = 0) ∨ ((n : Int) ≤ 100 ∧ allv zs = true ∧ 0 < n) := by
    cases allv zs <;> simp <;> omega
  have hz : lt0 zs = (allv zs && decide ((n : Int) ≤ 100)) := by unfold lt0; rw [hn]
  clear hn hT
  rcases hc0 with h | ⟨h, hv⟩ | ⟨h, hv, h0⟩ | ⟨h, hv, h0⟩
  · have H := Lib.hid (lt_no zs (by rw [hz, decide_eq_false (by omega), Bool.and_false]))
    clear hz
    go_enter Tryd.func19, Tryd.ntmps19
    go_wp2_with fail
    go_ret2
    exact ⟨ret_sc (by rw [H.out.1]) (by rw [H.out.2]), Gr.refl _⟩
  · have H := Lib.hid (lt_no zs (by rw [hz, hv, Bool.false_and]))
    have HV := Lib.hid hv
    clear hz hv
    go_enter Tryd.func19, Tryd.ntmps19
    go_wp2_with fail
    refine (hm _ hA).mono ?_
    rw [HV.out]
    rintro e w' ⟨rfl, rfl⟩
    go_wp2_with fail
    go_ret2
    exact ⟨ret_sc (by rw [H.out.1]) (by rw [H.out.2]), Gr.refl _⟩
  · subst h0
    have H := Lib.hid (lt_nil zs HN.out)
    have HV := Lib.hid hv
    clear hz hv
    go_enter Tryd.func19, Tryd.ntmps19
    go_wp2_with fail
    refine (hm _ hA).mono ?_
    rw [HV.out]
    rintro e w' ⟨rfl, rfl⟩
    go_wp2_with fail
    go_ret2
    exact ⟨ret_sc (by rw [H.out.1]) (by rw [H.out.2.1]), Gr.refl _⟩
  · have H := Lib.hid (lt_ok zs (by rw [hz, hv, decide_eq_true (by omega)]; rfl) (by rw [HN.out]; exact h0))
    have hb : ((n : Int) == 0) = false := by simp; omega
    have HV := Lib.hid hv
    have hl : (zs.map vs).length = n := by rw [List.length_map]; exact HN.out
    have HL := Lib.hid hl
    have hmk := mkStrs n (by omega)
    clear hz hv hl
    go_enter Tryd.func19, Tryd.ntmps19
    go_wp2_with fail
    refine (hm _ hA).mono ?_
    rw [HV.out]
    rintro e w' ⟨rfl, rfl⟩
    clear hm
    go_wp2_with fail
    clear hmk
    go_loopw [23] (fun i wr => ∃ k : Nat, k ≤ n ∧ i = .int .i64 k ∧ Row wr w.heap.size 9 (fillV (zs.map vs) (.string ⟨#[]⟩) k) ∧ Below w.heap.size w wr) (fun i _ => n - (intOf i).toNat)
    case atStart => exact ⟨0, by omega, rfl, by rw [fillV_zero, HL.out]; exact Row.new w _ _, (Below.refl _ _).alloc (Nat.le_refl _) _⟩
    case round =>
      obtain ⟨k, hk, rfl, hrow, hbl⟩ := hrel
      by_cases hlt : k < n
      · have hk2 : k < (zs.map vs).length := by rw [HL.out]; exact hlt
        obtain ⟨z, hz⟩ := some_at (l := zs) (k := k) (by rw [HN.out]; exact hlt)
        obtain ⟨z1, z2⟩ := (vl_iff z).1 (allv_at hz HV.out)
        obtain ⟨g, o, rfl, hg, hc⟩ := hA.at_ (map_at hz)
        have FS := Lib.hid (fillV_put (zs.map vs) (.string ⟨#[]⟩) (vs z) k (map_at hz))
        have hc' : wr.cell? ⟨g, o + k, none⟩ = some (vi z) := (hbl.cell (p := ⟨g, o + k, none⟩) hg).trans hc
        have c0 := hrow.cell k
        rw [fillV_at _ _ _ hk2] at c0
        have f0 := hrow.free k
        have hlb := hrow.lt
        have hF : Calls Tryd.prog 32 #[.int .i64 z, .int .i64 10] wr fun e w' => e = .returned (.string (itoaB z)) ∧ Gr wr w' := formatInt_g z wr (by omega) (by omega) (HT.out.later hbl)
        have HS := Lib.hid (show Value.string (itoaB z) = vs z from rfl)
        generalize itoaB z = y at *
        clear hz hk2 hc
        go_wp2_with fail
        refine hF.mono ?_
        rintro e w' ⟨rfl, k2, os2, rfl⟩
        clear hF
        go_wp2_with fail
        go_roundw
        case rel =>
          refine ⟨k + 1, by omega, by go_num, ?_, ?_⟩
          · rw [← FS.out, ← HS.out]
            exact (hrow.set k _).gr (Gr.gr (Gr.refl _) _ _)
          · exact (hbl.setCell (p := ⟨w.heap.size, k, none⟩) (Nat.le_refl _) _).trans ((Gr.gr (Gr.refl _) _ _).below.mono (by have := hbl.size; simp; omega))
        case measure => simp [intOf]; omega
      · obtain rfl : k = n := by omega
        have HF := Lib.hid (fillV_all (zs.map vs) (.string ⟨#[]⟩))
        rw [HL.out] at HF
        have hcells : ∀ (j : Nat) x, (zs.map itoaB)[j]? = some x → wr.cell? ⟨w.heap.size, 0 + j, none⟩ = some (.string x) := by
          intro j x hx
          rw [Nat.zero_add, hrow.cell, HF.out]
          rw [List.getElem?_map] at hx ⊢
          cases h : zs[j]? with
          | none => rw [h] at hx; cases hx
          | some z => rw [h] at hx; simp at hx; subst hx; rfl
        have hjl : (Lib.join ((zs.map itoaB).map (·.data.toList)) [44]).length ≤ 140737488355328 := by
          have := join_len ((zs.map itoaB).map (·.data.toList)) (fun x hx => by
            obtain ⟨s, hs, rfl⟩ := List.mem_map.1 hx
            obtain ⟨z, hz, rfl⟩ := List.mem_map.1 hs
            have ha := HV.out
            unfold allv at ha
            rw [List.all_eq_true] at ha
            exact itoa_short z (ha z hz))
          rw [List.length_map, List.length_map, HN.out] at this
          omega
        have hJ := Tryd.strings_Join w.heap.size 0 k (zs.map itoaB) ⟨#[44]⟩ wr hcells hrow.lt (by rw [List.length_map, HN.out]; omega) (by rw [List.length_map, HN.out]; omega) hjl
        rw [List.length_map, HN.out] at hJ
        have HJ := Lib.hid hJ
        have HE := Lib.hid (show jB zs k = ⟨(Lib.join ((zs.map itoaB).map (·.data.toList)) (ByteArray.mk #[44]).data.toList).toArray⟩ by
          unfold jB
          rw [List.take_of_length_le (by rw [HN.out]; omega), List.map_map]
          rfl)
        clear hJ hcells hjl
        go_wp2_with fail
        refine HJ.out.mono ?_
        rintro e w' ⟨rfl, hb2⟩
        go_wp2_with fail
        go_ret2
        exact ⟨ret_sc (by rw [H.out.1, HN.out, HE.out]; first | done | (rw [List.map_map]; done) | (rw [List.map_map]; rfl)) (by rw [H.out.2]), Gr.of_below (hbl.trans (hb2.mono hbl.size))⟩
end Go.Proofs.YtddnmhkhgpangaaDoor
