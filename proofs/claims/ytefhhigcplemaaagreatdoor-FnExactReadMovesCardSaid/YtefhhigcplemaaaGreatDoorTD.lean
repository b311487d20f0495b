/- Plain mathematics, merged. -/
import Derived.Test.YtefhhigcplemaaaGreatDoorTA
import Derived.Test.YtefhhigcplemaaaGreatDoorME
import Derived.Test.YtefhhigcplemaaaGreatDoorTB
/- Contracts: a text split at slashes and at blanks, in the model; the pieces that SplitN makes of it. -/
namespace Go.Proofs.YtefhhigcplemaaaGreatDoor
open Go.RowKit Go.ChangeShapes Go.WideShapes Go.ChangeAt
set_option linter.unusedVariables false
set_option linter.unusedSimpArgs false

/-- What holds at the head of the loop that splits. -/
def SpSI (s : ByteArray) (w wr : World) (k f : Nat) (v : Value) : Prop :=
  (k ≤ s.size ∧ f ≤ k ∧ ∃ done : List (List UInt8), spS (s.data.toList.take k) = done ++ [(s.data.toList.take k).drop f] ∧ done.length ≤ k ∧ Owns wr w.heap.size 9 v (done.map sv)) ∨
  (k = s.size + 1 ∧ Owns wr w.heap.size 9 v ((spS s.data.toList).map sv))

set_option maxHeartbeats 4000000 in
set_option maxRecDepth 100000 in
theorem splitS_spec (s : ByteArray) (w : World) (hs : s.size ≤ 1048576) :
    Calls Tryz.prog 73 #[.string s, .int .u8 47] w fun e w' => ∃ v, e = .returned v ∧ Owns w' w.heap.size 9 v ((spS s.data.toList).map sv) ∧ Below w.heap.size w w' := by
  obtain ⟨i0, hi, hz0, hz1, hz2⟩ := info_parts info_str
  go_enter Tryz.func73, Tryz.ntmps73
  go_wp2
  go_loopw [5, 6, 7] (fun v f i wr => ∃ k j : Nat, i = .int .i64 k ∧ f = .int .i64 j ∧ SpSI s w wr k j v ∧ Below w.heap.size w wr) (fun _ _ i _ => s.size + 1 - (intOf i).toNat)
  case atStart => exact ⟨0, 0, rfl, rfl, .inl ⟨by omega, by omega, [], rfl, by simp, Owns.new w _ _ (Nat.le_refl _)⟩, (Below.refl _ _).alloc (Nat.le_refl _) _⟩
  case round =>
    obtain ⟨k, j, rfl, rfl, hI, hb⟩ := hrel
    rcases hI with ⟨hk, hj, done, hd, hdl, hown⟩ | ⟨rfl, hown⟩
    · have HLD := Lib.hid (show (done.map sv).length = done.length from List.length_map _)
      have hown1 := hown.1
      have HX := Lib.hid (ext_sv s j k)
      have HD := Lib.hid hd
      have HO := Lib.hid hown
      clear hd hown
      by_cases he : k = s.size
      · subst he
        have hb1 : ((s.size : Int) == (s.size : Int)) = true := by simp
        go_wp2_with (at_builtin; refine wpList_append_own _ rfl _ _ 93 rfl w.heap.size 9 i0 (.string ⟨#[]⟩) 1 16 Tryz.underlying93 hi hz0 hz1 hz2 rfl (by decide) _ _ _ rfl (hown1.alloc _) ⟨wr.heap.size, 0, none⟩ 1 1 [.string (s.extract j s.size)] rfl rfl (cell_one_new _ _ _) (by simp [Value.oneCell']) (by rw [HLD.out]; unfold maxLen; omega) (by rw [HLD.out]; omega) (by have := hb.size; simp; omega) ?_; intro v' w1 hown' hgrow _)
        have hA := HO.out.app hb hown' hgrow
        rw [HX.out] at hA
        have HA := Lib.hid hA
        clear hA hown' hgrow hown1
        go_wp2_with fail
        go_roundw
        case rel => exact ⟨s.size + 1, s.size + 1, by go_num, by go_num, .inr ⟨rfl, by
          have e : s.data.toList.take s.size = s.data.toList := List.take_of_length_le (by rw [len_data]; exact Nat.le_refl _)
          have h2 := HD.out
          have h3 := HA.out.1
          rw [e] at h2 h3
          rw [h2, List.map_append]
          exact h3⟩, HA.out.2⟩
        case measure => simp [intOf]
      · have hlt : k < s.size := by omega
        have hb1 : ((k : Int) == (s.size : Int)) = false := by simp; omega
        have hts := Lib.hid (take_snoc s k hlt)
        clear he
        by_cases hc : s[k].toNat = 47
        · have hb2 : ((s[k].toNat : Int) == 47) = true := by simp [hc]
          have HC := Lib.hid (show s[k] = 47 from UInt8.toNat_inj.1 hc)
          clear hc
          go_wp2_with (at_builtin; refine wpList_append_own _ rfl _ _ 93 rfl w.heap.size 9 i0 (.string ⟨#[]⟩) 1 16 Tryz.underlying93 hi hz0 hz1 hz2 rfl (by decide) _ _ _ rfl (hown1.alloc _) ⟨wr.heap.size, 0, none⟩ 1 1 [.string (s.extract j k)] rfl rfl (cell_one_new _ _ _) (by simp [Value.oneCell']) (by rw [HLD.out]; unfold maxLen; omega) (by rw [HLD.out]; omega) (by have := hb.size; simp; omega) ?_; intro v' w1 hown' hgrow _)
          have hA := HO.out.app hb hown' hgrow
          rw [HX.out] at hA
          have HA := Lib.hid hA
          clear hA hown' hgrow hown1
          go_wp2_with fail
          go_roundw
          case rel => exact ⟨k + 1, k + 1, by go_num, by go_num, .inl ⟨by omega, by omega, done ++ [(s.data.toList.take k).drop j], by
            rw [hts.out, HC.out, spS_snoc_slash, HD.out]
            congr 2
            rw [List.drop_of_length_le (by rw [List.length_append, List.length_take]; simp; omega)], by rw [List.length_append]; simp; omega, by rw [List.map_append]; exact HA.out.1⟩, HA.out.2⟩
          case measure => simp [intOf]; omega
        · have hb2 : ((s[k].toNat : Int) == 47) = false := by simp; omega
          have HC := Lib.hid (show s[k] ≠ 47 from fun h => hc (by rw [h]; rfl))
          clear hc
          go_wp2_with fail
          go_roundw
          case rel => exact ⟨k + 1, j, by go_num, rfl, .inl ⟨by omega, by omega, done, by
            rw [hts.out, spS_snoc _ _ HC.out _ _ HD.out]
            congr 2
            rw [List.drop_append_of_le_length (by rw [List.length_take, len_data]; omega)], by omega, HO.out⟩, hb⟩
          case measure => simp [intOf]; omega
    · go_wp2_with fail
      go_ret
      exact ⟨_, rfl, hown, hb⟩

/-- What holds at the head of the loop that splits. -/
def SpBI (s : ByteArray) (w wr : World) (k f : Nat) (v : Value) : Prop :=
  (k ≤ s.size ∧ f ≤ k ∧ ∃ done : List (List UInt8), spB (s.data.toList.take k) = done ++ [(s.data.toList.take k).drop f] ∧ done.length ≤ k ∧ Owns wr w.heap.size 9 v (done.map sv)) ∨
  (k = s.size + 1 ∧ Owns wr w.heap.size 9 v ((spB s.data.toList).map sv))

set_option maxHeartbeats 4000000 in
set_option maxRecDepth 100000 in
theorem splitB_spec (s : ByteArray) (w : World) (hs : s.size ≤ 1048576) :
    Calls Tryz.prog 73 #[.string s, .int .u8 32] w fun e w' => ∃ v, e = .returned v ∧ Owns w' w.heap.size 9 v ((spB s.data.toList).map sv) ∧ Below w.heap.size w w' := by
  obtain ⟨i0, hi, hz0, hz1, hz2⟩ := info_parts info_str
  go_enter Tryz.func73, Tryz.ntmps73
  go_wp2
  go_loopw [5, 6, 7] (fun v f i wr => ∃ k j : Nat, i = .int .i64 k ∧ f = .int .i64 j ∧ SpBI s w wr k j v ∧ Below w.heap.size w wr) (fun _ _ i _ => s.size + 1 - (intOf i).toNat)
  case atStart => exact ⟨0, 0, rfl, rfl, .inl ⟨by omega, by omega, [], rfl, by simp, Owns.new w _ _ (Nat.le_refl _)⟩, (Below.refl _ _).alloc (Nat.le_refl _) _⟩
  case round =>
    obtain ⟨k, j, rfl, rfl, hI, hb⟩ := hrel
    rcases hI with ⟨hk, hj, done, hd, hdl, hown⟩ | ⟨rfl, hown⟩
    · have HLD := Lib.hid (show (done.map sv).length = done.length from List.length_map _)
      have hown1 := hown.1
      have HX := Lib.hid (ext_sv s j k)
      have HD := Lib.hid hd
      have HO := Lib.hid hown
      clear hd hown
      by_cases he : k = s.size
      · subst he
        have hb1 : ((s.size : Int) == (s.size : Int)) = true := by simp
        go_wp2_with (at_builtin; refine wpList_append_own _ rfl _ _ 93 rfl w.heap.size 9 i0 (.string ⟨#[]⟩) 1 16 Tryz.underlying93 hi hz0 hz1 hz2 rfl (by decide) _ _ _ rfl (hown1.alloc _) ⟨wr.heap.size, 0, none⟩ 1 1 [.string (s.extract j s.size)] rfl rfl (cell_one_new _ _ _) (by simp [Value.oneCell']) (by rw [HLD.out]; unfold maxLen; omega) (by rw [HLD.out]; omega) (by have := hb.size; simp; omega) ?_; intro v' w1 hown' hgrow _)
        have hA := HO.out.app hb hown' hgrow
        rw [HX.out] at hA
        have HA := Lib.hid hA
        clear hA hown' hgrow hown1
        go_wp2_with fail
        go_roundw
        case rel => exact ⟨s.size + 1, s.size + 1, by go_num, by go_num, .inr ⟨rfl, by
          have e : s.data.toList.take s.size = s.data.toList := List.take_of_length_le (by rw [len_data]; exact Nat.le_refl _)
          have h2 := HD.out
          have h3 := HA.out.1
          rw [e] at h2 h3
          rw [h2, List.map_append]
          exact h3⟩, HA.out.2⟩
        case measure => simp [intOf]
      · have hlt : k < s.size := by omega
        have hb1 : ((k : Int) == (s.size : Int)) = false := by simp; omega
        have hts := Lib.hid (take_snoc s k hlt)
        clear he
        by_cases hc : s[k].toNat = 32
        · have hb2 : ((s[k].toNat : Int) == 32) = true := by simp [hc]
          have HC := Lib.hid (show s[k] = 32 from UInt8.toNat_inj.1 hc)
          clear hc
          go_wp2_with (at_builtin; refine wpList_append_own _ rfl _ _ 93 rfl w.heap.size 9 i0 (.string ⟨#[]⟩) 1 16 Tryz.underlying93 hi hz0 hz1 hz2 rfl (by decide) _ _ _ rfl (hown1.alloc _) ⟨wr.heap.size, 0, none⟩ 1 1 [.string (s.extract j k)] rfl rfl (cell_one_new _ _ _) (by simp [Value.oneCell']) (by rw [HLD.out]; unfold maxLen; omega) (by rw [HLD.out]; omega) (by have := hb.size; simp; omega) ?_; intro v' w1 hown' hgrow _)
          have hA := HO.out.app hb hown' hgrow
          rw [HX.out] at hA
          have HA := Lib.hid hA
          clear hA hown' hgrow hown1
          go_wp2_with fail
          go_roundw
          case rel => exact ⟨k + 1, k + 1, by go_num, by go_num, .inl ⟨by omega, by omega, done ++ [(s.data.toList.take k).drop j], by
            rw [hts.out, HC.out, spB_snoc_blank, HD.out]
            congr 2
            rw [List.drop_of_length_le (by rw [List.length_append, List.length_take]; simp; omega)], by rw [List.length_append]; simp; omega, by rw [List.map_append]; exact HA.out.1⟩, HA.out.2⟩
          case measure => simp [intOf]; omega
        · have hb2 : ((s[k].toNat : Int) == 32) = false := by simp; omega
          have HC := Lib.hid (show s[k] ≠ 32 from fun h => hc (by rw [h]; rfl))
          clear hc
          go_wp2_with fail
          go_roundw
          case rel => exact ⟨k + 1, j, by go_num, rfl, .inl ⟨by omega, by omega, done, by
            rw [hts.out, spB_snoc _ _ HC.out _ _ HD.out]
            congr 2
            rw [List.drop_append_of_le_length (by rw [List.length_take, len_data]; omega)], by omega, HO.out⟩, hb⟩
          case measure => simp [intOf]; omega
    · go_wp2_with fail
      go_ret
      exact ⟨_, rfl, hown, hb⟩

/-- The pieces that SplitN makes. -/
def pcsS (s : ByteArray) : List ByteArray := Lib.splitB ⟨#[47]⟩ 0 (min 4 (s.size + 1) - 1) s
theorem pcsS_far (s : ByteArray) (h : 3 < (spS s.data.toList).length) : 3 < (pcsS s).length := by
  have e : (pcsS s).map (·.data.toList) = Lib.splitK [47] 0 (min 4 (s.size + 1) - 1) s.data.toList := Lib.splitB_data ⟨#[47]⟩ 0 _ s
  have hl : (pcsS s).length = (Lib.splitK [47] 0 (min 4 (s.size + 1) - 1) s.data.toList).length := by rw [← e, List.length_map]
  have hs := spS_length s.data.toList
  rw [len_data] at hs
  obtain ⟨h1, h2⟩ := splitK_spS (min 4 (s.size + 1) - 1) s.data.toList
  by_cases hc : (spS s.data.toList).length ≤ min 4 (s.size + 1) - 1 + 1
  · rw [hl, h1 hc]; exact h
  · rw [hl, h2 (by omega)]; omega
theorem pcsS_all (s : ByteArray) (h : (spS s.data.toList).length ≤ 3) : (pcsS s).map Value.string = (spS s.data.toList).map sv := by
  have e : (pcsS s).map (·.data.toList) = Lib.splitK [47] 0 (min 4 (s.size + 1) - 1) s.data.toList := Lib.splitB_data ⟨#[47]⟩ 0 _ s
  have hs := spS_length s.data.toList
  rw [len_data] at hs
  obtain ⟨h1, -⟩ := splitK_spS (min 4 (s.size + 1) - 1) s.data.toList
  rw [← h1 (by omega), ← e, List.map_map]
  rfl
theorem pcsS_len (s : ByteArray) (h : (spS s.data.toList).length ≤ 3) : (pcsS s).length = (spS s.data.toList).length := by
  have := congrArg List.length (pcsS_all s h)
  rwa [List.length_map, List.length_map] at this

/-- The pieces that SplitN makes. -/
def pcsB (s : ByteArray) : List ByteArray := Lib.splitB ⟨#[32]⟩ 0 (min 13 (s.size + 1) - 1) s
theorem pcsB_far (s : ByteArray) (h : 12 < (spB s.data.toList).length) : 12 < (pcsB s).length := by
  have e : (pcsB s).map (·.data.toList) = Lib.splitK [32] 0 (min 13 (s.size + 1) - 1) s.data.toList := Lib.splitB_data ⟨#[32]⟩ 0 _ s
  have hl : (pcsB s).length = (Lib.splitK [32] 0 (min 13 (s.size + 1) - 1) s.data.toList).length := by rw [← e, List.length_map]
  have hs := spB_length s.data.toList
  rw [len_data] at hs
  obtain ⟨h1, h2⟩ := splitK_spB (min 13 (s.size + 1) - 1) s.data.toList
  by_cases hc : (spB s.data.toList).length ≤ min 13 (s.size + 1) - 1 + 1
  · rw [hl, h1 hc]; exact h
  · rw [hl, h2 (by omega)]; omega
theorem pcsB_all (s : ByteArray) (h : (spB s.data.toList).length ≤ 12) : (pcsB s).map Value.string = (spB s.data.toList).map sv := by
  have e : (pcsB s).map (·.data.toList) = Lib.splitK [32] 0 (min 13 (s.size + 1) - 1) s.data.toList := Lib.splitB_data ⟨#[32]⟩ 0 _ s
  have hs := spB_length s.data.toList
  rw [len_data] at hs
  obtain ⟨h1, -⟩ := splitK_spB (min 13 (s.size + 1) - 1) s.data.toList
  rw [← h1 (by omega), ← e, List.map_map]
  rfl
theorem pcsB_len (s : ByteArray) (h : (spB s.data.toList).length ≤ 12) : (pcsB s).length = (spB s.data.toList).length := by
  have := congrArg List.length (pcsB_all s h)
  rwa [List.length_map, List.length_map] at this

end Go.Proofs.YtefhhigcplemaaaGreatDoor

/- A part read from a word, in the program. -/
namespace Go.Proofs.YtefhhigcplemaaaGreatDoor
open Go.RowKit
set_option linter.unusedVariables false
set_option linter.unusedSimpArgs false

/-- What the program reads a part as. -/
def rpI (l : List UInt8) : P3 × Bool := match spS l with
  | [a, b, c] => (((rvI a).1, (rvI b).1, (rvI c).1), (rvI a).2 && (rvI b).2 && (rvI c).2)
  | _ => ((0, 0, 0), false)
theorem three_of {α : Type} {ws : List α} (h : ws.length = 3) : ∃ a b c, ws = [a, b, c] := by
  match ws, h with
  | [a, b, c], _ => exact ⟨a, b, c, rfl⟩
theorem rpI_bad {l : List UInt8} (h : (spS l).length ≠ 3) : rpI l = ((0, 0, 0), false) := by
  unfold rpI
  split
  · rename_i e; rw [e] at h; simp at h
  · rfl
theorem pcsS_not (s : ByteArray) (h : (spS s.data.toList).length ≠ 3) : (pcsS s).length ≠ 3 := by
  by_cases h3 : 3 < (spS s.data.toList).length
  · have := pcsS_far s h3; omega
  · rw [pcsS_len s (by omega)]; exact h

end Go.Proofs.YtefhhigcplemaaaGreatDoor

/- Plain mathematics of graduations read from texts: what the program and the model read is the same. -/
namespace Go.Proofs.YtefhhigcplemaaaGreatDoor
open Go.RowKit
set_option linter.unusedVariables false
set_option linter.unusedSimpArgs false

/-- What the model reads a part as. -/
def rpS (l : List UInt8) : P3 × Bool := match spS l with
  | [a, b, c] => (((rds a).1, (rds b).1, (rds c).1), (rds a).2 && (rds b).2 && (rds c).2)
  | _ => ((0, 0, 0), false)
def rgI (l : List UInt8) : Option (List P3) := if 12 < (spB l).length then none else if ((spB l).all (fun x => (rpI x).2) && gd ((spB l).map fun x => (rpI x).1)) = true then some ((spB l).map fun x => (rpI x).1) else none
def rgS (l : List UInt8) : Option (List P3) := if ((spB l).all (fun x => (rpS x).2) && gd ((spB l).map fun x => (rpS x).1)) = true then some ((spB l).map fun x => (rpS x).1) else none
theorem rp_iff (l : List UInt8) : ((rpI l).2 = true ↔ ((rpS l).2 = true ∧ Small3 (rpS l).1)) ∧ ((rpI l).2 = true → (rpI l).1 = (rpS l).1) := by
  by_cases h3 : (spS l).length = 3
  · obtain ⟨a, b, c, e⟩ := three_of h3
    have e1 : rpI l = (((rvI a).1, (rvI b).1, (rvI c).1), (rvI a).2 && (rvI b).2 && (rvI c).2) := by unfold rpI; rw [e]
    have e2 : rpS l = (((rds a).1, (rds b).1, (rds c).1), (rds a).2 && (rds b).2 && (rds c).2) := by unfold rpS; rw [e]
    rw [e1, e2]
    obtain ⟨ha, ha'⟩ := rv_rds a
    obtain ⟨hb, hb'⟩ := rv_rds b
    obtain ⟨hc, hc'⟩ := rv_rds c
    simp only [Bool.and_eq_true]
    constructor
    · constructor
      · rintro ⟨⟨h1, h2⟩, h3⟩
        exact ⟨⟨⟨(ha.1 h1).1, (hb.1 h2).1⟩, (hc.1 h3).1⟩, (ha.1 h1).2, (hb.1 h2).2, (hc.1 h3).2⟩
      · rintro ⟨⟨⟨h1, h2⟩, h3⟩, k1, k2, k3⟩
        exact ⟨⟨ha.2 ⟨h1, k1⟩, hb.2 ⟨h2, k2⟩⟩, hc.2 ⟨h3, k3⟩⟩
    · rintro ⟨⟨h1, h2⟩, h3⟩
      rw [ha' h1, hb' h2, hc' h3]
  · have e1 := rpI_bad h3
    have e2 : rpS l = ((0, 0, 0), false) := by
      unfold rpS
      split
      · rename_i e; rw [e] at h3; simp at h3
      · rfl
    rw [e1, e2]
    exact ⟨⟨fun h => by simp at h, fun h => by simp at h⟩, fun h => by simp at h⟩
theorem rg_same (l : List UInt8) : rgI l = rgS l := by
  unfold rgI rgS
  generalize spB l = ws
  by_cases hs : (ws.all (fun x => (rpS x).2) && gd (ws.map fun x => (rpS x).1)) = true
  · rw [if_pos hs]
    rw [Bool.and_eq_true, List.all_eq_true] at hs
    obtain ⟨h1, h2⟩ := hs
    have hl := gd_len h2
    rw [List.length_map] at hl
    have ha : ∀ x ∈ ws, (rpI x).2 = true := fun x hx => (rp_iff x).1.2 ⟨h1 x hx, gd_small h2 _ (List.mem_map.2 ⟨x, hx, rfl⟩)⟩
    have hm : (ws.map fun x => (rpI x).1) = ws.map fun x => (rpS x).1 := List.map_congr_left fun x hx => (rp_iff x).2 (ha x hx)
    rw [if_neg (by omega), hm, if_pos (by rw [Bool.and_eq_true, List.all_eq_true]; exact ⟨ha, h2⟩)]
  · rw [if_neg hs]
    split
    · rfl
    · rw [if_neg]
      intro hc
      apply hs
      rw [Bool.and_eq_true, List.all_eq_true] at hc ⊢
      obtain ⟨h1, h2⟩ := hc
      have hm : (ws.map fun x => (rpI x).1) = ws.map fun x => (rpS x).1 := List.map_congr_left fun x hx => (rp_iff x).2 (h1 x hx)
      rw [hm] at h2
      exact ⟨fun x hx => ((rp_iff x).1.1 (h1 x hx)).1, h2⟩
end Go.Proofs.YtefhhigcplemaaaGreatDoor
