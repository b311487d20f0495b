/- Contracts: ReadList, in the program and in the model. -/
import Derived.Test.YtddnmhkhgpangaaDoorT8
import Derived.Test.YtddnmhkhgpangaaDoorT7
import Derived.Test.YtddnmhkhgpangaaDoorT5
namespace Go.Proofs.YtddnmhkhgpangaaDoor
open Go.RowKit Go.ChangeShapes Go.WideShapes Go.ChangeAt
set_option linter.unusedVariables false
set_option linter.unusedSimpArgs false

/-- A list was read, or none. -/
def RL (r : Option (List Int)) (w : World) (e : Ending) (w' : World) : Prop :=
  match r with
  | none => e = .returned (.tuple #[.slice none 0 0, .int .i64 6]) ∧ Below w.heap.size w w'
  | some zs => ∃ g cap, e = .returned (.tuple #[.slice (some ⟨g, 0, none⟩) zs.length cap, .int .i64 0]) ∧ w.heap.size ≤ g ∧ g < w'.heap.size ∧ Reads w' w'.heap.size (some ⟨g, 0, none⟩) (zs.map vi) ∧ Below w.heap.size w w'
theorem Owns.kept_gr {w w' : World} {base : Nat} {t : TypeId} {v : Value} {xs : List Value} (h : Owns w base t v xs) (hb : Below w.heap.size w w') : Owns w' base t v xs :=
  ⟨h.1.kept ⟨hb.os, hb.tape, hb.output, hb.size, fun k hk _ => hb.block k hk⟩ (row := none) (by cases v.ownBlock <;> simp), h.2⟩
theorem rlS_dash (l : List UInt8) (h : l = [45]) : rlS l = some [] := if_pos h
theorem rlS_none (l : List UInt8) (h : l ≠ [45]) (hr : numR rds (spl l) = none) : rlS l = none := by unfold rlS; rw [if_neg h, hr]
theorem rlS_some (l : List UInt8) (zs : List Int) (h : l ≠ [45]) (hr : numR rds (spl l) = some zs) : rlS l = if (allv zs && decide ((zs.length : Int) ≤ 100)) = true then some zs else none := by unfold rlS; rw [if_neg h, hr]; rfl

set_option maxHeartbeats 1000000 in
set_option maxRecDepth 100000 in
theorem readList_spec (s : ByteArray) (w : World) (hs : s.size ≤ 1048576) :
    Calls Tryd.prog 23 #[.string s] w (RL (rlS s.data.toList) w) := by
  by_cases h0 : s.data.toList = [45]
  · have HR := Lib.hid (rlS_dash _ h0)
    have hb : (s.toList == [45]) = true := by rw [Lib.toList_data, h0]; rfl
    clear h0
    go_enter Tryd.func23, Tryd.ntmps23
    go_wp2
    go_ret2
    rw [HR.out]
    exact ⟨w.heap.size, 0, rfl, Nat.le_refl _, by simp, Reads.nil _ _ _, (Below.refl _ _).alloc (Nat.le_refl _) _⟩
  · have H0 := Lib.hid h0
    have hb : (s.toList == [45]) = false := by rw [Lib.toList_data]; simp [h0]
    have HL := Lib.hid (show s.data.toList.length = s.size from len_data s)
    clear h0
    go_enter Tryd.func23, Tryd.ntmps23
    go_wp2_with fail
    refine (split_spec s w hs).mono ?_
    rintro e w1 ⟨v, rfl, ho1, hb1⟩
    obtain ⟨g, cap, rfl, hg1, hg2, hr1⟩ := ho1.reads
    have hn1 : ((spl s.data.toList).map sv).length = (spl s.data.toList).length := List.length_map _
    have hN1 := spl_length s.data.toList
    rw [HL.out] at hN1
    have HSP := Lib.hid (spl_size s.data.toList)
    clear ho1
    rw [hn1]
    clear hn1
    generalize hws : spl s.data.toList = ws at *
    have HWS := Lib.hid hws
    clear hws
    go_wp2_with fail
    refine (numbers_spec (some ⟨g, 0, none⟩) ws.length cap ws w1 rfl (by omega) (fun p hp => by have := HSP.out p hp; rw [HL.out] at this; omega) hr1).mono ?_
    intro e w2 hnum
    cases hnr : numR rds ws with
    | none =>
      rw [hnr] at hnum
      obtain ⟨rfl, hb2⟩ := hnum
      have HR := Lib.hid (rlS_none s.data.toList H0.out (by rw [HWS.out]; exact hnr))
      clear hnr
      go_wp2_with fail
      go_ret2
      rw [HR.out]
      exact ⟨rfl, hb1.trans (hb2.mono hb1.size)⟩
    | some zs =>
      rw [hnr] at hnum
      obtain ⟨v, rfl, ho2, hb2⟩ := hnum
      have HR := Lib.hid (rlS_some s.data.toList zs H0.out (by rw [HWS.out]; exact hnr))
      have hzl : zs.length = ws.length := by
        unfold numR at hnr
        split at hnr
        · injection hnr with hnr; rw [← hnr, List.length_map]
        · cases hnr
      have hB2 := hb1.trans (hb2.mono hb1.size)
      obtain ⟨g2, cap2, rfl, hg3, hg4, hr2⟩ := ho2.reads
      have hm : (zs.map vi).length = zs.length := List.length_map _
      have hz2 : zs.length ≤ 16777216 := by omega
      clear hnr ho2 hzl
      rw [hm]
      clear hm
      go_wp2_with fail
      refine (list_spec (some ⟨g2, 0, none⟩) zs.length cap2 zs w2 rfl hz2 hr2).mono ?_
      cases hv : (allv zs && decide ((zs.length : Int) ≤ 100))
      · rintro e w3 ⟨rfl, rfl⟩
        rw [hv] at HR
        clear hv
        go_wp2_with fail
        go_ret2
        rw [HR.out]
        exact ⟨rfl, hB2⟩
      · rintro e w3 ⟨rfl, rfl⟩
        rw [hv] at HR
        clear hv
        go_wp2_with fail
        go_ret2
        rw [HR.out]
        exact ⟨g2, cap2, rfl, by have := hb1.size; omega, hg4, hr2, hB2⟩
end Go.Proofs.YtddnmhkhgpangaaDoor
