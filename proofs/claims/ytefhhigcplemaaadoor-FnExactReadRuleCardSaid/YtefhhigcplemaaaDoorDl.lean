/- Lists in blocks of the call's own, with room to spare, that a law marks and holds. -/
import Derived.Test.YtefhhigcplemaaaDoorD1
import Derived.Test.YtefhhigcplemaaaDoor1A
import Derived.Test.YtefhhigcplemaaaDoor7C
import Derived.Deep.Onto
namespace Go.Proofs.YtefhhigcplemaaaDoor
open Go.RowKit
set_option linter.unusedVariables false
set_option linter.unusedSimpArgs false

/-- The marks that a law lays into a list: 1, 2, and so on. -/
def mkI (n : Nat) : List Int := (List.range n).map fun (i : Nat) => (1 + i : Int)
theorem mkI_len (n : Nat) : (mkI n).length = n := by simp [mkI]
theorem mkI_at (n k : Nat) (h : k < n) : (mkI n)[k]? = some (1 + k : Int) := by simp [mkI, h]
def mixI (xs : List Int) (k : Nat) : List Int := (mkI xs.length).take k ++ xs.drop k
theorem mixI_len (xs : List Int) (k : Nat) (h : k ≤ xs.length) : (mixI xs k).length = xs.length := by unfold mixI; rw [List.length_append, List.length_take, mkI_len, List.length_drop]; omega
theorem mixI_zero (xs : List Int) : mixI xs 0 = xs := by simp [mixI]
theorem mixI_all (xs : List Int) : mixI xs xs.length = mkI xs.length := by
  unfold mixI
  rw [List.drop_length, List.append_nil, List.take_of_length_le (by rw [mkI_len]; exact Nat.le_refl _)]
theorem mixI_at (xs : List Int) (k : Nat) (h : k < xs.length) : (mixI xs k)[k]? = xs[k]? := by
  unfold mixI
  rw [List.getElem?_append_right (by rw [List.length_take, mkI_len]; omega), List.length_take, mkI_len, List.getElem?_drop]
  congr 1; omega
theorem mixI_set (xs : List Int) (k : Nat) (h : k < xs.length) : (mixI xs k).set k (1 + k : Int) = mixI xs (k + 1) := by
  unfold mixI
  have e := mkI_at xs.length k h
  obtain ⟨hl, e⟩ := List.getElem?_eq_some_iff.1 e
  rw [List.set_append_right _ _ (by rw [List.length_take, mkI_len]; omega), List.length_take, mkI_len, show k - min k xs.length = 0 by omega, List.drop_eq_getElem_cons h, List.set_cons_zero, List.take_succ_eq_append_getElem hl, e, List.append_assoc]
  rfl
/-- A list of the call's own: nothing, or the first cells of a block. -/
theorem Lst.row {w : World} {B : Nat} {v : Value} {xs : List Int} (h : Lst w B v xs) :
    (v = .slice none 0 0 ∧ xs = []) ∨ ∃ (g cap : Nat) (rest : List Value), v = .slice (some ⟨g, 0, none⟩) xs.length cap ∧ B ≤ g ∧ Row w g 2 (xs.map vi ++ rest) ∧ xs.length ≤ cap ∧ cap ≤ maxLen ∧ xs.length + rest.length = cap := by
  obtain ⟨h1, h2⟩ := h
  rcases h2 with ⟨rfl, h0⟩ | ⟨g, cap, cur, rfl, hB, hg, hn, hc, hs, ht⟩
  · exact .inl ⟨rfl, List.eq_nil_of_length_eq_zero h0⟩
  · refine .inr ⟨g, cap, cur.toList.drop xs.length, rfl, hB, ?_, hn, hc, ?_⟩
    · unfold Row
      rw [Nat.mul_one] at ht
      rw [← ht, List.take_append_drop]
      simpa using hg
    · rw [List.length_drop]
      have : cur.toList.length = cap := by simpa using hs
      omega
theorem Lst.of_row {w : World} {B g cap : Nat} {xs : List Int} {rest : List Value} (hB : B ≤ g) (h : Row w g 2 (xs.map vi ++ rest)) (hc : cap ≤ maxLen) (hl : xs.length + rest.length = cap) : Lst w B (.slice (some ⟨g, 0, none⟩) xs.length cap) xs :=
  ⟨by simp, .inr ⟨g, cap, (xs.map vi ++ rest).toArray, rfl, hB, h, by omega, hc, by simp; omega, by simp⟩⟩
theorem Lst.slice {w : World} {B : Nat} {v : Value} {xs : List Int} (h : Lst w B v xs) : ∃ A c, v = .slice A xs.length c ∧ Reads w w.heap.size A (xs.map vi) := by
  rcases Lst.row h with ⟨rfl, rfl⟩ | ⟨g, cap, rest, rfl, hB, hr, -⟩
  · exact ⟨none, 0, rfl, Reads.nil _ _ _⟩
  · refine ⟨_, _, rfl, fun k hk => ?_⟩
    obtain ⟨g2, o, e, h1, h2⟩ := hr.reads k (by rw [List.length_append]; omega)
    refine ⟨g2, o, e, h1, ?_⟩
    rw [h2, List.getElem_append_left hk]
theorem Lst.below {w w' : World} {B : Nat} {v : Value} {xs : List Int} (h : Lst w B v xs) (hb : Below w.heap.size w w') : Lst w' B v xs := by
  refine ⟨h.1, ?_⟩
  rcases h.2 with h0 | ⟨g, cap, cur, rfl, hB, hg, r⟩
  · exact .inl h0
  · exact .inr ⟨g, cap, cur, rfl, hB, (hb.block g (Array.getElem?_eq_some_iff.1 hg).1).trans hg, r⟩
theorem Lst.keep {w w' : World} {B : Nat} {v : Value} {xs : List Int} (h : Lst w B v xs) (hk : ∀ g, v.ownBlock = some g → g < w.heap.size → w'.heap[g]? = w.heap[g]?) : Lst w' B v xs := by
  refine ⟨h.1, ?_⟩
  rcases h.2 with h0 | ⟨g, cap, cur, rfl, hB, hg, r⟩
  · exact .inl h0
  · exact .inr ⟨g, cap, cur, rfl, hB, (hk g rfl (Array.getElem?_eq_some_iff.1 hg).1).trans hg, r⟩
theorem Lst.mono {w : World} {B B' : Nat} {v : Value} {xs : List Int} (h : Lst w B v xs) (hb : B' ≤ B) : Lst w B' v xs := World.ownsRow.mono h hb

theorem markNil_any (A : Option Addr) (c : Nat) (w : World) :
    Calls Tryd.prog 62 #[.slice A 0 c, .int .i64 1] w fun e w' => e = .returned (.int .i64 1) ∧ w = w' := by
  go_enter Tryd.func62, Tryd.ntmps62
  go_wp2
  go_loop [1, 5] (fun x i => x = .int .i64 1 ∧ i = .int .i64 0) (fun _ _ => 0)
  case atStart => exact ⟨rfl, rfl⟩
  case round =>
    obtain ⟨rfl, rfl⟩ := hrel
    go_wp2
    go_ret
    exact ⟨rfl, rfl⟩
theorem heldNil_any (A : Option Addr) (c : Nat) (w : World) :
    Calls Tryd.prog 63 #[.slice A 0 c, .int .i64 1] w fun e w' => e = .returned (.int .i64 1) ∧ w = w' := by
  go_enter Tryd.func63, Tryd.ntmps63
  go_wp2
  go_loop [1, 5] (fun x i => x = .int .i64 1 ∧ i = .int .i64 0) (fun _ _ => 0)
  case atStart => exact ⟨rfl, rfl⟩
  case round =>
    obtain ⟨rfl, rfl⟩ := hrel
    go_wp2
    go_ret
    exact ⟨rfl, rfl⟩
theorem markRow_any (g n c : Nat) (xs : List Int) (rest : List Value) (w : World) (hn : xs.length = n) (hN : n ≤ 16777216) (hR : Row w g 2 (xs.map vi ++ rest)) :
    Calls Tryd.prog 62 #[.slice (some ⟨g, 0, none⟩) n c, .int .i64 1] w fun e w' => e = .returned (.int .i64 (1 + n)) ∧ Row w' g 2 ((mkI n).map vi ++ rest) ∧ Dr g w w' := by
  have HN := Lib.hid hn
  clear hn
  go_enter Tryd.func62, Tryd.ntmps62
  go_wp2
  go_loopw [1, 5] (fun x i wr => ∃ k : Nat, k ≤ n ∧ x = .int .i64 (1 + k) ∧ i = .int .i64 k ∧ Row wr g 2 ((mixI xs k).map vi ++ rest) ∧ Dr g w wr) (fun _ i _ => n - (intOf i).toNat)
  case atStart => exact ⟨0, by omega, by simp, rfl, by rw [mixI_zero]; exact hR, Dr.refl _ _⟩
  case round =>
    obtain ⟨k, hk, rfl, rfl, hrow, hd⟩ := hrel
    by_cases hlt : k < n
    · have hk2 : k < xs.length := by rw [HN.out]; exact hlt
      have hk3 : k < ((mixI xs k).map vi).length := by rw [List.length_map, mixI_len _ _ (by omega)]; exact hk2
      obtain ⟨z, hz⟩ := some_at hk2
      have c0 := hrow.cell k
      rw [List.getElem?_append_left hk3, List.getElem?_map, mixI_at _ _ hk2, hz] at c0
      have f0 := hrow.free k
      have HS := Lib.hid (show ((mixI xs k).map vi ++ rest).set k (vi (1 + k)) = (mixI xs (k + 1)).map vi ++ rest by
        rw [List.set_append_left _ _ hk3, ← mixI_set xs k hk2, List.map_set])
      clear hz hk2 hk3
      simp only [Option.map_some] at c0
      go_wp2
      go_roundw
      case rel => exact ⟨k + 1, by omega, by go_num, by go_num, by rw [← HS.out]; exact hrow.set k _, hd.setCell (.inl rfl) _⟩
      case measure => simp [intOf]; omega
    · obtain rfl : k = n := by omega
      have HM := Lib.hid (mixI_all xs)
      rw [HN.out] at HM
      go_wp2
      go_ret
      exact ⟨rfl, by rw [← HM.out]; exact hrow, hd⟩
theorem heldRow_any (g n c : Nat) (rest : List Value) (w : World) (hN : n ≤ 16777216) (hR : Row w g 2 ((mkI n).map vi ++ rest)) :
    Calls Tryd.prog 63 #[.slice (some ⟨g, 0, none⟩) n c, .int .i64 1] w fun e w' => e = .returned (.int .i64 (1 + n)) ∧ w = w' := by
  go_enter Tryd.func63, Tryd.ntmps63
  go_wp2
  go_loop [1, 5] (fun x i => ∃ k : Nat, k ≤ n ∧ x = .int .i64 (1 + k) ∧ i = .int .i64 k) (fun _ i => n - (intOf i).toNat)
  case atStart => exact ⟨0, by omega, by simp, rfl⟩
  case round =>
    obtain ⟨k, hk, rfl, rfl⟩ := hrel
    by_cases hlt : k < n
    · have c0 := hR.cell k
      rw [List.getElem?_append_left (by rw [List.length_map, mkI_len]; exact hlt), List.getElem?_map, mkI_at n k hlt] at c0
      simp only [Option.map_some] at c0
      go_wp2
      go_round
      case rel => exact ⟨k + 1, by omega, by go_num, by go_num⟩
      case measure => simp [intOf]; omega
    · obtain rfl : k = n := by omega
      go_wp2
      go_ret
      exact ⟨rfl, rfl⟩
/-- A list is marked. -/
theorem markLst_any (v : Value) (xs : List Int) (B : Nat) (w : World) (h : Lst w B v xs) (hB : B ≤ w.heap.size) (hN : xs.length ≤ 16777216) :
    Calls Tryd.prog 62 #[v, .int .i64 1] w fun e w' => e = .returned (.int .i64 (1 + (xs.length : Int))) ∧ Lst w' B v (mkI xs.length) ∧ Below B w w' := by
  rcases Lst.row h with ⟨rfl, rfl⟩ | ⟨g, cap, rest, rfl, hg, hr, h1, h2, h3⟩
  · refine (markNil_any none 0 w).mono ?_
    rintro e w' ⟨rfl, rfl⟩
    exact ⟨by simp, by simpa [mkI] using h, Below.refl _ _⟩
  · refine (markRow_any g xs.length cap xs rest w rfl hN hr).mono ?_
    rintro e w' ⟨rfl, hr2, hd⟩
    refine ⟨rfl, ?_, hd.below hg hB⟩
    have := Lst.of_row (w := w') (xs := mkI xs.length) hg hr2 h2 (by rw [mkI_len]; exact h3)
    rwa [mkI_len] at this
theorem heldLst_any (v : Value) (n : Nat) (B : Nat) (w : World) (h : Lst w B v (mkI n)) (hN : n ≤ 16777216) :
    Calls Tryd.prog 63 #[v, .int .i64 1] w fun e w' => e = .returned (.int .i64 (1 + (n : Int))) ∧ w = w' := by
  rcases Lst.row h with ⟨rfl, h0⟩ | ⟨g, cap, rest, rfl, hg, hr, h1, h2, h3⟩
  · obtain rfl : n = 0 := by rw [← mkI_len n, h0]; rfl
    refine (heldNil_any none 0 w).mono ?_
    rintro e w' ⟨rfl, rfl⟩
    exact ⟨by simp, rfl⟩
  · rw [mkI_len]
    exact heldRow_any g n cap rest w hN hr
theorem eqLst_any (v u : Value) (xs : List Int) (B C : Nat) (w : World) (h : Lst w B v xs) (k : Lst w C u xs) (hN : xs.length ≤ 16777216) :
    Calls Tryd.prog 44 #[v, u] w fun e w' => e = .returned (.bool true) ∧ Gr w w' := by
  obtain ⟨A1, c1, rfl, r1⟩ := Lst.slice h
  obtain ⟨A2, c2, rfl, r2⟩ := Lst.slice k
  exact eqInts_same A1 A2 xs.length c1 c2 xs w rfl hN r1 r2
end Go.Proofs.YtefhhigcplemaaaDoor
