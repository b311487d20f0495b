/- Lists of parts with room to spare, that a law marks and holds. -/
import Derived.Test.YtggflladheemoaaDoorLX
import Derived.Test.YtggflladheemoaaDoorC07a
namespace Go.Proofs.YtggflladheemoaaDoor
open Go.RowKit
set_option linter.unusedVariables false
set_option linter.unusedSimpArgs false

theorem markPartsNil_any (A : Option Addr) (c : Nat) (w : World) :
    Calls Tryd.prog 65 #[.slice A 0 c, .int .i64 1] w fun e w' => e = .returned (.int .i64 1) ∧ w = w' := by
  go_enter Tryd.func65, Tryd.ntmps65
  go_wp2
  go_loop [1, 5] (fun x i => x = .int .i64 1 ∧ i = .int .i64 0) (fun _ _ => 0)
  case atStart => exact ⟨rfl, rfl⟩
  case round =>
    obtain ⟨rfl, rfl⟩ := hrel
    go_wp2
    go_ret
    exact ⟨rfl, rfl⟩
theorem heldPartsNil_any (A : Option Addr) (c : Nat) (w : World) :
    Calls Tryd.prog 66 #[.slice A 0 c, .int .i64 1] w fun e w' => e = .returned (.int .i64 1) ∧ w = w' := by
  go_enter Tryd.func66, Tryd.ntmps66
  go_wp2
  go_loop [1, 5] (fun x i => x = .int .i64 1 ∧ i = .int .i64 0) (fun _ _ => 0)
  case atStart => exact ⟨rfl, rfl⟩
  case round =>
    obtain ⟨rfl, rfl⟩ := hrel
    go_wp2
    go_ret
    exact ⟨rfl, rfl⟩
set_option maxHeartbeats 1000000 in
theorem markPartsRow_any (g n c : Nat) (xs : List P3) (rest : List Value) (w : World) (hn : xs.length = n) (hN : n ≤ 16777216) (hR : Row w g 39 (cells3 xs ++ rest)) :
    Calls Tryd.prog 65 #[.slice (some ⟨g, 0, none⟩) n c, .int .i64 1] w fun e w' => e = .returned (.int .i64 (1 + 3 * (n : Int))) ∧ Row w' g 39 (cells3 (mk3 n) ++ rest) ∧ Dr g w w' := by
  have HN := Lib.hid hn
  clear hn
  go_enter Tryd.func65, Tryd.ntmps65
  go_wp2
  go_loopw [1, 5] (fun x i wr => ∃ k : Nat, k ≤ n ∧ x = .int .i64 (1 + 3 * (k : Int)) ∧ i = .int .i64 k ∧ Row wr g 39 (cells3 (mix3 xs k) ++ rest) ∧ Dr g w wr) (fun _ i _ => n - (intOf i).toNat)
  case atStart => exact ⟨0, by omega, by simp, rfl, by rw [mix3_zero]; exact hR, Dr.refl _ _⟩
  case round =>
    obtain ⟨k, hk, rfl, rfl, hrow, hd⟩ := hrel
    by_cases hlt : k < n
    · have hk2 : k < xs.length := by rw [HN.out]; exact hlt
      have hlen : (cells3 (mix3 xs k)).length = n * 3 := by rw [cells3_len, mix3_len _ _ (by omega), HN.out]
      obtain ⟨z, hz⟩ := some_at hk2
      rw [← mix3_at xs k hk2] at hz
      obtain ⟨q0, q1, q2⟩ := cells3_at _ _ _ hz
      have c0 := hrow.cell (k * 3)
      have c1 := hrow.cell (k * 3 + 1)
      have c2 := hrow.cell (k * 3 + 2)
      rw [List.getElem?_append_left (by omega), q0] at c0
      rw [List.getElem?_append_left (by omega), q1] at c1
      rw [List.getElem?_append_left (by omega), q2] at c2
      have f0 := hrow.free (k * 3)
      have f1 := hrow.free (k * 3 + 1)
      have f2 := hrow.free (k * 3 + 2)
      have HS := Lib.hid (mix3_cells xs rest k hk2)
      have hb : (k : Int) < 16777216 := by omega
      clear hz hk2 hlen q0 q1 q2
      go_wp2
      go_roundw
      case rel => exact ⟨k + 1, by omega, by congr 1, by go_num, by rw [← HS.out]; exact ((hrow.set _ _).set _ _).set _ _, ((hd.setCell (.inl rfl) _).setCell (.inl rfl) _).setCell (.inl rfl) _⟩
      case measure => simp [intOf]; omega
    · obtain rfl : k = n := by omega
      have HM := Lib.hid (mix3_all xs)
      rw [HN.out] at HM
      go_wp2
      go_ret
      exact ⟨rfl, by rw [← HM.out]; exact hrow, hd⟩
set_option maxHeartbeats 1000000 in
theorem heldPartsRow_any (g n c : Nat) (rest : List Value) (w : World) (hN : n ≤ 16777216) (hR : Row w g 39 (cells3 (mk3 n) ++ rest)) :
    Calls Tryd.prog 66 #[.slice (some ⟨g, 0, none⟩) n c, .int .i64 1] w fun e w' => e = .returned (.int .i64 (1 + 3 * (n : Int))) ∧ w = w' := by
  go_enter Tryd.func66, Tryd.ntmps66
  go_wp2
  go_loop [1, 5] (fun x i => ∃ k : Nat, k ≤ n ∧ x = .int .i64 (1 + 3 * (k : Int)) ∧ i = .int .i64 k) (fun _ i => n - (intOf i).toNat)
  case atStart => exact ⟨0, by omega, by simp, rfl⟩
  case round =>
    obtain ⟨k, hk, rfl, rfl⟩ := hrel
    by_cases hlt : k < n
    · have hlen : (cells3 (mk3 n)).length = n * 3 := by rw [cells3_len, mk3_len]
      obtain ⟨q0, q1, q2⟩ := cells3_at _ _ _ (mk3_at n k hlt)
      have c0 := hR.cell (k * 3)
      have c1 := hR.cell (k * 3 + 1)
      have c2 := hR.cell (k * 3 + 2)
      rw [List.getElem?_append_left (by omega), q0] at c0
      rw [List.getElem?_append_left (by omega), q1] at c1
      rw [List.getElem?_append_left (by omega), q2] at c2
      have hb : (k : Int) < 16777216 := by omega
      clear hlen q0 q1 q2
      go_wp2
      go_round
      case rel => exact ⟨k + 1, by omega, by congr 1, by go_num⟩
      case measure => simp [intOf]; omega
    · obtain rfl : k = n := by omega
      go_wp2
      go_ret
      exact ⟨rfl, rfl⟩
/-- A list is marked. -/
theorem markPartsLst_any (v : Value) (xs : List P3) (B : Nat) (w : World) (h : Lst3 39 w B v xs) (hB : B ≤ w.heap.size) (hN : xs.length ≤ 16777216) :
    Calls Tryd.prog 65 #[v, .int .i64 1] w fun e w' => e = .returned (.int .i64 (1 + 3 * (xs.length : Int))) ∧ Lst3 39 w' B v (mk3 xs.length) ∧ Below B w w' := by
  rcases Lst3.row h with ⟨rfl, rfl⟩ | ⟨g, cap, rest, rfl, hg, hr, h1, h2, h3⟩
  · refine (markPartsNil_any none 0 w).mono ?_
    rintro e w' ⟨rfl, rfl⟩
    exact ⟨by simp, by simpa [mk3] using h, Below.refl _ _⟩
  · refine (markPartsRow_any g xs.length cap xs rest w rfl hN hr).mono ?_
    rintro e w' ⟨rfl, hr2, hd⟩
    refine ⟨rfl, ?_, hd.below hg hB⟩
    have := Lst3.of_row (w := w') (xs := mk3 xs.length) hg hr2 h2 (by rw [mk3_len]; exact h3)
    rwa [mk3_len] at this
theorem heldPartsLst_any (v : Value) (n : Nat) (B : Nat) (w : World) (h : Lst3 39 w B v (mk3 n)) (hN : n ≤ 16777216) :
    Calls Tryd.prog 66 #[v, .int .i64 1] w fun e w' => e = .returned (.int .i64 (1 + 3 * (n : Int))) ∧ w = w' := by
  rcases Lst3.row h with ⟨rfl, h0⟩ | ⟨g, cap, rest, rfl, hg, hr, h1, h2, h3⟩
  · obtain rfl : n = 0 := by rw [← mk3_len n, h0]; rfl
    refine (heldPartsNil_any none 0 w).mono ?_
    rintro e w' ⟨rfl, rfl⟩
    exact ⟨by simp, rfl⟩
  · rw [mk3_len]
    exact heldPartsRow_any g n cap rest w hN hr
theorem eqPartsLst_any (v u : Value) (xs : List P3) (B C : Nat) (w : World) (h : Lst3 39 w B v xs) (k : Lst3 39 w C u xs) (hN : xs.length ≤ 16777216) :
    Calls Tryd.prog 64 #[v, u] w fun e w' => e = .returned (.bool true) ∧ Gr w w' := by
  obtain ⟨A1, c1, rfl, r1⟩ := Lst3.slice h
  obtain ⟨A2, c2, rfl, r2⟩ := Lst3.slice k
  exact eqParts_same A1 A2 xs.length c1 c2 xs w rfl hN r1 r2
end Go.Proofs.YtggflladheemoaaDoor
