/- The laws' own dice: numbers below a bound, drawn out of the code. -/
import Derived.Test.YtgadkpkpdpphbaaDoorD4
import Derived.RegionTactic
import Derived.StillTailTactics
import Derived.Deep.RegionHeld3
import Derived.Laws.BitsLemmas
import Derived.IntWalk
namespace Go.Proofs.YtgadkpkpdpphbaaDoor
open Go.RowKit
set_option linter.unusedVariables false
set_option linter.unusedSimpArgs false

/-- Block b is a die over the bytes at A. -/
def Dice (A : Option Addr) (n c : Nat) (b : Nat) (w : World) : Prop :=
  ∃ (i : Nat) (h : Int), i ≤ n ∧ n ≤ 4611686018427387904 ∧ w.heap[b]? = some (.cells #[.slice A n c, .int .i64 i, .int .u64 h] 72 (0, 0)) ∧ Bytes w b A n
/-- A die was made. -/
def Rolled (A : Option Addr) (n c : Nat) (w : World) (e : Ending) (w' : World) : Prop :=
  ∃ b : Nat, e = .returned (.pointer (some ⟨b, 0, none⟩)) ∧ w.heap.size ≤ b ∧ Dice A n c b w' ∧ Below w.heap.size w w'
def Rl (A : Option Addr) (n c : Nat) (w wr : World) : Prop :=
  ∃ h : Int, wr.heap[w.heap.size]? = some (.cells #[.slice A n c, .int .i64 0, .int .u64 h] 72 (0, 0)) ∧ Below w.heap.size w wr

theorem roll_any (A : Option Addr) (n c : Nat) (s : Int) (w : World) (hn : n ≤ 4611686018427387904) (hB : Bytes w w.heap.size A n) :
    Calls Tryd.prog 21 #[.slice A n c, .int .u64 s] w (Rolled A n c w) := by
  go_enter Tryd.func21, Tryd.ntmps21
  go_wp2
  go_loopw [6] (fun i wr => ∃ k : Nat, k ≤ n ∧ i = .int .i64 k ∧ Rl A n c w wr) (fun i _ => n - (intOf i).toNat)
  case atStart => exact ⟨0, by omega, rfl, _, heap_alloc_new w _, (Below.refl _ _).alloc (Nat.le_refl _) _⟩
  case round =>
    obtain ⟨k, hk, rfl, h, hb, hbel⟩ := hrel
    have hlt := blk_lt hb
    have c2 := cell_of_row wr w.heap.size 2 _ _ _ hb
    simp at c2
    have f2 := free_row hb 2
    by_cases hlt : k < n
    · obtain ⟨g, o, x, rfl, hg, hx, hcx⟩ := hB k hlt
      have hcx' : wr.cell? ⟨g, o + k, none⟩ = some (.int .u8 x) := by rw [← hcx]; exact hbel.cell (p := ⟨g, o + k, none⟩) hg
      go_wp2
      go_region
      all_goals
        go_wp2
        go_roundw
        case rel =>
          refine ⟨k + 1, by omega, by go_num, _, heap_setCell_same wr w.heap.size 2 _ _ _ hb, ?_⟩
          first
            | exact hbel.setCell (by simp) _
            | exact (hbel.setCell (by simp) _).drew
        case measure => simp [intOf]; omega
    · go_wp2
      go_ret
      exact ⟨w.heap.size, rfl, Nat.le_refl _, ⟨0, h, by omega, hn, hb, hB.keep hbel.block⟩, hbel⟩

/-- A number below m was drawn. -/
def Under (A : Option Addr) (n c b : Nat) (m : Int) (w : World) (e : Ending) (w' : World) : Prop :=
  ∃ x : Int, e = .returned (.int .i64 x) ∧ 0 ≤ x ∧ x < m ∧ Dice A n c b w' ∧ Dr b w w'
theorem wraps_63 (n : Int) (h₀ : 0 ≤ n) (h₁ : n < 2 ^ 63) : IntKind.u64.wrap n = n := by rw [IntKind.wrap_u64]; omega
theorem die_x (y : Int) : ∃ X : Int, wrap64 (bits .and .u64 (IntKind.u64.wrap y / 8589934592) 16777215) = X ∧ 0 ≤ X ∧ X ≤ 16777215 := by
  have h := bits_mask .u64 63 (by decide) wraps_63 24 (by decide) (IntKind.u64.wrap y / 8589934592) (by rw [IntKind.wrap_u64]; omega) (by rw [IntKind.wrap_u64]; omega)
  rw [show ((2 : Int) ^ 24 - 1) = 16777215 from rfl, show ((2 : Int) ^ 24) = 16777216 from rfl] at h
  rw [h]
  have h1 := Int.emod_nonneg (IntKind.u64.wrap y / 8589934592) (show (16777216 : Int) ≠ 0 by decide)
  have h2 := Int.emod_lt_of_pos (IntKind.u64.wrap y / 8589934592) (show (0 : Int) < 16777216 by decide)
  rw [IntWalk.wrap64_in _ (by omega)]
  exact ⟨_, rfl, h1, by omega⟩
theorem under_of {A : Option Addr} {n c b : Nat} {m x : Int} {w w' : World} {i : Nat} {h : Int} (h1 : 1 ≤ m) (hi : i ≤ n) (hn : n ≤ 4611686018427387904) (hd : Dr b w w') (hlt : b < w.heap.size) (hB : Bytes w b A n)
    (hb : w'.heap[b]? = some (.cells #[.slice A n c, .int .i64 i, .int .u64 h] 72 (0, 0))) : Under A n c b m w (.returned (.int .i64 (x % m))) w' :=
  ⟨_, rfl, Int.emod_nonneg _ (by omega), Int.emod_lt_of_pos _ (by omega), ⟨i, h, hi, hn, hb, hB.keep fun k hk => hd.block k (by omega) (by omega)⟩, hd⟩
theorem below_any (A : Option Addr) (n c b : Nat) (m : Int) (w : World) (h1 : 1 ≤ m) (h2 : m ≤ 1000000000) (hD : Dice A n c b w) :
    Calls Tryd.prog 22 #[.pointer (some ⟨b, 0, none⟩), .int .i64 m] w (Under A n c b m w) := by
  obtain ⟨i, h, hi, hn, hb, hB⟩ := hD
  have hlt := blk_lt hb
  have c0 := cell_of_row w b 0 _ _ _ hb
  have c1 := cell_of_row w b 1 _ _ _ hb
  have c2 := cell_of_row w b 2 _ _ _ hb
  simp at c0 c1 c2
  have f0 := free_row hb 0
  have f1 := free_row hb 1
  have f2 := free_row hb 2
  obtain ⟨X, eX, x0, x1⟩ := die_x (IntKind.u64.wrap (h * 6364136223846793005) + 1442695040888963407)
  have EX := Lib.hid eX
  clear eX
  have hb2 := heap_setCell_same w b 2 _ _ (.int .u64 (IntKind.u64.wrap (IntKind.u64.wrap (h * 6364136223846793005) + 1442695040888963407))) hb
  have hb3 := heap_setCell_same _ b 1 _ _ (.int .i64 ((i : Int) + 1)) hb2
  by_cases hin : i < n
  · obtain ⟨g, o, x, rfl, hg, hx, hcx⟩ := hB i hin
    have hne : g ≠ b := by omega
    have HB2 := Lib.hid hb2
    have HB3 := Lib.hid hb3
    have HBB := Lib.hid hb
    clear hb hb2 hb3
    go_enter Tryd.func22, Tryd.ntmps22
    go_wp2
    rw [EX.out]
    go_quiet (fail)
    go_wp2
    go_quiet (fail)
    go_wp2
    go_ret
    exact under_of (i := i + 1) h1 (by omega) hn ((((Dr.refl b w).setCell (.inl rfl) _).drewN _).setCell (.inl rfl) _) hlt hB HB3.out
  · have HB2 := Lib.hid hb2
    have HBB := Lib.hid hb
    clear hb hb2 hb3
    go_enter Tryd.func22, Tryd.ntmps22
    go_wp2
    rw [EX.out]
    go_quiet (fail)
    go_wp2
    go_ret
    exact under_of h1 hi hn (((Dr.refl b w).setCell (.inl rfl) _).drewN _) hlt hB HB2.out
end Go.Proofs.YtgadkpkpdpphbaaDoor
