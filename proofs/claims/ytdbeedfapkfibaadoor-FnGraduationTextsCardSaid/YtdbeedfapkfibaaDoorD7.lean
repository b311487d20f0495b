/- Draws of texts: a text slightly changed, sometimes. -/
import Derived.Test.YtdbeedfapkfibaaDoorDA
import Derived.Below
namespace Go.Proofs.YtdbeedfapkfibaaDoor
open Go.RowKit
set_option linter.unusedVariables false
set_option linter.unusedSimpArgs false

/-- A drawn text of at most m bytes. -/
def GotS (m : Nat) (A : Option Addr) (n c b : Nat) (w : World) (e : Ending) (w' : World) : Prop :=
  ∃ s : ByteArray, e = .returned (.string s) ∧ s.size ≤ m ∧ Src A n c b w' ∧ Dr b w w'
/-- One drawn text. -/
def OneS (m : Nat) (w : World) (e : Ending) (w' : World) : Prop :=
  ∃ s : ByteArray, e = .returned (.string s) ∧ s.size ≤ m ∧ Below w.heap.size w w'
theorem size_ext (s : ByteArray) (i j : Nat) : (s.extract i j).size ≤ s.size := by simp; omega
theorem size_to (s : ByteArray) (i j : Nat) (h : j ≤ s.size) : (s.extract i j).size = j - i := by simp; omega

def bits : Array Value := #[.string ⟨#[48]⟩, .string ⟨#[35]⟩, .string ⟨#[46]⟩, .string ⟨#[47]⟩, .string ⟨#[32]⟩, .string ⟨#[97]⟩, .string ⟨#[45]⟩, .string ⟨#[10]⟩]
theorem bits_at (y : Nat) (h : y < 8) : ∃ p : ByteArray, p.size = 1 ∧ bits[y]? = some (.string p) := by
  have : y = 0 ∨ y = 1 ∨ y = 2 ∨ y = 3 ∨ y = 4 ∨ y = 5 ∨ y = 6 ∨ y = 7 := by omega
  rcases this with rfl | rfl | rfl | rfl | rfl | rfl | rfl | rfl <;> exact ⟨_, rfl, rfl⟩

set_option maxHeartbeats 2000000 in
theorem damage_any (A : Option Addr) (n c b : Nat) (t : ByteArray) (ht : t.size ≤ 1099511627776) (w : World) (hS : Src A n c b w) :
    Calls Tryd.prog 45 #[.pointer (some ⟨b, 0, none⟩), .string t] w (GotS (t.size + 1) A n c b w) := by
  have hlt := hS.lt
  go_enter Tryd.func45, Tryd.ntmps45
  go_wp2_with fail
  refine (next_any A n c b _ _ hS).mono ?_
  rintro e w1 ⟨k, rfl, k0, k1, k2, hS1, hd1⟩
  have hk : k ≤ t.size := by
    by_cases h : (1 : Int) < t.size + 1
    · have := k1 h; omega
    · have := k2 (by omega); omega
  clear k1 k2
  obtain ⟨k, rfl⟩ := Int.eq_ofNat_of_zero_le k0
  have hk : k ≤ t.size := by omega
  go_wp2_with fail
  refine (next_any A n c b _ _ hS1).mono ?_
  rintro e w2 ⟨x, rfl, x0, x1, -, hS2, hd2⟩
  have x1 := x1 (by omega)
  have hT2 := hd1.trans hd2
  have l2 := hS2.lt
  have hx : x = 0 ∨ x = 1 ∨ x = 2 ∨ (((x : Int) == 0) = false ∧ ((x : Int) == 1) = false ∧ ((x : Int) == 2) = false) := by
    by_cases h0 : x = 0
    · exact .inl h0
    · by_cases h1 : x = 1
      · exact .inr (.inl h1)
      · by_cases h2 : x = 2
        · exact .inr (.inr (.inl h2))
        · exact .inr (.inr (.inr ⟨by simp [h0], by simp [h1], by simp [h2]⟩))
  clear hd1 hd2 hS1
  rcases hx with rfl | rfl | rfl | ⟨hb0, hb1, hb2⟩
  · clear x0 x1
    go_wp2_with fail
    go_ret
    exact ⟨_, rfl, by have := size_ext t 0 k; omega, hS2, hT2⟩
  · clear x0 x1
    go_wp2_with fail
    have z1 := size_to t 0 k hk
    have z2 := size_to t k t.size (Nat.le_refl _)
    obtain ⟨u1, e1⟩ : ∃ u, t.extract 0 k = u := ⟨_, rfl⟩
    obtain ⟨u2, e2⟩ : ∃ u, t.extract k t.size = u := ⟨_, rfl⟩
    rw [e1] at z1
    rw [e2] at z2
    have z3 : ¬ (9223372036854775807 < u1.size + 1) := by omega
    have z4 : ¬ (9223372036854775807 < u1.size + 1 + u2.size) := by omega
    go_region_with ((go_at_call 44; refine (next_any A n c b _ _ (by first | exact hS2.drew | exact (hS2.alloc _).drew)).mono ?_; rintro e w5 ⟨y, rfl, y0, y1, -, hS5, hd5⟩; have y1 := y1 (by omega); obtain ⟨y, rfl⟩ := Int.eq_ofNat_of_zero_le y0; obtain ⟨p, hp1, hp⟩ := bits_at y (by omega); have hA : ∀ W : World, (W.alloc (.cells bits 9)).cell? ⟨W.heap.size, y, none⟩ = some (.string p) := fun W => (World.cell?_alloc_at _ _ _ _ rfl).trans hp; have hA2 := hA w5; unfold bits at hA2; try (have hB : w5.cell? ⟨w2.heap.size, y, none⟩ = some (.string p) := hd5.cell (a := ⟨w2.heap.size, y, none⟩) (hA w2) (by exact Nat.ne_of_gt l2))))
    all_goals
      go_wp2
      go_ret
      first
        | exact ⟨_, rfl, by simp [hp1]; omega, hS5, (hT2.alloc _).drew.trans hd5⟩
        | exact ⟨_, rfl, by simp [hp1]; omega, hS5.alloc _, (hT2.drew.trans hd5).alloc _⟩
  · clear x0 x1
    by_cases hk2 : k < t.size
    · have z1 := size_to t 0 k hk
      have z2 := size_to t (k + 1) t.size (Nat.le_refl _)
      obtain ⟨u1, e1⟩ : ∃ u, t.extract 0 k = u := ⟨_, rfl⟩
      obtain ⟨u2, e2⟩ : ∃ u, t.extract (k + 1) t.size = u := ⟨_, rfl⟩
      rw [e1] at z1
      rw [e2] at z2
      have z4 : ¬ (9223372036854775807 < u1.size + u2.size) := by omega
      go_wp2_with fail
      go_region
      go_wp2
      go_ret
      exact ⟨_, rfl, by simp; omega, hS2, hT2.drew⟩
    · go_wp2_with fail
      go_ret
      exact ⟨_, rfl, by omega, hS2, hT2⟩
  · clear x0 x1
    go_wp2_with fail
    go_ret
    exact ⟨_, rfl, by omega, hS2, hT2⟩
end Go.Proofs.YtdbeedfapkfibaaDoor
