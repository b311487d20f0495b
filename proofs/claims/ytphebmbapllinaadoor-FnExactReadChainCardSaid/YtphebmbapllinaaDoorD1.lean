/- The model's source of draws: what it is in memory, and what one draw does to it. -/
import Derived.Test.YtphebmbapllinaaDoor1A
import Derived.Test.YtphebmbapllinaaDoorBk
import Derived.Below
import Derived.Laws.Rows
import Derived.WalkSmall
namespace Go.Proofs.YtphebmbapllinaaDoor
open Go.RowKit
set_option linter.unusedVariables false
set_option linter.unusedSimpArgs false

/-- A slice of bytes that can be read, below block B. -/
def Bytes (w : World) (B : Nat) (A : Option Addr) (n : Nat) : Prop :=
  ∀ k : Nat, k < n → ∃ g o x : Nat, A = some ⟨g, o, none⟩ ∧ g < B ∧ x < 256 ∧ w.cell? ⟨g, o + k, none⟩ = some (.int .u8 x)

/-- Block b is a source of draws over the bytes at A. -/
def Src (A : Option Addr) (n c : Nat) (b : Nat) (w : World) : Prop :=
  ∃ p s : Nat, p ≤ n ∧ n ≤ 4611686018427387904 ∧ s < 2147483647 ∧ w.heap[b]? = some (.cells #[.slice A n c, .int .i64 p, .int .i64 s] 63 (0, 0)) ∧ Bytes w b A n

theorem Bytes.keep {w w' : World} {B : Nat} {A : Option Addr} {n : Nat} (h : Bytes w B A n) (hk : ∀ k, k < B → w'.heap[k]? = w.heap[k]?) : Bytes w' B A n := by
  intro k hkn
  obtain ⟨g, o, x, hA, hg, hx, hc⟩ := h k hkn
  exact ⟨g, o, x, hA, hg, hx, by rw [← hc]; exact World.cell?_of_block (hk g hg)⟩

theorem Bytes.later {w w' : World} {A : Option Addr} {n : Nat} (h : Bytes w w.heap.size A n) (hb : Below w.heap.size w w') : Bytes w' w'.heap.size A n := by
  have h' := h.keep (w' := w') hb.block
  intro k hk
  obtain ⟨g, o, x, hA, hg, hx, hc⟩ := h' k hk
  exact ⟨g, o, x, hA, by have := hb.size; omega, hx, hc⟩

/-- What a function that draws does to memory: block b is written, new blocks come, all else stays. -/
structure Dr (b : Nat) (w w' : World) : Prop where
  os : w'.os = w.os
  tape : w'.tape = w.tape
  output : w'.output = w.output
  size : w.heap.size ≤ w'.heap.size
  block : ∀ k, k < w.heap.size → k ≠ b → w'.heap[k]? = w.heap[k]?
theorem Dr.refl (b : Nat) (w : World) : Dr b w w := ⟨rfl, rfl, rfl, Nat.le_refl _, fun _ _ _ => rfl⟩
theorem Dr.trans {b : Nat} {u v w : World} (h : Dr b u v) (k : Dr b v w) : Dr b u w :=
  ⟨k.os.trans h.os, k.tape.trans h.tape, k.output.trans h.output, Nat.le_trans h.size k.size, fun i hi hb => (k.block i (Nat.lt_of_lt_of_le hi h.size) hb).trans (h.block i hi hb)⟩
theorem Dr.drewN {b : Nat} {u v : World} (h : Dr b u v) (n : Nat) : Dr b u (v.drewN n) := ⟨h.os, h.tape, h.output, h.size, h.block⟩
theorem Dr.drew {b : Nat} {u v : World} (h : Dr b u v) : Dr b u v.drew := ⟨h.os, h.tape, h.output, h.size, h.block⟩
theorem Dr.alloc {b : Nat} {u v : World} (h : Dr b u v) (o : Obj) : Dr b u (v.alloc o) :=
  ⟨h.os, h.tape, h.output, by have := h.size; simp; omega, fun k hk hb => (Below.heap_alloc v o k (Nat.lt_of_lt_of_le hk h.size)).trans (h.block k hk hb)⟩
theorem Dr.setCell {b : Nat} {u v : World} (h : Dr b u v) {a : Addr} (ha : a.block = b ∨ u.heap.size ≤ a.block) (x : Value) : Dr b u (v.setCell a x) :=
  ⟨h.os, h.tape, h.output, by have := h.size; simpa using this, fun k hk hb => (heap_setCell_other v a k x (by rcases ha with h | h <;> omega)).trans (h.block k hk hb)⟩
theorem Dr.below {b B : Nat} {u v : World} (h : Dr b u v) (hb : B ≤ b) (hB : B ≤ u.heap.size) : Below B u v :=
  ⟨h.os, h.tape, h.output, h.size, fun k hk => h.block k (by omega) (by omega)⟩
theorem Dr.cell {b : Nat} {u v : World} (h : Dr b u v) {a : Addr} {x : Value} (hc : u.cell? a = some x) (hb : a.block ≠ b) : v.cell? a = some x := by
  rw [← hc]; exact World.cell?_of_block (h.block _ (World.block_lt_of_cell? u a hc) hb)


theorem seed_bd (s : Nat) (h : s < 2147483647) : (s * 48271 + 29) % 2147483647 < 2147483647 := Nat.mod_lt _ (by decide)

/-- One draw. -/
def Drawn (A : Option Addr) (n c b : Nat) (m : Int) (w : World) (e : Ending) (w' : World) : Prop :=
  ∃ x : Int, e = .returned (.int .i64 x) ∧ 0 ≤ x ∧ (1 < m → x < m) ∧ (m ≤ 1 → x = 0) ∧ Src A n c b w' ∧ Dr b w w'

theorem src_after {A : Option Addr} {n c b : Nat} {w w' : World} {p s : Int} (hp : 0 ≤ p) (hpn : p ≤ n) (hn : n ≤ 4611686018427387904) (hs : 0 ≤ s) (hs2 : s < 2147483647)
    (hb : w'.heap[b]? = some (.cells #[.slice A n c, .int .i64 p, .int .i64 s] 63 (0, 0))) (hd : Dr b w w') (hlt : b < w.heap.size) (hB : Bytes w b A n) : Src A n c b w' := by
  obtain ⟨p, rfl⟩ := Int.eq_ofNat_of_zero_le hp
  obtain ⟨s, rfl⟩ := Int.eq_ofNat_of_zero_le hs
  exact ⟨p, s, by omega, hn, by omega, hb, hB.keep fun k hk => hd.block k (by omega) (by omega)⟩

theorem drawn_one {A : Option Addr} {n c b p s : Nat} {m x y : Int} {w : World} {nq : Nat} (hp : p ≤ n) (hn : n ≤ 4611686018427387904) (hs : s < 2147483647) (hb : w.heap[b]? = some (.cells #[.slice A n c, .int .i64 p, .int .i64 s] 63 (0, 0))) (hB : Bytes w b A n)
    (hm : 1 < m) (hx : x = y % m) :
    Drawn A n c b m w (.returned (.int .i64 x)) ((w.setCell ⟨b, 2, none⟩ (.int .i64 (((s : Int) * 48271 + 29) % 2147483647))).drewN nq) := by
  have hd : Dr b w ((w.setCell ⟨b, 2, none⟩ (.int .i64 (((s : Int) * 48271 + 29) % 2147483647))).drewN nq) := ((Dr.refl b w).setCell (.inl rfl) _).drewN nq
  have h1 := heap_setCell_same w b 2 _ _ (.int .i64 (((s : Int) * 48271 + 29) % 2147483647)) hb
  have e1 := Int.emod_nonneg y (show m ≠ 0 by omega)
  have e2 := Int.emod_lt_of_pos y (show 0 < m by omega)
  exact ⟨x, rfl, by omega, by omega, by omega, src_after (p := p) (by omega) (by omega) hn (by omega) (by omega) h1 hd (blk_lt hb) hB, hd⟩

theorem drawn_two {A : Option Addr} {n c b p s : Nat} {m x y : Int} {w : World} {n1 n2 : Nat} (hp : p < n) (hn : n ≤ 4611686018427387904) (hs : s < 2147483647) (hb : w.heap[b]? = some (.cells #[.slice A n c, .int .i64 p, .int .i64 s] 63 (0, 0))) (hB : Bytes w b A n)
    (hm : 1 < m) (hx : x = y % m) :
    Drawn A n c b m w (.returned (.int .i64 x)) ((((w.setCell ⟨b, 2, none⟩ (.int .i64 (((s : Int) * 48271 + 29) % 2147483647))).drewN n1).setCell ⟨b, 1, none⟩ (.int .i64 ((p : Int) + 1))).drewN n2) := by
  have hd : Dr b w ((((w.setCell ⟨b, 2, none⟩ (.int .i64 (((s : Int) * 48271 + 29) % 2147483647))).drewN n1).setCell ⟨b, 1, none⟩ (.int .i64 ((p : Int) + 1))).drewN n2) := ((((Dr.refl b w).setCell (.inl rfl) _).drewN n1).setCell (.inl rfl) _).drewN n2
  have h1 := heap_setCell_same w b 2 _ _ (.int .i64 (((s : Int) * 48271 + 29) % 2147483647)) hb
  have h2 := heap_setCell_same ((w.setCell ⟨b, 2, none⟩ (.int .i64 (((s : Int) * 48271 + 29) % 2147483647))).drewN n1) b 1 _ _ (.int .i64 ((p : Int) + 1)) h1
  have e1 := Int.emod_nonneg y (show m ≠ 0 by omega)
  have e2 := Int.emod_lt_of_pos y (show 0 < m by omega)
  exact ⟨x, rfl, by omega, by omega, by omega, src_after (p := (p : Int) + 1) (by omega) (by omega) hn (by omega) (by omega) h2 hd (blk_lt hb) hB, hd⟩

theorem drawn_two0 {A : Option Addr} {n c b p s : Nat} {m x y : Int} {w : World} {n1 : Nat} (hp : p < n) (hn : n ≤ 4611686018427387904) (hs : s < 2147483647) (hb : w.heap[b]? = some (.cells #[.slice A n c, .int .i64 p, .int .i64 s] 63 (0, 0))) (hB : Bytes w b A n)
    (hm : 1 < m) (hx : x = y % m) :
    Drawn A n c b m w (.returned (.int .i64 x)) (((w.setCell ⟨b, 2, none⟩ (.int .i64 (((s : Int) * 48271 + 29) % 2147483647))).drewN n1).setCell ⟨b, 1, none⟩ (.int .i64 ((p : Int) + 1))) :=
  drawn_two (n2 := 0) hp hn hs hb hB hm hx

theorem next_any (A : Option Addr) (n c b : Nat) (m : Int) (w : World) (hS : Src A n c b w) :
    Calls Tryd.prog 27 #[.pointer (some ⟨b, 0, none⟩), .int .i64 m] w (Drawn A n c b m w) := by
  by_cases h1 : m ≤ 1
  · go_enter Tryd.func27, Tryd.ntmps27
    go_wp2
    go_ret
    exact ⟨0, rfl, by omega, by omega, fun _ => rfl, hS, Dr.refl _ _⟩
  obtain ⟨p, s, hp, hn, hs, hb, hB⟩ := hS
  have hlt := blk_lt hb
  have c0 := cell_of_row w b 0 _ _ _ hb
  have c1 := cell_of_row w b 1 _ _ _ hb
  have c2 := cell_of_row w b 2 _ _ _ hb
  simp at c0 c1 c2
  have f0 := free_row hb 0
  have f1 := free_row hb 1
  have f2 := free_row hb 2
  have sb := seed_bd s hs
  by_cases h2 : p < n
  · obtain ⟨g, o, x, rfl, hg, hx, hcx⟩ := hB p h2
    have hne : g ≠ b := by omega
    by_cases h3 : m ≤ 256
    · have hgd : (((p : Int) + 1) % 2 == 0) = true ∨ (((p : Int) + 1) % 2 == 0) = false := by cases (((p : Int) + 1) % 2 == 0) <;> simp
      rcases hgd with hgd | hgd
      all_goals
        go_enter Tryd.func27, Tryd.ntmps27
        go_wp2
        go_quiet (fail)
        go_wp2
        go_quiet (fail)
        go_wp2
        try go_quiet (fail)
        try go_wp2
        go_ret
        first
          | exact drawn_two h2 hn hs hb hB h1 rfl
          | exact drawn_two0 h2 hn hs hb hB h1 rfl
    · go_enter Tryd.func27, Tryd.ntmps27
      go_wp2
      go_quiet (fail)
      go_wp2
      go_quiet (fail)
      go_wp2
      go_ret
      first
        | exact drawn_two h2 hn hs hb hB h1 rfl
        | exact drawn_two0 h2 hn hs hb hB h1 rfl
  · go_enter Tryd.func27, Tryd.ntmps27
    go_wp2
    go_quiet (fail)
    go_wp2
    go_ret
    exact drawn_one hp hn hs hb hB h1 rfl
end Go.Proofs.YtphebmbapllinaaDoor
