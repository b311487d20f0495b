/- Draws of chapter 2: figures, pairs of figures, terms of fractions. -/
import Derived.Test.YtggflladheemoaaD3
import Derived.Deep.RegionHeld3
import Derived.RegionTactic
import Derived.BigRegion
import Derived.Test.YtggflladheemoaaMm
import Derived.Test.YtggflladheemoaaGr
import Derived.IntWalk
namespace Go.Proofs.Ytggflladheemoaa
open Go.RowKit
set_option linter.unusedVariables false
set_option linter.unusedSimpArgs false

attribute [local go_sem high] run_imin run_imax

theorem Blk.dr {w w' : World} {b g : Nat} {t : TypeId} {cs : Array Value} (h : Blk w g t cs) (hd : Dr b w w') (hg : g ≠ b) : Blk w' g t cs := (hd.block g h.lt hg).trans h
theorem Src.far {A : Option Addr} {n c b : Nat} {w : World} (h : Src A n c b w) {a : Addr} (ha : b < a.block) (x : Value) : Src A n c b (w.setCell a x) := by
  obtain ⟨p, s, hp, hn, hs, hb, hB⟩ := h
  exact ⟨p, s, hp, hn, hs, (heap_setCell_other w a b x (by omega)).trans hb, hB.keep fun k hk => heap_setCell_other w a k x (by omega)⟩
theorem Dr.src {A : Option Addr} {n c b : Nat} {w w' : World} (h : Src A n c b w) (o : Obj) : Src A n c b (w.alloc o) := h.alloc o


/-- A drawn figure of a kind. -/
def GotF (P : Int → Int → Prop) (A : Option Addr) (n c b : Nat) (w : World) (e : Ending) (w' : World) : Prop :=
  ∃ d t : Int, e = .returned (.agg #[.int .i64 d, .int .i64 t]) ∧ P d t ∧ Src A n c b w' ∧ Dr b w w'
def FigV (d t : Int) : Prop := (1000 ≤ d ∧ d ≤ 9999) ∧ -3 ≤ t ∧ t ≤ 3
def FigN (d t : Int) : Prop := (999 ≤ d ∧ d ≤ 10000) ∧ -31 ≤ t ∧ t ≤ 31

/-- Two drawn figures. -/
def TwoF (P : Int → Int → Prop) (w : World) (e : Ending) (w' : World) : Prop :=
  ∃ a s b t : Int, e = .returned (.tuple #[.agg #[.int .i64 a, .int .i64 s], .agg #[.int .i64 b, .int .i64 t]]) ∧ P a s ∧ P b t ∧ Below w.heap.size w w'

theorem clampF (x : Int) : 1000 ≤ imax 1000 (imin 9999 x) ∧ imax 1000 (imin 9999 x) ≤ 9999 := by
  have := imin_bd 9999 x
  have := imax_bd 1000 (imin 9999 x)
  omega

/-- One drawn figure. -/
def OneF (P : Int → Int → Prop) (w : World) (e : Ending) (w' : World) : Prop :=
  ∃ a s : Int, e = .returned (.agg #[.int .i64 a, .int .i64 s]) ∧ P a s ∧ Below w.heap.size w w'

/-- A term of a fraction, or just beyond. -/
def Term (x : Int) : Prop := 0 ≤ x ∧ x ≤ 1000000001
end Go.Proofs.Ytggflladheemoaa
