/- Numbers of digits, in the program and in the model. -/
import Derived.Test.YtggflladheemoaaDoorT1
import Derived.Test.YtggflladheemoaaDoorShelf
import Derived.Lib.AppendIntMem
import Derived.Lib.LaidTab
namespace Go.Proofs.YtggflladheemoaaDoor
open Go.RowKit
set_option linter.unusedVariables false
set_option linter.unusedSimpArgs false

/-- The library's table of powers of ten is as its text lays it. -/
def Tab (w : World) : Prop := Lib.TabIs Tryd.prog w "internal/strconv.uint64pow10" .u64 Lib.pow10Tab

theorem Tab.later {w w' : World} (h : Tab w) (hb : Below w.heap.size w w') : Tab w' := (Lib.tabBelow_of_tabIs h) w' hb

theorem formatInt_any (n : Int) (w : World) (h0 : -4000000000000000000 ≤ n) (h1 : n ≤ 4000000000000000000) (ht : Tab w) :
    Calls Tryd.prog 145 #[.int .i64 n, .int .i64 10] w (Str (Lib.itoa n) w) := by
  go_enter Tryd.func145, Tryd.ntmps145
  go_wp2_with fail
  refine (Tryd.internal_strconv_FormatInt_10 n (by omega) (by omega) w ht).mono ?_
  rintro e w1 ⟨rfl, k, os, rfl⟩
  go_wp2_with fail
  go_ret
  exact ⟨rfl, Lib.below_grow _ w (Nat.le_refl _) k os⟩

/-- Two integers are returned, the old memory is as it was. -/
def TwoInts (p : Int × Int) (w : World) (e : Ending) (w' : World) : Prop := e = .returned (.tuple #[.int .i64 p.1, .int .i64 p.2]) ∧ Below w.heap.size w w'
def cntR (n : Int) : Int × Int := if 0 ≤ n ∧ n ≤ 1000000000000 then ((Lib.decDigits n.toNat).length, 0) else (0, 2)
theorem cntR_ok (n : Int) (h : 0 ≤ n) (h' : n ≤ 1000000000000) : cntR n = (((Lib.decDigits n.toNat).length : Int), 0) := if_pos ⟨h, h'⟩
theorem cntR_no (n : Int) (h : n < 0 ∨ 1000000000000 < n) : cntR n = (0, 2) := if_neg (by omega)

end Go.Proofs.YtggflladheemoaaDoor
