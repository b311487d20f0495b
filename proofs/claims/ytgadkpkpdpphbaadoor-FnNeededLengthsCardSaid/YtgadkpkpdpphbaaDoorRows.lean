/-
  NARROWER THAN 'FOR EVERY INPUT', by the rows' own cells (each row's printed sentence says how): FnReadings: laid · FnNeededLengths: laid · FnExactMayBeAt: laid · FnExactFirstReading: laid · FnExactLastReading: laid · FnExactCountReadings: laid · FnExactBestReading: laid · FnExactReadError: laid · FnExactNeededLength: laid.
  DERIVED. THE GIVEN ROWS OF THIS SEAT. 9 by the template 'for every input the law returns true; each argument reads behind the call as it read before'; 0 by the template 'total and deterministic' (their statements: YtgadkpkpdpphbaaDoorTotals.lean).
  GIVEN WITH THE SEED: the statements are not yours to turn. If you find one false, say at which input.
  Laid BY PROGRAM, IN A SANDBOX (cutbox-rows.mjs): the forced cells as the released guide's own fill.sh prints them over the translation 467864612c18d254… (all of the seat's roots in one cut). By AI agents, Wed Nov 11 2026. No macro, syntax, notation, axiom, sorry.
-/
import Derived.Test.YtgadkpkpdpphbaaDoorChecked
import GoSem.Claim
import GoSem.ClaimJoined
import GoSem.ClaimMapViews
import Derived.JoinedTies
import Derived.KernelRfl
namespace Go.Proofs.YtgadkpkpdpphbaaDoor
/- THE CELL 'sum', in the pinned program and in every row, IS THE sha256 OF THE DUMP (.gsa) THAT YtgadkpkpdpphbaaDoorProg.lean LOADS. Nothing in Lean hashes anything: it is a label: what it is worth is what the hold of that sum in a sandbox is worth. -/
noncomputable def Tryd.pinned : Pinned := { name := "ytgadkpkpdpphbaadoor", sum := "467864612c18d254bf6d8add3c9aa7918061230ecd1dfc480f59f6d0e551631d", checked := Tryd.checked }
namespace Rows
def none {H : Type} : Left H := { results := [], args := [] }

/- WHAT THE LISTED PACKAGE-LEVEL VARIABLES READ AS WHEN THE CALL BEGINS. Each datum BY PROGRAM (the guide's laid-datum.mjs) off the statement by which the dump's own 'gosem.cut.vars' lays the variable. In a bare row this is a premise. The card (YtgadkpkpdpphbaaDoorCards.lean) ties it to the program's text. -/
def laid_loop_example_g00951_impl_scaleDecades {H : Type} : DataW H := .agg [.lit (.int .i64 1), .lit (.int .i64 2), .lit (.int .i64 3), .lit (.int .i64 1), .lit (.int .i64 1), .lit (.int .i64 1)]

/-- 'laws.FnReadings': WHATEVER THE INPUT: true; the input reads as it did. -/
def fnReadingsSpec : ChangeSpec := { name := "fnReadings", vars := ["loop.example/g00951/impl.scaleDecades"], fn := fun _ => fun
  | [d, g1] => { results := [.lit (.bool true)], args := [d], vars := [g1] }
  | _ => none }
def fnReadingsRow : OpenClaim := { program := "ytgadkpkpdpphbaadoor", sum := "467864612c18d254bf6d8add3c9aa7918061230ecd1dfc480f59f6d0e551631d", func := "loop.example/g00951/laws.FnReadings", spec := "fnReadings", unfollowed := true, recurses := true, named := ["loop.example/g00951/impl.scaleDecades"], plainKeys := false, apart := false, laid := [("loop.example/g00951/impl.scaleDecades", laid_loop_example_g00951_impl_scaleDecades)] }
def FnReadingsSaid : Prop := fnReadingsRow.holds Tryd.pinned (OpenSpec.ofChange fnReadingsSpec)

/-- ITS FALSE NEIGHBOUR: 'it returns false'. Refute it at one input. -/
def fnReadingsWrong : ChangeSpec := { name := "fnReadings", vars := ["loop.example/g00951/impl.scaleDecades"], fn := fun _ => fun
  | [d, g1] => { results := [.lit (.bool false)], args := [d], vars := [g1] }
  | _ => none }
def FnReadingsWrongFalsely : Prop := fnReadingsRow.holds Tryd.pinned (OpenSpec.ofChange fnReadingsWrong)

/-- 'laws.FnNeededLengths': WHATEVER THE INPUT: true; the input reads as it did. -/
def fnNeededLengthsSpec : ChangeSpec := { name := "fnNeededLengths", vars := ["loop.example/g00951/impl.scaleDecades"], fn := fun _ => fun
  | [d, g1] => { results := [.lit (.bool true)], args := [d], vars := [g1] }
  | _ => none }
def fnNeededLengthsRow : OpenClaim := { program := "ytgadkpkpdpphbaadoor", sum := "467864612c18d254bf6d8add3c9aa7918061230ecd1dfc480f59f6d0e551631d", func := "loop.example/g00951/laws.FnNeededLengths", spec := "fnNeededLengths", unfollowed := true, recurses := true, named := ["loop.example/g00951/impl.scaleDecades"], plainKeys := false, apart := false, laid := [("loop.example/g00951/impl.scaleDecades", laid_loop_example_g00951_impl_scaleDecades)] }
def FnNeededLengthsSaid : Prop := fnNeededLengthsRow.holds Tryd.pinned (OpenSpec.ofChange fnNeededLengthsSpec)

/-- ITS FALSE NEIGHBOUR: 'it returns false'. Refute it at one input. -/
def fnNeededLengthsWrong : ChangeSpec := { name := "fnNeededLengths", vars := ["loop.example/g00951/impl.scaleDecades"], fn := fun _ => fun
  | [d, g1] => { results := [.lit (.bool false)], args := [d], vars := [g1] }
  | _ => none }
def FnNeededLengthsWrongFalsely : Prop := fnNeededLengthsRow.holds Tryd.pinned (OpenSpec.ofChange fnNeededLengthsWrong)

/-- 'laws.FnExactMayBeAt': WHATEVER THE INPUT: true; the input reads as it did. -/
def fnExactMayBeAtSpec : ChangeSpec := { name := "fnExactMayBeAt", vars := ["loop.example/g00951/impl.scaleDecades"], fn := fun _ => fun
  | [d1, d2, d3, d4, d5, g1] => { results := [.lit (.bool true)], args := [d1, d2, d3, d4, d5], vars := [g1] }
  | _ => none }
def fnExactMayBeAtRow : OpenClaim := { program := "ytgadkpkpdpphbaadoor", sum := "467864612c18d254bf6d8add3c9aa7918061230ecd1dfc480f59f6d0e551631d", func := "loop.example/g00951/laws.FnExactMayBeAt", spec := "fnExactMayBeAt", unfollowed := true, recurses := true, named := ["loop.example/g00951/impl.scaleDecades"], plainKeys := false, apart := false, laid := [("loop.example/g00951/impl.scaleDecades", laid_loop_example_g00951_impl_scaleDecades)] }
def FnExactMayBeAtSaid : Prop := fnExactMayBeAtRow.holds Tryd.pinned (OpenSpec.ofChange fnExactMayBeAtSpec)

/-- ITS FALSE NEIGHBOUR: 'it returns false'. Refute it at one input. -/
def fnExactMayBeAtWrong : ChangeSpec := { name := "fnExactMayBeAt", vars := ["loop.example/g00951/impl.scaleDecades"], fn := fun _ => fun
  | [d1, d2, d3, d4, d5, g1] => { results := [.lit (.bool false)], args := [d1, d2, d3, d4, d5], vars := [g1] }
  | _ => none }
def FnExactMayBeAtWrongFalsely : Prop := fnExactMayBeAtRow.holds Tryd.pinned (OpenSpec.ofChange fnExactMayBeAtWrong)

/-- 'laws.FnExactFirstReading': WHATEVER THE INPUT: true; the input reads as it did. -/
def fnExactFirstReadingSpec : ChangeSpec := { name := "fnExactFirstReading", vars := ["loop.example/g00951/impl.scaleDecades"], fn := fun _ => fun
  | [d1, d2, d3, d4, g1] => { results := [.lit (.bool true)], args := [d1, d2, d3, d4], vars := [g1] }
  | _ => none }
def fnExactFirstReadingRow : OpenClaim := { program := "ytgadkpkpdpphbaadoor", sum := "467864612c18d254bf6d8add3c9aa7918061230ecd1dfc480f59f6d0e551631d", func := "loop.example/g00951/laws.FnExactFirstReading", spec := "fnExactFirstReading", unfollowed := true, recurses := true, named := ["loop.example/g00951/impl.scaleDecades"], plainKeys := false, apart := false, laid := [("loop.example/g00951/impl.scaleDecades", laid_loop_example_g00951_impl_scaleDecades)] }
def FnExactFirstReadingSaid : Prop := fnExactFirstReadingRow.holds Tryd.pinned (OpenSpec.ofChange fnExactFirstReadingSpec)

/-- ITS FALSE NEIGHBOUR: 'it returns false'. Refute it at one input. -/
def fnExactFirstReadingWrong : ChangeSpec := { name := "fnExactFirstReading", vars := ["loop.example/g00951/impl.scaleDecades"], fn := fun _ => fun
  | [d1, d2, d3, d4, g1] => { results := [.lit (.bool false)], args := [d1, d2, d3, d4], vars := [g1] }
  | _ => none }
def FnExactFirstReadingWrongFalsely : Prop := fnExactFirstReadingRow.holds Tryd.pinned (OpenSpec.ofChange fnExactFirstReadingWrong)

/-- 'laws.FnExactLastReading': WHATEVER THE INPUT: true; the input reads as it did. -/
def fnExactLastReadingSpec : ChangeSpec := { name := "fnExactLastReading", vars := ["loop.example/g00951/impl.scaleDecades"], fn := fun _ => fun
  | [d1, d2, d3, d4, g1] => { results := [.lit (.bool true)], args := [d1, d2, d3, d4], vars := [g1] }
  | _ => none }
def fnExactLastReadingRow : OpenClaim := { program := "ytgadkpkpdpphbaadoor", sum := "467864612c18d254bf6d8add3c9aa7918061230ecd1dfc480f59f6d0e551631d", func := "loop.example/g00951/laws.FnExactLastReading", spec := "fnExactLastReading", unfollowed := true, recurses := true, named := ["loop.example/g00951/impl.scaleDecades"], plainKeys := false, apart := false, laid := [("loop.example/g00951/impl.scaleDecades", laid_loop_example_g00951_impl_scaleDecades)] }
def FnExactLastReadingSaid : Prop := fnExactLastReadingRow.holds Tryd.pinned (OpenSpec.ofChange fnExactLastReadingSpec)

/-- ITS FALSE NEIGHBOUR: 'it returns false'. Refute it at one input. -/
def fnExactLastReadingWrong : ChangeSpec := { name := "fnExactLastReading", vars := ["loop.example/g00951/impl.scaleDecades"], fn := fun _ => fun
  | [d1, d2, d3, d4, g1] => { results := [.lit (.bool false)], args := [d1, d2, d3, d4], vars := [g1] }
  | _ => none }
def FnExactLastReadingWrongFalsely : Prop := fnExactLastReadingRow.holds Tryd.pinned (OpenSpec.ofChange fnExactLastReadingWrong)

/-- 'laws.FnExactCountReadings': WHATEVER THE INPUT: true; the input reads as it did. -/
def fnExactCountReadingsSpec : ChangeSpec := { name := "fnExactCountReadings", vars := ["loop.example/g00951/impl.scaleDecades"], fn := fun _ => fun
  | [d1, d2, d3, d4, g1] => { results := [.lit (.bool true)], args := [d1, d2, d3, d4], vars := [g1] }
  | _ => none }
def fnExactCountReadingsRow : OpenClaim := { program := "ytgadkpkpdpphbaadoor", sum := "467864612c18d254bf6d8add3c9aa7918061230ecd1dfc480f59f6d0e551631d", func := "loop.example/g00951/laws.FnExactCountReadings", spec := "fnExactCountReadings", unfollowed := true, recurses := true, named := ["loop.example/g00951/impl.scaleDecades"], plainKeys := false, apart := false, laid := [("loop.example/g00951/impl.scaleDecades", laid_loop_example_g00951_impl_scaleDecades)] }
def FnExactCountReadingsSaid : Prop := fnExactCountReadingsRow.holds Tryd.pinned (OpenSpec.ofChange fnExactCountReadingsSpec)

/-- ITS FALSE NEIGHBOUR: 'it returns false'. Refute it at one input. -/
def fnExactCountReadingsWrong : ChangeSpec := { name := "fnExactCountReadings", vars := ["loop.example/g00951/impl.scaleDecades"], fn := fun _ => fun
  | [d1, d2, d3, d4, g1] => { results := [.lit (.bool false)], args := [d1, d2, d3, d4], vars := [g1] }
  | _ => none }
def FnExactCountReadingsWrongFalsely : Prop := fnExactCountReadingsRow.holds Tryd.pinned (OpenSpec.ofChange fnExactCountReadingsWrong)

/-- 'laws.FnExactBestReading': WHATEVER THE INPUT: true; the input reads as it did. -/
def fnExactBestReadingSpec : ChangeSpec := { name := "fnExactBestReading", vars := ["loop.example/g00951/impl.scaleDecades"], fn := fun _ => fun
  | [d1, d2, d3, g1] => { results := [.lit (.bool true)], args := [d1, d2, d3], vars := [g1] }
  | _ => none }
def fnExactBestReadingRow : OpenClaim := { program := "ytgadkpkpdpphbaadoor", sum := "467864612c18d254bf6d8add3c9aa7918061230ecd1dfc480f59f6d0e551631d", func := "loop.example/g00951/laws.FnExactBestReading", spec := "fnExactBestReading", unfollowed := true, recurses := true, named := ["loop.example/g00951/impl.scaleDecades"], plainKeys := false, apart := false, laid := [("loop.example/g00951/impl.scaleDecades", laid_loop_example_g00951_impl_scaleDecades)] }
def FnExactBestReadingSaid : Prop := fnExactBestReadingRow.holds Tryd.pinned (OpenSpec.ofChange fnExactBestReadingSpec)

/-- ITS FALSE NEIGHBOUR: 'it returns false'. Refute it at one input. -/
def fnExactBestReadingWrong : ChangeSpec := { name := "fnExactBestReading", vars := ["loop.example/g00951/impl.scaleDecades"], fn := fun _ => fun
  | [d1, d2, d3, g1] => { results := [.lit (.bool false)], args := [d1, d2, d3], vars := [g1] }
  | _ => none }
def FnExactBestReadingWrongFalsely : Prop := fnExactBestReadingRow.holds Tryd.pinned (OpenSpec.ofChange fnExactBestReadingWrong)

/-- 'laws.FnExactReadError': WHATEVER THE INPUT: true; the input reads as it did. -/
def fnExactReadErrorSpec : ChangeSpec := { name := "fnExactReadError", vars := ["loop.example/g00951/impl.scaleDecades"], fn := fun _ => fun
  | [d1, d2, d3, d4, g1] => { results := [.lit (.bool true)], args := [d1, d2, d3, d4], vars := [g1] }
  | _ => none }
def fnExactReadErrorRow : OpenClaim := { program := "ytgadkpkpdpphbaadoor", sum := "467864612c18d254bf6d8add3c9aa7918061230ecd1dfc480f59f6d0e551631d", func := "loop.example/g00951/laws.FnExactReadError", spec := "fnExactReadError", unfollowed := true, recurses := true, named := ["loop.example/g00951/impl.scaleDecades"], plainKeys := false, apart := false, laid := [("loop.example/g00951/impl.scaleDecades", laid_loop_example_g00951_impl_scaleDecades)] }
def FnExactReadErrorSaid : Prop := fnExactReadErrorRow.holds Tryd.pinned (OpenSpec.ofChange fnExactReadErrorSpec)

/-- ITS FALSE NEIGHBOUR: 'it returns false'. Refute it at one input. -/
def fnExactReadErrorWrong : ChangeSpec := { name := "fnExactReadError", vars := ["loop.example/g00951/impl.scaleDecades"], fn := fun _ => fun
  | [d1, d2, d3, d4, g1] => { results := [.lit (.bool false)], args := [d1, d2, d3, d4], vars := [g1] }
  | _ => none }
def FnExactReadErrorWrongFalsely : Prop := fnExactReadErrorRow.holds Tryd.pinned (OpenSpec.ofChange fnExactReadErrorWrong)

/-- 'laws.FnExactNeededLength': WHATEVER THE INPUT: true; the input reads as it did. -/
def fnExactNeededLengthSpec : ChangeSpec := { name := "fnExactNeededLength", vars := ["loop.example/g00951/impl.scaleDecades"], fn := fun _ => fun
  | [d1, d2, d3, d4, g1] => { results := [.lit (.bool true)], args := [d1, d2, d3, d4], vars := [g1] }
  | _ => none }
def fnExactNeededLengthRow : OpenClaim := { program := "ytgadkpkpdpphbaadoor", sum := "467864612c18d254bf6d8add3c9aa7918061230ecd1dfc480f59f6d0e551631d", func := "loop.example/g00951/laws.FnExactNeededLength", spec := "fnExactNeededLength", unfollowed := true, recurses := true, named := ["loop.example/g00951/impl.scaleDecades"], plainKeys := false, apart := false, laid := [("loop.example/g00951/impl.scaleDecades", laid_loop_example_g00951_impl_scaleDecades)] }
def FnExactNeededLengthSaid : Prop := fnExactNeededLengthRow.holds Tryd.pinned (OpenSpec.ofChange fnExactNeededLengthSpec)

/-- ITS FALSE NEIGHBOUR: 'it returns false'. Refute it at one input. -/
def fnExactNeededLengthWrong : ChangeSpec := { name := "fnExactNeededLength", vars := ["loop.example/g00951/impl.scaleDecades"], fn := fun _ => fun
  | [d1, d2, d3, d4, g1] => { results := [.lit (.bool false)], args := [d1, d2, d3, d4], vars := [g1] }
  | _ => none }
def FnExactNeededLengthWrongFalsely : Prop := fnExactNeededLengthRow.holds Tryd.pinned (OpenSpec.ofChange fnExactNeededLengthWrong)

/- THE SECOND FORM. 'bulk': how many values and letters a reading holds, each counted each time it is reached (what is shared counts as often as it is met; a slice's spare places count too). A statement '..UptoSaid' is the law's where the arguments, and the package variables that the reading takes, are together of bulk at most 1048576: NARROWER than '..Said'. Prove '..Said' where nothing that the law and all that it calls make is longer than what came in: it says more and counts as full. Else prove '..UptoSaid'. A law counts once. -/
mutual
def uptoBulk {H : Type} : DataW H → Nat
  | .lit (.string bytes) => bytes.length + 1
  | .lit _ => 1
  | .nil => 1
  | .ptr d => uptoBulk d + 1
  | .slice elems spare => uptoBulkAll elems + uptoBulkAll spare + 1
  | .agg parts => uptoBulkAll parts + 1
  | .iface _ d => uptoBulk d + 1
  | .map entries => uptoBulkEntries entries + 1
  | .held _ => 1
def uptoBulkAll {H : Type} : List (DataW H) → Nat
  | [] => 0
  | d :: r => uptoBulk d + uptoBulkAll r
def uptoBulkEntries {H : Type} : List (Lit × DataW H) → Nat
  | [] => 0
  | x :: r => uptoBulkEntry x + uptoBulkEntries r
def uptoBulkEntry {H : Type} : Lit × DataW H → Nat
  | (.string bytes, d) => bytes.length + uptoBulk d + 1
  | (_, d) => uptoBulk d + 1
 end
def uptoSmall : (H : Type) → List (DataW H) → Bool := fun _ ds => decide (uptoBulkAll ds ≤ 1048576)
def OpenSpec.upto (s : _root_.Go.ChangeSpec) : _root_.Go.OpenSpec := { _root_.Go.OpenSpec.ofChange s with cond := some uptoSmall }

/-- 'laws.FnReadings', WHERE WHAT IT READS IS OF BULK AT MOST 1048576: true; the input reads as it did. -/
def fnReadingsUptoRow : OpenClaim := { program := "ytgadkpkpdpphbaadoor", sum := "467864612c18d254bf6d8add3c9aa7918061230ecd1dfc480f59f6d0e551631d", func := "loop.example/g00951/laws.FnReadings", spec := "fnReadings", unfollowed := true, recurses := true, named := ["loop.example/g00951/impl.scaleDecades"], plainKeys := false, apart := false, laid := [("loop.example/g00951/impl.scaleDecades", laid_loop_example_g00951_impl_scaleDecades)], narrowed := true }
def FnReadingsUptoSaid : Prop := fnReadingsUptoRow.holds Tryd.pinned (OpenSpec.upto fnReadingsSpec)

/-- 'laws.FnNeededLengths', WHERE WHAT IT READS IS OF BULK AT MOST 1048576: true; the input reads as it did. -/
def fnNeededLengthsUptoRow : OpenClaim := { program := "ytgadkpkpdpphbaadoor", sum := "467864612c18d254bf6d8add3c9aa7918061230ecd1dfc480f59f6d0e551631d", func := "loop.example/g00951/laws.FnNeededLengths", spec := "fnNeededLengths", unfollowed := true, recurses := true, named := ["loop.example/g00951/impl.scaleDecades"], plainKeys := false, apart := false, laid := [("loop.example/g00951/impl.scaleDecades", laid_loop_example_g00951_impl_scaleDecades)], narrowed := true }
def FnNeededLengthsUptoSaid : Prop := fnNeededLengthsUptoRow.holds Tryd.pinned (OpenSpec.upto fnNeededLengthsSpec)

/-- 'laws.FnExactMayBeAt', WHERE WHAT IT READS IS OF BULK AT MOST 1048576: true; the input reads as it did. -/
def fnExactMayBeAtUptoRow : OpenClaim := { program := "ytgadkpkpdpphbaadoor", sum := "467864612c18d254bf6d8add3c9aa7918061230ecd1dfc480f59f6d0e551631d", func := "loop.example/g00951/laws.FnExactMayBeAt", spec := "fnExactMayBeAt", unfollowed := true, recurses := true, named := ["loop.example/g00951/impl.scaleDecades"], plainKeys := false, apart := false, laid := [("loop.example/g00951/impl.scaleDecades", laid_loop_example_g00951_impl_scaleDecades)], narrowed := true }
def FnExactMayBeAtUptoSaid : Prop := fnExactMayBeAtUptoRow.holds Tryd.pinned (OpenSpec.upto fnExactMayBeAtSpec)

/-- 'laws.FnExactFirstReading', WHERE WHAT IT READS IS OF BULK AT MOST 1048576: true; the input reads as it did. -/
def fnExactFirstReadingUptoRow : OpenClaim := { program := "ytgadkpkpdpphbaadoor", sum := "467864612c18d254bf6d8add3c9aa7918061230ecd1dfc480f59f6d0e551631d", func := "loop.example/g00951/laws.FnExactFirstReading", spec := "fnExactFirstReading", unfollowed := true, recurses := true, named := ["loop.example/g00951/impl.scaleDecades"], plainKeys := false, apart := false, laid := [("loop.example/g00951/impl.scaleDecades", laid_loop_example_g00951_impl_scaleDecades)], narrowed := true }
def FnExactFirstReadingUptoSaid : Prop := fnExactFirstReadingUptoRow.holds Tryd.pinned (OpenSpec.upto fnExactFirstReadingSpec)

/-- 'laws.FnExactLastReading', WHERE WHAT IT READS IS OF BULK AT MOST 1048576: true; the input reads as it did. -/
def fnExactLastReadingUptoRow : OpenClaim := { program := "ytgadkpkpdpphbaadoor", sum := "467864612c18d254bf6d8add3c9aa7918061230ecd1dfc480f59f6d0e551631d", func := "loop.example/g00951/laws.FnExactLastReading", spec := "fnExactLastReading", unfollowed := true, recurses := true, named := ["loop.example/g00951/impl.scaleDecades"], plainKeys := false, apart := false, laid := [("loop.example/g00951/impl.scaleDecades", laid_loop_example_g00951_impl_scaleDecades)], narrowed := true }
def FnExactLastReadingUptoSaid : Prop := fnExactLastReadingUptoRow.holds Tryd.pinned (OpenSpec.upto fnExactLastReadingSpec)

/-- 'laws.FnExactCountReadings', WHERE WHAT IT READS IS OF BULK AT MOST 1048576: true; the input reads as it did. -/
def fnExactCountReadingsUptoRow : OpenClaim := { program := "ytgadkpkpdpphbaadoor", sum := "467864612c18d254bf6d8add3c9aa7918061230ecd1dfc480f59f6d0e551631d", func := "loop.example/g00951/laws.FnExactCountReadings", spec := "fnExactCountReadings", unfollowed := true, recurses := true, named := ["loop.example/g00951/impl.scaleDecades"], plainKeys := false, apart := false, laid := [("loop.example/g00951/impl.scaleDecades", laid_loop_example_g00951_impl_scaleDecades)], narrowed := true }
def FnExactCountReadingsUptoSaid : Prop := fnExactCountReadingsUptoRow.holds Tryd.pinned (OpenSpec.upto fnExactCountReadingsSpec)

/-- 'laws.FnExactBestReading', WHERE WHAT IT READS IS OF BULK AT MOST 1048576: true; the input reads as it did. -/
def fnExactBestReadingUptoRow : OpenClaim := { program := "ytgadkpkpdpphbaadoor", sum := "467864612c18d254bf6d8add3c9aa7918061230ecd1dfc480f59f6d0e551631d", func := "loop.example/g00951/laws.FnExactBestReading", spec := "fnExactBestReading", unfollowed := true, recurses := true, named := ["loop.example/g00951/impl.scaleDecades"], plainKeys := false, apart := false, laid := [("loop.example/g00951/impl.scaleDecades", laid_loop_example_g00951_impl_scaleDecades)], narrowed := true }
def FnExactBestReadingUptoSaid : Prop := fnExactBestReadingUptoRow.holds Tryd.pinned (OpenSpec.upto fnExactBestReadingSpec)

/-- 'laws.FnExactReadError', WHERE WHAT IT READS IS OF BULK AT MOST 1048576: true; the input reads as it did. -/
def fnExactReadErrorUptoRow : OpenClaim := { program := "ytgadkpkpdpphbaadoor", sum := "467864612c18d254bf6d8add3c9aa7918061230ecd1dfc480f59f6d0e551631d", func := "loop.example/g00951/laws.FnExactReadError", spec := "fnExactReadError", unfollowed := true, recurses := true, named := ["loop.example/g00951/impl.scaleDecades"], plainKeys := false, apart := false, laid := [("loop.example/g00951/impl.scaleDecades", laid_loop_example_g00951_impl_scaleDecades)], narrowed := true }
def FnExactReadErrorUptoSaid : Prop := fnExactReadErrorUptoRow.holds Tryd.pinned (OpenSpec.upto fnExactReadErrorSpec)

/-- 'laws.FnExactNeededLength', WHERE WHAT IT READS IS OF BULK AT MOST 1048576: true; the input reads as it did. -/
def fnExactNeededLengthUptoRow : OpenClaim := { program := "ytgadkpkpdpphbaadoor", sum := "467864612c18d254bf6d8add3c9aa7918061230ecd1dfc480f59f6d0e551631d", func := "loop.example/g00951/laws.FnExactNeededLength", spec := "fnExactNeededLength", unfollowed := true, recurses := true, named := ["loop.example/g00951/impl.scaleDecades"], plainKeys := false, apart := false, laid := [("loop.example/g00951/impl.scaleDecades", laid_loop_example_g00951_impl_scaleDecades)], narrowed := true }
def FnExactNeededLengthUptoSaid : Prop := fnExactNeededLengthUptoRow.holds Tryd.pinned (OpenSpec.upto fnExactNeededLengthSpec)

end Rows
end Go.Proofs.YtgadkpkpdpphbaaDoor
