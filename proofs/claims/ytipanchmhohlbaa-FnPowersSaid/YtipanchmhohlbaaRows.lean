/-
  No cell of these rows narrows 'for every input' (looked for: loops, veiled, ifaces, maps, wideKeys, modest, calm, conditions, laid).
  DERIVED. THE GIVEN ROWS OF THIS SEAT. 11 by the template 'for every input the law returns true; each argument reads behind the call as it read before'; 0 by the template 'total and deterministic' (their statements: YtipanchmhohlbaaTotals.lean).
  GIVEN WITH THE SEED: the statements are not yours to turn. If you find one false, say at which input.
  Laid BY PROGRAM, IN A SANDBOX (cutbox-rows.mjs): the forced cells as the released guide's own fill.sh prints them over the translation bfa086a66eb65c1d… (all of the seat's roots in one cut). By AI agents, Wed Nov 11 2026. No macro, syntax, notation, axiom, sorry.
-/
import Derived.Test.YtipanchmhohlbaaChecked
import GoSem.Claim
import GoSem.ClaimJoined
import GoSem.ClaimMapViews
import Derived.JoinedTies
import Derived.KernelRfl
namespace Go.Proofs.Ytipanchmhohlbaa
/- THE CELL 'sum', in the pinned program and in every row, IS THE sha256 OF THE DUMP (.gsa) THAT YtipanchmhohlbaaProg.lean LOADS. Nothing in Lean hashes anything: it is a label: what it is worth is what the hold of that sum in a sandbox is worth. -/
noncomputable def Try.pinned : Pinned := { name := "ytipanchmhohlbaa", sum := "bfa086a66eb65c1dad937b46211de9b764dfa898c233bdd4b4f4c9c05e8f3949", checked := Try.checked }
namespace Rows
def none {H : Type} : Left H := { results := [], args := [] }

/-- 'laws.FnBelowAbove': WHATEVER THE INPUT: true; the input reads as it did. -/
def fnBelowAboveSpec : ChangeSpec := { name := "fnBelowAbove", fn := fun _ => fun
  | [d] => { results := [.lit (.bool true)], args := [d] }
  | _ => none }
def fnBelowAboveRow : OpenClaim := { program := "ytipanchmhohlbaa", sum := "bfa086a66eb65c1dad937b46211de9b764dfa898c233bdd4b4f4c9c05e8f3949", func := "loop.example/g00951/laws.FnBelowAbove", spec := "fnBelowAbove", unfollowed := true, recurses := true, apart := false }
def FnBelowAboveSaid : Prop := fnBelowAboveRow.holds Try.pinned (OpenSpec.ofChange fnBelowAboveSpec)

/-- ITS FALSE NEIGHBOUR: 'it returns false'. Refute it at one input. -/
def fnBelowAboveWrong : ChangeSpec := { name := "fnBelowAbove", fn := fun _ => fun
  | [d] => { results := [.lit (.bool false)], args := [d] }
  | _ => none }
def FnBelowAboveWrongFalsely : Prop := fnBelowAboveRow.holds Try.pinned (OpenSpec.ofChange fnBelowAboveWrong)

/-- 'laws.FnSpans': WHATEVER THE INPUT: true; the input reads as it did. -/
def fnSpansSpec : ChangeSpec := { name := "fnSpans", fn := fun _ => fun
  | [d] => { results := [.lit (.bool true)], args := [d] }
  | _ => none }
def fnSpansRow : OpenClaim := { program := "ytipanchmhohlbaa", sum := "bfa086a66eb65c1dad937b46211de9b764dfa898c233bdd4b4f4c9c05e8f3949", func := "loop.example/g00951/laws.FnSpans", spec := "fnSpans", unfollowed := true, recurses := true, apart := false }
def FnSpansSaid : Prop := fnSpansRow.holds Try.pinned (OpenSpec.ofChange fnSpansSpec)

/-- ITS FALSE NEIGHBOUR: 'it returns false'. Refute it at one input. -/
def fnSpansWrong : ChangeSpec := { name := "fnSpans", fn := fun _ => fun
  | [d] => { results := [.lit (.bool false)], args := [d] }
  | _ => none }
def FnSpansWrongFalsely : Prop := fnSpansRow.holds Try.pinned (OpenSpec.ofChange fnSpansWrong)

/-- 'laws.FnPowers': WHATEVER THE INPUT: true; the input reads as it did. -/
def fnPowersSpec : ChangeSpec := { name := "fnPowers", fn := fun _ => fun
  | [d] => { results := [.lit (.bool true)], args := [d] }
  | _ => none }
def fnPowersRow : OpenClaim := { program := "ytipanchmhohlbaa", sum := "bfa086a66eb65c1dad937b46211de9b764dfa898c233bdd4b4f4c9c05e8f3949", func := "loop.example/g00951/laws.FnPowers", spec := "fnPowers", unfollowed := true, recurses := true, apart := false }
def FnPowersSaid : Prop := fnPowersRow.holds Try.pinned (OpenSpec.ofChange fnPowersSpec)

/-- ITS FALSE NEIGHBOUR: 'it returns false'. Refute it at one input. -/
def fnPowersWrong : ChangeSpec := { name := "fnPowers", fn := fun _ => fun
  | [d] => { results := [.lit (.bool false)], args := [d] }
  | _ => none }
def FnPowersWrongFalsely : Prop := fnPowersRow.holds Try.pinned (OpenSpec.ofChange fnPowersWrong)

/-- 'laws.FnExactFigureBelow': WHATEVER THE INPUT: true; the input reads as it did. -/
def fnExactFigureBelowSpec : ChangeSpec := { name := "fnExactFigureBelow", fn := fun _ => fun
  | [d] => { results := [.lit (.bool true)], args := [d] }
  | _ => none }
def fnExactFigureBelowRow : OpenClaim := { program := "ytipanchmhohlbaa", sum := "bfa086a66eb65c1dad937b46211de9b764dfa898c233bdd4b4f4c9c05e8f3949", func := "loop.example/g00951/laws.FnExactFigureBelow", spec := "fnExactFigureBelow", unfollowed := true, recurses := true, apart := false }
def FnExactFigureBelowSaid : Prop := fnExactFigureBelowRow.holds Try.pinned (OpenSpec.ofChange fnExactFigureBelowSpec)

/-- ITS FALSE NEIGHBOUR: 'it returns false'. Refute it at one input. -/
def fnExactFigureBelowWrong : ChangeSpec := { name := "fnExactFigureBelow", fn := fun _ => fun
  | [d] => { results := [.lit (.bool false)], args := [d] }
  | _ => none }
def FnExactFigureBelowWrongFalsely : Prop := fnExactFigureBelowRow.holds Try.pinned (OpenSpec.ofChange fnExactFigureBelowWrong)

/-- 'laws.FnExactFigureAbove': WHATEVER THE INPUT: true; the input reads as it did. -/
def fnExactFigureAboveSpec : ChangeSpec := { name := "fnExactFigureAbove", fn := fun _ => fun
  | [d] => { results := [.lit (.bool true)], args := [d] }
  | _ => none }
def fnExactFigureAboveRow : OpenClaim := { program := "ytipanchmhohlbaa", sum := "bfa086a66eb65c1dad937b46211de9b764dfa898c233bdd4b4f4c9c05e8f3949", func := "loop.example/g00951/laws.FnExactFigureAbove", spec := "fnExactFigureAbove", unfollowed := true, recurses := true, apart := false }
def FnExactFigureAboveSaid : Prop := fnExactFigureAboveRow.holds Try.pinned (OpenSpec.ofChange fnExactFigureAboveSpec)

/-- ITS FALSE NEIGHBOUR: 'it returns false'. Refute it at one input. -/
def fnExactFigureAboveWrong : ChangeSpec := { name := "fnExactFigureAbove", fn := fun _ => fun
  | [d] => { results := [.lit (.bool false)], args := [d] }
  | _ => none }
def FnExactFigureAboveWrongFalsely : Prop := fnExactFigureAboveRow.holds Try.pinned (OpenSpec.ofChange fnExactFigureAboveWrong)

/-- 'laws.FnExactSpanOf': WHATEVER THE INPUT: true; the input reads as it did. -/
def fnExactSpanOfSpec : ChangeSpec := { name := "fnExactSpanOf", fn := fun _ => fun
  | [d] => { results := [.lit (.bool true)], args := [d] }
  | _ => none }
def fnExactSpanOfRow : OpenClaim := { program := "ytipanchmhohlbaa", sum := "bfa086a66eb65c1dad937b46211de9b764dfa898c233bdd4b4f4c9c05e8f3949", func := "loop.example/g00951/laws.FnExactSpanOf", spec := "fnExactSpanOf", unfollowed := true, recurses := true, apart := false }
def FnExactSpanOfSaid : Prop := fnExactSpanOfRow.holds Try.pinned (OpenSpec.ofChange fnExactSpanOfSpec)

/-- ITS FALSE NEIGHBOUR: 'it returns false'. Refute it at one input. -/
def fnExactSpanOfWrong : ChangeSpec := { name := "fnExactSpanOf", fn := fun _ => fun
  | [d] => { results := [.lit (.bool false)], args := [d] }
  | _ => none }
def FnExactSpanOfWrongFalsely : Prop := fnExactSpanOfRow.holds Try.pinned (OpenSpec.ofChange fnExactSpanOfWrong)

/-- 'laws.FnExactProductSpan': WHATEVER THE INPUT: true; the input reads as it did. -/
def fnExactProductSpanSpec : ChangeSpec := { name := "fnExactProductSpan", fn := fun _ => fun
  | [d1, d2] => { results := [.lit (.bool true)], args := [d1, d2] }
  | _ => none }
def fnExactProductSpanRow : OpenClaim := { program := "ytipanchmhohlbaa", sum := "bfa086a66eb65c1dad937b46211de9b764dfa898c233bdd4b4f4c9c05e8f3949", func := "loop.example/g00951/laws.FnExactProductSpan", spec := "fnExactProductSpan", unfollowed := true, recurses := true, apart := false }
def FnExactProductSpanSaid : Prop := fnExactProductSpanRow.holds Try.pinned (OpenSpec.ofChange fnExactProductSpanSpec)

/-- ITS FALSE NEIGHBOUR: 'it returns false'. Refute it at one input. -/
def fnExactProductSpanWrong : ChangeSpec := { name := "fnExactProductSpan", fn := fun _ => fun
  | [d1, d2] => { results := [.lit (.bool false)], args := [d1, d2] }
  | _ => none }
def FnExactProductSpanWrongFalsely : Prop := fnExactProductSpanRow.holds Try.pinned (OpenSpec.ofChange fnExactProductSpanWrong)

/-- 'laws.FnExactQuotientSpan': WHATEVER THE INPUT: true; the input reads as it did. -/
def fnExactQuotientSpanSpec : ChangeSpec := { name := "fnExactQuotientSpan", fn := fun _ => fun
  | [d1, d2] => { results := [.lit (.bool true)], args := [d1, d2] }
  | _ => none }
def fnExactQuotientSpanRow : OpenClaim := { program := "ytipanchmhohlbaa", sum := "bfa086a66eb65c1dad937b46211de9b764dfa898c233bdd4b4f4c9c05e8f3949", func := "loop.example/g00951/laws.FnExactQuotientSpan", spec := "fnExactQuotientSpan", unfollowed := true, recurses := true, apart := false }
def FnExactQuotientSpanSaid : Prop := fnExactQuotientSpanRow.holds Try.pinned (OpenSpec.ofChange fnExactQuotientSpanSpec)

/-- ITS FALSE NEIGHBOUR: 'it returns false'. Refute it at one input. -/
def fnExactQuotientSpanWrong : ChangeSpec := { name := "fnExactQuotientSpan", fn := fun _ => fun
  | [d1, d2] => { results := [.lit (.bool false)], args := [d1, d2] }
  | _ => none }
def FnExactQuotientSpanWrongFalsely : Prop := fnExactQuotientSpanRow.holds Try.pinned (OpenSpec.ofChange fnExactQuotientSpanWrong)

/-- 'laws.FnExactPowerSpan': WHATEVER THE INPUT: true; the input reads as it did. -/
def fnExactPowerSpanSpec : ChangeSpec := { name := "fnExactPowerSpan", fn := fun _ => fun
  | [d1, d2, d3] => { results := [.lit (.bool true)], args := [d1, d2, d3] }
  | _ => none }
def fnExactPowerSpanRow : OpenClaim := { program := "ytipanchmhohlbaa", sum := "bfa086a66eb65c1dad937b46211de9b764dfa898c233bdd4b4f4c9c05e8f3949", func := "loop.example/g00951/laws.FnExactPowerSpan", spec := "fnExactPowerSpan", unfollowed := true, recurses := true, apart := false }
def FnExactPowerSpanSaid : Prop := fnExactPowerSpanRow.holds Try.pinned (OpenSpec.ofChange fnExactPowerSpanSpec)

/-- ITS FALSE NEIGHBOUR: 'it returns false'. Refute it at one input. -/
def fnExactPowerSpanWrong : ChangeSpec := { name := "fnExactPowerSpan", fn := fun _ => fun
  | [d1, d2, d3] => { results := [.lit (.bool false)], args := [d1, d2, d3] }
  | _ => none }
def FnExactPowerSpanWrongFalsely : Prop := fnExactPowerSpanRow.holds Try.pinned (OpenSpec.ofChange fnExactPowerSpanWrong)

/-- 'laws.FnExactSpanError': WHATEVER THE INPUT: true; the input reads as it did. -/
def fnExactSpanErrorSpec : ChangeSpec := { name := "fnExactSpanError", fn := fun _ => fun
  | [d1, d2] => { results := [.lit (.bool true)], args := [d1, d2] }
  | _ => none }
def fnExactSpanErrorRow : OpenClaim := { program := "ytipanchmhohlbaa", sum := "bfa086a66eb65c1dad937b46211de9b764dfa898c233bdd4b4f4c9c05e8f3949", func := "loop.example/g00951/laws.FnExactSpanError", spec := "fnExactSpanError", apart := false }
def FnExactSpanErrorSaid : Prop := fnExactSpanErrorRow.holds Try.pinned (OpenSpec.ofChange fnExactSpanErrorSpec)

/-- ITS FALSE NEIGHBOUR: 'it returns false'. Refute it at one input. -/
def fnExactSpanErrorWrong : ChangeSpec := { name := "fnExactSpanError", fn := fun _ => fun
  | [d1, d2] => { results := [.lit (.bool false)], args := [d1, d2] }
  | _ => none }
def FnExactSpanErrorWrongFalsely : Prop := fnExactSpanErrorRow.holds Try.pinned (OpenSpec.ofChange fnExactSpanErrorWrong)

/-- 'laws.FnExactMiddleFigure': WHATEVER THE INPUT: true; the input reads as it did. -/
def fnExactMiddleFigureSpec : ChangeSpec := { name := "fnExactMiddleFigure", fn := fun _ => fun
  | [d1, d2] => { results := [.lit (.bool true)], args := [d1, d2] }
  | _ => none }
def fnExactMiddleFigureRow : OpenClaim := { program := "ytipanchmhohlbaa", sum := "bfa086a66eb65c1dad937b46211de9b764dfa898c233bdd4b4f4c9c05e8f3949", func := "loop.example/g00951/laws.FnExactMiddleFigure", spec := "fnExactMiddleFigure", unfollowed := true, recurses := true, apart := false }
def FnExactMiddleFigureSaid : Prop := fnExactMiddleFigureRow.holds Try.pinned (OpenSpec.ofChange fnExactMiddleFigureSpec)

/-- ITS FALSE NEIGHBOUR: 'it returns false'. Refute it at one input. -/
def fnExactMiddleFigureWrong : ChangeSpec := { name := "fnExactMiddleFigure", fn := fun _ => fun
  | [d1, d2] => { results := [.lit (.bool false)], args := [d1, d2] }
  | _ => none }
def FnExactMiddleFigureWrongFalsely : Prop := fnExactMiddleFigureRow.holds Try.pinned (OpenSpec.ofChange fnExactMiddleFigureWrong)

/- THE SECOND FORM. 'bulk': how many values and letters a reading holds, each counted each time it is reached (what is shared counts as often as it is met; a slice's spare places count too). A statement '..UptoSaid' is the law's where the arguments, and the package variables that the reading takes, are together of bulk at most 1048576: NARROWER than '..Said'. Prove '..Said' where nothing that the law and all that it calls make is longer than what came in: it says more and counts as full. Else prove '..UptoSaid'. A law counts once. -/
mutual
def uptoBulk {H : Type} : DataW H → Nat
  | .lit (.string bytes) => bytes.length + 1
  | .lit _ => 1
  | .nil => 1
  | .ptr d => uptoBulk d + 1
  | .slice elems spare => uptoBulkAll elems + uptoBulkAll spare + 1
  | .agg parts => uptoBulkAll parts + 1
  | .iface _ d => uptoBulk d + 1
  | .map entries => uptoBulkEntries entries + 1
  | .held _ => 1
def uptoBulkAll {H : Type} : List (DataW H) → Nat
  | [] => 0
  | d :: r => uptoBulk d + uptoBulkAll r
def uptoBulkEntries {H : Type} : List (Lit × DataW H) → Nat
  | [] => 0
  | x :: r => uptoBulkEntry x + uptoBulkEntries r
def uptoBulkEntry {H : Type} : Lit × DataW H → Nat
  | (.string bytes, d) => bytes.length + uptoBulk d + 1
  | (_, d) => uptoBulk d + 1
 end
def uptoSmall : (H : Type) → List (DataW H) → Bool := fun _ ds => decide (uptoBulkAll ds ≤ 1048576)
def OpenSpec.upto (s : _root_.Go.ChangeSpec) : _root_.Go.OpenSpec := { _root_.Go.OpenSpec.ofChange s with cond := some uptoSmall }

/-- 'laws.FnBelowAbove', WHERE WHAT IT READS IS OF BULK AT MOST 1048576: true; the input reads as it did. -/
def fnBelowAboveUptoRow : OpenClaim := { program := "ytipanchmhohlbaa", sum := "bfa086a66eb65c1dad937b46211de9b764dfa898c233bdd4b4f4c9c05e8f3949", func := "loop.example/g00951/laws.FnBelowAbove", spec := "fnBelowAbove", unfollowed := true, recurses := true, apart := false, narrowed := true }
def FnBelowAboveUptoSaid : Prop := fnBelowAboveUptoRow.holds Try.pinned (OpenSpec.upto fnBelowAboveSpec)

/-- 'laws.FnSpans', WHERE WHAT IT READS IS OF BULK AT MOST 1048576: true; the input reads as it did. -/
def fnSpansUptoRow : OpenClaim := { program := "ytipanchmhohlbaa", sum := "bfa086a66eb65c1dad937b46211de9b764dfa898c233bdd4b4f4c9c05e8f3949", func := "loop.example/g00951/laws.FnSpans", spec := "fnSpans", unfollowed := true, recurses := true, apart := false, narrowed := true }
def FnSpansUptoSaid : Prop := fnSpansUptoRow.holds Try.pinned (OpenSpec.upto fnSpansSpec)

/-- 'laws.FnPowers', WHERE WHAT IT READS IS OF BULK AT MOST 1048576: true; the input reads as it did. -/
def fnPowersUptoRow : OpenClaim := { program := "ytipanchmhohlbaa", sum := "bfa086a66eb65c1dad937b46211de9b764dfa898c233bdd4b4f4c9c05e8f3949", func := "loop.example/g00951/laws.FnPowers", spec := "fnPowers", unfollowed := true, recurses := true, apart := false, narrowed := true }
def FnPowersUptoSaid : Prop := fnPowersUptoRow.holds Try.pinned (OpenSpec.upto fnPowersSpec)

/-- 'laws.FnExactFigureBelow', WHERE WHAT IT READS IS OF BULK AT MOST 1048576: true; the input reads as it did. -/
def fnExactFigureBelowUptoRow : OpenClaim := { program := "ytipanchmhohlbaa", sum := "bfa086a66eb65c1dad937b46211de9b764dfa898c233bdd4b4f4c9c05e8f3949", func := "loop.example/g00951/laws.FnExactFigureBelow", spec := "fnExactFigureBelow", unfollowed := true, recurses := true, apart := false, narrowed := true }
def FnExactFigureBelowUptoSaid : Prop := fnExactFigureBelowUptoRow.holds Try.pinned (OpenSpec.upto fnExactFigureBelowSpec)

/-- 'laws.FnExactFigureAbove', WHERE WHAT IT READS IS OF BULK AT MOST 1048576: true; the input reads as it did. -/
def fnExactFigureAboveUptoRow : OpenClaim := { program := "ytipanchmhohlbaa", sum := "bfa086a66eb65c1dad937b46211de9b764dfa898c233bdd4b4f4c9c05e8f3949", func := "loop.example/g00951/laws.FnExactFigureAbove", spec := "fnExactFigureAbove", unfollowed := true, recurses := true, apart := false, narrowed := true }
def FnExactFigureAboveUptoSaid : Prop := fnExactFigureAboveUptoRow.holds Try.pinned (OpenSpec.upto fnExactFigureAboveSpec)

/-- 'laws.FnExactSpanOf', WHERE WHAT IT READS IS OF BULK AT MOST 1048576: true; the input reads as it did. -/
def fnExactSpanOfUptoRow : OpenClaim := { program := "ytipanchmhohlbaa", sum := "bfa086a66eb65c1dad937b46211de9b764dfa898c233bdd4b4f4c9c05e8f3949", func := "loop.example/g00951/laws.FnExactSpanOf", spec := "fnExactSpanOf", unfollowed := true, recurses := true, apart := false, narrowed := true }
def FnExactSpanOfUptoSaid : Prop := fnExactSpanOfUptoRow.holds Try.pinned (OpenSpec.upto fnExactSpanOfSpec)

/-- 'laws.FnExactProductSpan', WHERE WHAT IT READS IS OF BULK AT MOST 1048576: true; the input reads as it did. -/
def fnExactProductSpanUptoRow : OpenClaim := { program := "ytipanchmhohlbaa", sum := "bfa086a66eb65c1dad937b46211de9b764dfa898c233bdd4b4f4c9c05e8f3949", func := "loop.example/g00951/laws.FnExactProductSpan", spec := "fnExactProductSpan", unfollowed := true, recurses := true, apart := false, narrowed := true }
def FnExactProductSpanUptoSaid : Prop := fnExactProductSpanUptoRow.holds Try.pinned (OpenSpec.upto fnExactProductSpanSpec)

/-- 'laws.FnExactQuotientSpan', WHERE WHAT IT READS IS OF BULK AT MOST 1048576: true; the input reads as it did. -/
def fnExactQuotientSpanUptoRow : OpenClaim := { program := "ytipanchmhohlbaa", sum := "bfa086a66eb65c1dad937b46211de9b764dfa898c233bdd4b4f4c9c05e8f3949", func := "loop.example/g00951/laws.FnExactQuotientSpan", spec := "fnExactQuotientSpan", unfollowed := true, recurses := true, apart := false, narrowed := true }
def FnExactQuotientSpanUptoSaid : Prop := fnExactQuotientSpanUptoRow.holds Try.pinned (OpenSpec.upto fnExactQuotientSpanSpec)

/-- 'laws.FnExactPowerSpan', WHERE WHAT IT READS IS OF BULK AT MOST 1048576: true; the input reads as it did. -/
def fnExactPowerSpanUptoRow : OpenClaim := { program := "ytipanchmhohlbaa", sum := "bfa086a66eb65c1dad937b46211de9b764dfa898c233bdd4b4f4c9c05e8f3949", func := "loop.example/g00951/laws.FnExactPowerSpan", spec := "fnExactPowerSpan", unfollowed := true, recurses := true, apart := false, narrowed := true }
def FnExactPowerSpanUptoSaid : Prop := fnExactPowerSpanUptoRow.holds Try.pinned (OpenSpec.upto fnExactPowerSpanSpec)

/-- 'laws.FnExactSpanError', WHERE WHAT IT READS IS OF BULK AT MOST 1048576: true; the input reads as it did. -/
def fnExactSpanErrorUptoRow : OpenClaim := { program := "ytipanchmhohlbaa", sum := "bfa086a66eb65c1dad937b46211de9b764dfa898c233bdd4b4f4c9c05e8f3949", func := "loop.example/g00951/laws.FnExactSpanError", spec := "fnExactSpanError", apart := false, narrowed := true }
def FnExactSpanErrorUptoSaid : Prop := fnExactSpanErrorUptoRow.holds Try.pinned (OpenSpec.upto fnExactSpanErrorSpec)

/-- 'laws.FnExactMiddleFigure', WHERE WHAT IT READS IS OF BULK AT MOST 1048576: true; the input reads as it did. -/
def fnExactMiddleFigureUptoRow : OpenClaim := { program := "ytipanchmhohlbaa", sum := "bfa086a66eb65c1dad937b46211de9b764dfa898c233bdd4b4f4c9c05e8f3949", func := "loop.example/g00951/laws.FnExactMiddleFigure", spec := "fnExactMiddleFigure", unfollowed := true, recurses := true, apart := false, narrowed := true }
def FnExactMiddleFigureUptoSaid : Prop := fnExactMiddleFigureUptoRow.holds Try.pinned (OpenSpec.upto fnExactMiddleFigureSpec)

end Rows
end Go.Proofs.Ytipanchmhohlbaa
