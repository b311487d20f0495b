/-
  No cell of these rows narrows 'for every input' (looked for: loops, veiled, ifaces, maps, wideKeys, modest, calm, conditions, laid).
  DERIVED. THE GIVEN ROWS OF THIS SEAT. 11 by the template 'for every input the law returns true; each argument reads behind the call as it read before'; 0 by the template 'total and deterministic' (their statements: YthigoankiobcmaaTotals.lean).
  GIVEN WITH THE SEED: the statements are not yours to turn. If you find one false, say at which input.
  Laid BY PROGRAM, IN A SANDBOX (cutbox-rows.mjs): the forced cells as the released guide's own fill.sh prints them over the translation 949f2c3e7f1b0187… (all of the seat's roots in one cut). By AI agents, Wed Nov 11 2026. No macro, syntax, notation, axiom, sorry.
-/
import Derived.Test.YthigoankiobcmaaChecked
import GoSem.Claim
import GoSem.ClaimJoined
import GoSem.ClaimMapViews
import Derived.JoinedTies
import Derived.KernelRfl
namespace Go.Proofs.Ythigoankiobcmaa
/- THE CELL 'sum', in the pinned program and in every row, IS THE sha256 OF THE DUMP (.gsa) THAT YthigoankiobcmaaProg.lean LOADS. Nothing in Lean hashes anything: it is a label: what it is worth is what the hold of that sum in a sandbox is worth. -/
noncomputable def Try.pinned : Pinned := { name := "ythigoankiobcmaa", sum := "949f2c3e7f1b01873cbf3d2123356d44c819f8ad5de891a664e01b1a9128ebf6", checked := Try.checked }
namespace Rows
def none {H : Type} : Left H := { results := [], args := [] }

/-- 'laws.FnLogarithms': WHATEVER THE INPUT: true; the input reads as it did. -/
def fnLogarithmsSpec : ChangeSpec := { name := "fnLogarithms", fn := fun _ => fun
  | [d] => { results := [.lit (.bool true)], args := [d] }
  | _ => none }
def fnLogarithmsRow : OpenClaim := { program := "ythigoankiobcmaa", sum := "949f2c3e7f1b01873cbf3d2123356d44c819f8ad5de891a664e01b1a9128ebf6", func := "loop.example/g00951/laws.FnLogarithms", spec := "fnLogarithms", unfollowed := true, recurses := true, apart := false }
def FnLogarithmsSaid : Prop := fnLogarithmsRow.holds Try.pinned (OpenSpec.ofChange fnLogarithmsSpec)

/-- ITS FALSE NEIGHBOUR: 'it returns false'. Refute it at one input. -/
def fnLogarithmsWrong : ChangeSpec := { name := "fnLogarithms", fn := fun _ => fun
  | [d] => { results := [.lit (.bool false)], args := [d] }
  | _ => none }
def FnLogarithmsWrongFalsely : Prop := fnLogarithmsRow.holds Try.pinned (OpenSpec.ofChange fnLogarithmsWrong)

/-- 'laws.FnLogProducts': WHATEVER THE INPUT: true; the input reads as it did. -/
def fnLogProductsSpec : ChangeSpec := { name := "fnLogProducts", fn := fun _ => fun
  | [d] => { results := [.lit (.bool true)], args := [d] }
  | _ => none }
def fnLogProductsRow : OpenClaim := { program := "ythigoankiobcmaa", sum := "949f2c3e7f1b01873cbf3d2123356d44c819f8ad5de891a664e01b1a9128ebf6", func := "loop.example/g00951/laws.FnLogProducts", spec := "fnLogProducts", unfollowed := true, recurses := true, apart := false }
def FnLogProductsSaid : Prop := fnLogProductsRow.holds Try.pinned (OpenSpec.ofChange fnLogProductsSpec)

/-- ITS FALSE NEIGHBOUR: 'it returns false'. Refute it at one input. -/
def fnLogProductsWrong : ChangeSpec := { name := "fnLogProducts", fn := fun _ => fun
  | [d] => { results := [.lit (.bool false)], args := [d] }
  | _ => none }
def FnLogProductsWrongFalsely : Prop := fnLogProductsRow.holds Try.pinned (OpenSpec.ofChange fnLogProductsWrong)

/-- 'laws.FnLogScales': WHATEVER THE INPUT: true; the input reads as it did. -/
def fnLogScalesSpec : ChangeSpec := { name := "fnLogScales", fn := fun _ => fun
  | [d] => { results := [.lit (.bool true)], args := [d] }
  | _ => none }
def fnLogScalesRow : OpenClaim := { program := "ythigoankiobcmaa", sum := "949f2c3e7f1b01873cbf3d2123356d44c819f8ad5de891a664e01b1a9128ebf6", func := "loop.example/g00951/laws.FnLogScales", spec := "fnLogScales", apart := false }
def FnLogScalesSaid : Prop := fnLogScalesRow.holds Try.pinned (OpenSpec.ofChange fnLogScalesSpec)

/-- ITS FALSE NEIGHBOUR: 'it returns false'. Refute it at one input. -/
def fnLogScalesWrong : ChangeSpec := { name := "fnLogScales", fn := fun _ => fun
  | [d] => { results := [.lit (.bool false)], args := [d] }
  | _ => none }
def FnLogScalesWrongFalsely : Prop := fnLogScalesRow.holds Try.pinned (OpenSpec.ofChange fnLogScalesWrong)

/-- 'laws.FnExactIsInterval': WHATEVER THE INPUT: true; the input reads as it did. -/
def fnExactIsIntervalSpec : ChangeSpec := { name := "fnExactIsInterval", fn := fun _ => fun
  | [d] => { results := [.lit (.bool true)], args := [d] }
  | _ => none }
def fnExactIsIntervalRow : OpenClaim := { program := "ythigoankiobcmaa", sum := "949f2c3e7f1b01873cbf3d2123356d44c819f8ad5de891a664e01b1a9128ebf6", func := "loop.example/g00951/laws.FnExactIsInterval", spec := "fnExactIsInterval", apart := false }
def FnExactIsIntervalSaid : Prop := fnExactIsIntervalRow.holds Try.pinned (OpenSpec.ofChange fnExactIsIntervalSpec)

/-- ITS FALSE NEIGHBOUR: 'it returns false'. Refute it at one input. -/
def fnExactIsIntervalWrong : ChangeSpec := { name := "fnExactIsInterval", fn := fun _ => fun
  | [d] => { results := [.lit (.bool false)], args := [d] }
  | _ => none }
def FnExactIsIntervalWrongFalsely : Prop := fnExactIsIntervalRow.holds Try.pinned (OpenSpec.ofChange fnExactIsIntervalWrong)

/-- 'laws.FnExactLogarithmOf': WHATEVER THE INPUT: true; the input reads as it did. -/
def fnExactLogarithmOfSpec : ChangeSpec := { name := "fnExactLogarithmOf", fn := fun _ => fun
  | [d] => { results := [.lit (.bool true)], args := [d] }
  | _ => none }
def fnExactLogarithmOfRow : OpenClaim := { program := "ythigoankiobcmaa", sum := "949f2c3e7f1b01873cbf3d2123356d44c819f8ad5de891a664e01b1a9128ebf6", func := "loop.example/g00951/laws.FnExactLogarithmOf", spec := "fnExactLogarithmOf", unfollowed := true, recurses := true, apart := false }
def FnExactLogarithmOfSaid : Prop := fnExactLogarithmOfRow.holds Try.pinned (OpenSpec.ofChange fnExactLogarithmOfSpec)

/-- ITS FALSE NEIGHBOUR: 'it returns false'. Refute it at one input. -/
def fnExactLogarithmOfWrong : ChangeSpec := { name := "fnExactLogarithmOf", fn := fun _ => fun
  | [d] => { results := [.lit (.bool false)], args := [d] }
  | _ => none }
def FnExactLogarithmOfWrongFalsely : Prop := fnExactLogarithmOfRow.holds Try.pinned (OpenSpec.ofChange fnExactLogarithmOfWrong)

/-- 'laws.FnExactFigureLog': WHATEVER THE INPUT: true; the input reads as it did. -/
def fnExactFigureLogSpec : ChangeSpec := { name := "fnExactFigureLog", fn := fun _ => fun
  | [d] => { results := [.lit (.bool true)], args := [d] }
  | _ => none }
def fnExactFigureLogRow : OpenClaim := { program := "ythigoankiobcmaa", sum := "949f2c3e7f1b01873cbf3d2123356d44c819f8ad5de891a664e01b1a9128ebf6", func := "loop.example/g00951/laws.FnExactFigureLog", spec := "fnExactFigureLog", unfollowed := true, recurses := true, apart := false }
def FnExactFigureLogSaid : Prop := fnExactFigureLogRow.holds Try.pinned (OpenSpec.ofChange fnExactFigureLogSpec)

/-- ITS FALSE NEIGHBOUR: 'it returns false'. Refute it at one input. -/
def fnExactFigureLogWrong : ChangeSpec := { name := "fnExactFigureLog", fn := fun _ => fun
  | [d] => { results := [.lit (.bool false)], args := [d] }
  | _ => none }
def FnExactFigureLogWrongFalsely : Prop := fnExactFigureLogRow.holds Try.pinned (OpenSpec.ofChange fnExactFigureLogWrong)

/-- 'laws.FnExactAddLogs': WHATEVER THE INPUT: true; the input reads as it did. -/
def fnExactAddLogsSpec : ChangeSpec := { name := "fnExactAddLogs", fn := fun _ => fun
  | [d1, d2] => { results := [.lit (.bool true)], args := [d1, d2] }
  | _ => none }
def fnExactAddLogsRow : OpenClaim := { program := "ythigoankiobcmaa", sum := "949f2c3e7f1b01873cbf3d2123356d44c819f8ad5de891a664e01b1a9128ebf6", func := "loop.example/g00951/laws.FnExactAddLogs", spec := "fnExactAddLogs", apart := false }
def FnExactAddLogsSaid : Prop := fnExactAddLogsRow.holds Try.pinned (OpenSpec.ofChange fnExactAddLogsSpec)

/-- ITS FALSE NEIGHBOUR: 'it returns false'. Refute it at one input. -/
def fnExactAddLogsWrong : ChangeSpec := { name := "fnExactAddLogs", fn := fun _ => fun
  | [d1, d2] => { results := [.lit (.bool false)], args := [d1, d2] }
  | _ => none }
def FnExactAddLogsWrongFalsely : Prop := fnExactAddLogsRow.holds Try.pinned (OpenSpec.ofChange fnExactAddLogsWrong)

/-- 'laws.FnExactSubtractLogs': WHATEVER THE INPUT: true; the input reads as it did. -/
def fnExactSubtractLogsSpec : ChangeSpec := { name := "fnExactSubtractLogs", fn := fun _ => fun
  | [d1, d2] => { results := [.lit (.bool true)], args := [d1, d2] }
  | _ => none }
def fnExactSubtractLogsRow : OpenClaim := { program := "ythigoankiobcmaa", sum := "949f2c3e7f1b01873cbf3d2123356d44c819f8ad5de891a664e01b1a9128ebf6", func := "loop.example/g00951/laws.FnExactSubtractLogs", spec := "fnExactSubtractLogs", apart := false }
def FnExactSubtractLogsSaid : Prop := fnExactSubtractLogsRow.holds Try.pinned (OpenSpec.ofChange fnExactSubtractLogsSpec)

/-- ITS FALSE NEIGHBOUR: 'it returns false'. Refute it at one input. -/
def fnExactSubtractLogsWrong : ChangeSpec := { name := "fnExactSubtractLogs", fn := fun _ => fun
  | [d1, d2] => { results := [.lit (.bool false)], args := [d1, d2] }
  | _ => none }
def FnExactSubtractLogsWrongFalsely : Prop := fnExactSubtractLogsRow.holds Try.pinned (OpenSpec.ofChange fnExactSubtractLogsWrong)

/-- 'laws.FnExactScaleLog': WHATEVER THE INPUT: true; the input reads as it did. -/
def fnExactScaleLogSpec : ChangeSpec := { name := "fnExactScaleLog", fn := fun _ => fun
  | [d1, d2, d3] => { results := [.lit (.bool true)], args := [d1, d2, d3] }
  | _ => none }
def fnExactScaleLogRow : OpenClaim := { program := "ythigoankiobcmaa", sum := "949f2c3e7f1b01873cbf3d2123356d44c819f8ad5de891a664e01b1a9128ebf6", func := "loop.example/g00951/laws.FnExactScaleLog", spec := "fnExactScaleLog", apart := false }
def FnExactScaleLogSaid : Prop := fnExactScaleLogRow.holds Try.pinned (OpenSpec.ofChange fnExactScaleLogSpec)

/-- ITS FALSE NEIGHBOUR: 'it returns false'. Refute it at one input. -/
def fnExactScaleLogWrong : ChangeSpec := { name := "fnExactScaleLog", fn := fun _ => fun
  | [d1, d2, d3] => { results := [.lit (.bool false)], args := [d1, d2, d3] }
  | _ => none }
def FnExactScaleLogWrongFalsely : Prop := fnExactScaleLogRow.holds Try.pinned (OpenSpec.ofChange fnExactScaleLogWrong)

/-- 'laws.FnExactMantissaOf': WHATEVER THE INPUT: true; the input reads as it did. -/
def fnExactMantissaOfSpec : ChangeSpec := { name := "fnExactMantissaOf", fn := fun _ => fun
  | [d] => { results := [.lit (.bool true)], args := [d] }
  | _ => none }
def fnExactMantissaOfRow : OpenClaim := { program := "ythigoankiobcmaa", sum := "949f2c3e7f1b01873cbf3d2123356d44c819f8ad5de891a664e01b1a9128ebf6", func := "loop.example/g00951/laws.FnExactMantissaOf", spec := "fnExactMantissaOf", apart := false }
def FnExactMantissaOfSaid : Prop := fnExactMantissaOfRow.holds Try.pinned (OpenSpec.ofChange fnExactMantissaOfSpec)

/-- ITS FALSE NEIGHBOUR: 'it returns false'. Refute it at one input. -/
def fnExactMantissaOfWrong : ChangeSpec := { name := "fnExactMantissaOf", fn := fun _ => fun
  | [d] => { results := [.lit (.bool false)], args := [d] }
  | _ => none }
def FnExactMantissaOfWrongFalsely : Prop := fnExactMantissaOfRow.holds Try.pinned (OpenSpec.ofChange fnExactMantissaOfWrong)

/-- 'laws.FnExactLogWidth': WHATEVER THE INPUT: true; the input reads as it did. -/
def fnExactLogWidthSpec : ChangeSpec := { name := "fnExactLogWidth", fn := fun _ => fun
  | [d] => { results := [.lit (.bool true)], args := [d] }
  | _ => none }
def fnExactLogWidthRow : OpenClaim := { program := "ythigoankiobcmaa", sum := "949f2c3e7f1b01873cbf3d2123356d44c819f8ad5de891a664e01b1a9128ebf6", func := "loop.example/g00951/laws.FnExactLogWidth", spec := "fnExactLogWidth", apart := false }
def FnExactLogWidthSaid : Prop := fnExactLogWidthRow.holds Try.pinned (OpenSpec.ofChange fnExactLogWidthSpec)

/-- ITS FALSE NEIGHBOUR: 'it returns false'. Refute it at one input. -/
def fnExactLogWidthWrong : ChangeSpec := { name := "fnExactLogWidth", fn := fun _ => fun
  | [d] => { results := [.lit (.bool false)], args := [d] }
  | _ => none }
def FnExactLogWidthWrongFalsely : Prop := fnExactLogWidthRow.holds Try.pinned (OpenSpec.ofChange fnExactLogWidthWrong)

/- THE SECOND FORM. 'bulk': how many values and letters a reading holds, each counted each time it is reached (what is shared counts as often as it is met; a slice's spare places count too). A statement '..UptoSaid' is the law's where the arguments, and the package variables that the reading takes, are together of bulk at most 1048576: NARROWER than '..Said'. Prove '..Said' where nothing that the law and all that it calls make is longer than what came in: it says more and counts as full. Else prove '..UptoSaid'. A law counts once. -/
mutual
def uptoBulk {H : Type} : DataW H → Nat
  | .lit (.string bytes) => bytes.length + 1
  | .lit _ => 1
  | .nil => 1
  | .ptr d => uptoBulk d + 1
  | .slice elems spare => uptoBulkAll elems + uptoBulkAll spare + 1
  | .agg parts => uptoBulkAll parts + 1
  | .iface _ d => uptoBulk d + 1
  | .map entries => uptoBulkEntries entries + 1
  | .held _ => 1
def uptoBulkAll {H : Type} : List (DataW H) → Nat
  | [] => 0
  | d :: r => uptoBulk d + uptoBulkAll r
def uptoBulkEntries {H : Type} : List (Lit × DataW H) → Nat
  | [] => 0
  | x :: r => uptoBulkEntry x + uptoBulkEntries r
def uptoBulkEntry {H : Type} : Lit × DataW H → Nat
  | (.string bytes, d) => bytes.length + uptoBulk d + 1
  | (_, d) => uptoBulk d + 1
 end
def uptoSmall : (H : Type) → List (DataW H) → Bool := fun _ ds => decide (uptoBulkAll ds ≤ 1048576)
def OpenSpec.upto (s : _root_.Go.ChangeSpec) : _root_.Go.OpenSpec := { _root_.Go.OpenSpec.ofChange s with cond := some uptoSmall }

/-- 'laws.FnLogarithms', WHERE WHAT IT READS IS OF BULK AT MOST 1048576: true; the input reads as it did. -/
def fnLogarithmsUptoRow : OpenClaim := { program := "ythigoankiobcmaa", sum := "949f2c3e7f1b01873cbf3d2123356d44c819f8ad5de891a664e01b1a9128ebf6", func := "loop.example/g00951/laws.FnLogarithms", spec := "fnLogarithms", unfollowed := true, recurses := true, apart := false, narrowed := true }
def FnLogarithmsUptoSaid : Prop := fnLogarithmsUptoRow.holds Try.pinned (OpenSpec.upto fnLogarithmsSpec)

/-- 'laws.FnLogProducts', WHERE WHAT IT READS IS OF BULK AT MOST 1048576: true; the input reads as it did. -/
def fnLogProductsUptoRow : OpenClaim := { program := "ythigoankiobcmaa", sum := "949f2c3e7f1b01873cbf3d2123356d44c819f8ad5de891a664e01b1a9128ebf6", func := "loop.example/g00951/laws.FnLogProducts", spec := "fnLogProducts", unfollowed := true, recurses := true, apart := false, narrowed := true }
def FnLogProductsUptoSaid : Prop := fnLogProductsUptoRow.holds Try.pinned (OpenSpec.upto fnLogProductsSpec)

/-- 'laws.FnLogScales', WHERE WHAT IT READS IS OF BULK AT MOST 1048576: true; the input reads as it did. -/
def fnLogScalesUptoRow : OpenClaim := { program := "ythigoankiobcmaa", sum := "949f2c3e7f1b01873cbf3d2123356d44c819f8ad5de891a664e01b1a9128ebf6", func := "loop.example/g00951/laws.FnLogScales", spec := "fnLogScales", apart := false, narrowed := true }
def FnLogScalesUptoSaid : Prop := fnLogScalesUptoRow.holds Try.pinned (OpenSpec.upto fnLogScalesSpec)

/-- 'laws.FnExactIsInterval', WHERE WHAT IT READS IS OF BULK AT MOST 1048576: true; the input reads as it did. -/
def fnExactIsIntervalUptoRow : OpenClaim := { program := "ythigoankiobcmaa", sum := "949f2c3e7f1b01873cbf3d2123356d44c819f8ad5de891a664e01b1a9128ebf6", func := "loop.example/g00951/laws.FnExactIsInterval", spec := "fnExactIsInterval", apart := false, narrowed := true }
def FnExactIsIntervalUptoSaid : Prop := fnExactIsIntervalUptoRow.holds Try.pinned (OpenSpec.upto fnExactIsIntervalSpec)

/-- 'laws.FnExactLogarithmOf', WHERE WHAT IT READS IS OF BULK AT MOST 1048576: true; the input reads as it did. -/
def fnExactLogarithmOfUptoRow : OpenClaim := { program := "ythigoankiobcmaa", sum := "949f2c3e7f1b01873cbf3d2123356d44c819f8ad5de891a664e01b1a9128ebf6", func := "loop.example/g00951/laws.FnExactLogarithmOf", spec := "fnExactLogarithmOf", unfollowed := true, recurses := true, apart := false, narrowed := true }
def FnExactLogarithmOfUptoSaid : Prop := fnExactLogarithmOfUptoRow.holds Try.pinned (OpenSpec.upto fnExactLogarithmOfSpec)

/-- 'laws.FnExactFigureLog', WHERE WHAT IT READS IS OF BULK AT MOST 1048576: true; the input reads as it did. -/
def fnExactFigureLogUptoRow : OpenClaim := { program := "ythigoankiobcmaa", sum := "949f2c3e7f1b01873cbf3d2123356d44c819f8ad5de891a664e01b1a9128ebf6", func := "loop.example/g00951/laws.FnExactFigureLog", spec := "fnExactFigureLog", unfollowed := true, recurses := true, apart := false, narrowed := true }
def FnExactFigureLogUptoSaid : Prop := fnExactFigureLogUptoRow.holds Try.pinned (OpenSpec.upto fnExactFigureLogSpec)

/-- 'laws.FnExactAddLogs', WHERE WHAT IT READS IS OF BULK AT MOST 1048576: true; the input reads as it did. -/
def fnExactAddLogsUptoRow : OpenClaim := { program := "ythigoankiobcmaa", sum := "949f2c3e7f1b01873cbf3d2123356d44c819f8ad5de891a664e01b1a9128ebf6", func := "loop.example/g00951/laws.FnExactAddLogs", spec := "fnExactAddLogs", apart := false, narrowed := true }
def FnExactAddLogsUptoSaid : Prop := fnExactAddLogsUptoRow.holds Try.pinned (OpenSpec.upto fnExactAddLogsSpec)

/-- 'laws.FnExactSubtractLogs', WHERE WHAT IT READS IS OF BULK AT MOST 1048576: true; the input reads as it did. -/
def fnExactSubtractLogsUptoRow : OpenClaim := { program := "ythigoankiobcmaa", sum := "949f2c3e7f1b01873cbf3d2123356d44c819f8ad5de891a664e01b1a9128ebf6", func := "loop.example/g00951/laws.FnExactSubtractLogs", spec := "fnExactSubtractLogs", apart := false, narrowed := true }
def FnExactSubtractLogsUptoSaid : Prop := fnExactSubtractLogsUptoRow.holds Try.pinned (OpenSpec.upto fnExactSubtractLogsSpec)

/-- 'laws.FnExactScaleLog', WHERE WHAT IT READS IS OF BULK AT MOST 1048576: true; the input reads as it did. -/
def fnExactScaleLogUptoRow : OpenClaim := { program := "ythigoankiobcmaa", sum := "949f2c3e7f1b01873cbf3d2123356d44c819f8ad5de891a664e01b1a9128ebf6", func := "loop.example/g00951/laws.FnExactScaleLog", spec := "fnExactScaleLog", apart := false, narrowed := true }
def FnExactScaleLogUptoSaid : Prop := fnExactScaleLogUptoRow.holds Try.pinned (OpenSpec.upto fnExactScaleLogSpec)

/-- 'laws.FnExactMantissaOf', WHERE WHAT IT READS IS OF BULK AT MOST 1048576: true; the input reads as it did. -/
def fnExactMantissaOfUptoRow : OpenClaim := { program := "ythigoankiobcmaa", sum := "949f2c3e7f1b01873cbf3d2123356d44c819f8ad5de891a664e01b1a9128ebf6", func := "loop.example/g00951/laws.FnExactMantissaOf", spec := "fnExactMantissaOf", apart := false, narrowed := true }
def FnExactMantissaOfUptoSaid : Prop := fnExactMantissaOfUptoRow.holds Try.pinned (OpenSpec.upto fnExactMantissaOfSpec)

/-- 'laws.FnExactLogWidth', WHERE WHAT IT READS IS OF BULK AT MOST 1048576: true; the input reads as it did. -/
def fnExactLogWidthUptoRow : OpenClaim := { program := "ythigoankiobcmaa", sum := "949f2c3e7f1b01873cbf3d2123356d44c819f8ad5de891a664e01b1a9128ebf6", func := "loop.example/g00951/laws.FnExactLogWidth", spec := "fnExactLogWidth", apart := false, narrowed := true }
def FnExactLogWidthUptoSaid : Prop := fnExactLogWidthUptoRow.holds Try.pinned (OpenSpec.upto fnExactLogWidthSpec)

end Rows
end Go.Proofs.Ythigoankiobcmaa
