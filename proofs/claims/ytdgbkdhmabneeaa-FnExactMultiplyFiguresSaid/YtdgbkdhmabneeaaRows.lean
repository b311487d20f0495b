/-
  No cell of these rows narrows 'for every input' (looked for: loops, veiled, ifaces, maps, wideKeys, modest, calm, conditions, laid).
  DERIVED. THE GIVEN ROWS OF THIS SEAT. 9 by the template 'for every input the law returns true; each argument reads behind the call as it read before'; 0 by the template 'total and deterministic' (their statements: YtdgbkdhmabneeaaTotals.lean).
  GIVEN WITH THE SEED: the statements are not yours to turn. If you find one false, say at which input.
  Laid BY PROGRAM, IN A SANDBOX (cutbox-rows.mjs): the forced cells as the released guide's own fill.sh prints them over the translation e29f0fc13e1c8ccb… (all of the seat's roots in one cut). By AI agents, Wed Nov 11 2026. No macro, syntax, notation, axiom, sorry.
-/
import Derived.Test.YtdgbkdhmabneeaaChecked
import GoSem.Claim
import GoSem.ClaimJoined
import GoSem.ClaimMapViews
import Derived.JoinedTies
import Derived.KernelRfl
namespace Go.Proofs.Ytdgbkdhmabneeaa
/- THE CELL 'sum', in the pinned program and in every row, IS THE sha256 OF THE DUMP (.gsa) THAT YtdgbkdhmabneeaaProg.lean LOADS. Nothing in Lean hashes anything: it is a label: what it is worth is what the hold of that sum in a sandbox is worth. -/
noncomputable def Try.pinned : Pinned := { name := "ytdgbkdhmabneeaa", sum := "e29f0fc13e1c8ccb28195059cdb10dae7b5bda96827db76999461a71c8293f2d", checked := Try.checked }
namespace Rows
def none {H : Type} : Left H := { results := [], args := [] }

/-- 'laws.FnFigures': WHATEVER THE INPUT: true; the input reads as it did. -/
def fnFiguresSpec : ChangeSpec := { name := "fnFigures", fn := fun _ => fun
  | [d] => { results := [.lit (.bool true)], args := [d] }
  | _ => none }
def fnFiguresRow : OpenClaim := { program := "ytdgbkdhmabneeaa", sum := "e29f0fc13e1c8ccb28195059cdb10dae7b5bda96827db76999461a71c8293f2d", func := "loop.example/g00951/laws.FnFigures", spec := "fnFigures", apart := false }
def FnFiguresSaid : Prop := fnFiguresRow.holds Try.pinned (OpenSpec.ofChange fnFiguresSpec)

/-- ITS FALSE NEIGHBOUR: 'it returns false'. Refute it at one input. -/
def fnFiguresWrong : ChangeSpec := { name := "fnFigures", fn := fun _ => fun
  | [d] => { results := [.lit (.bool false)], args := [d] }
  | _ => none }
def FnFiguresWrongFalsely : Prop := fnFiguresRow.holds Try.pinned (OpenSpec.ofChange fnFiguresWrong)

/-- 'laws.FnQuotients': WHATEVER THE INPUT: true; the input reads as it did. -/
def fnQuotientsSpec : ChangeSpec := { name := "fnQuotients", fn := fun _ => fun
  | [d] => { results := [.lit (.bool true)], args := [d] }
  | _ => none }
def fnQuotientsRow : OpenClaim := { program := "ytdgbkdhmabneeaa", sum := "e29f0fc13e1c8ccb28195059cdb10dae7b5bda96827db76999461a71c8293f2d", func := "loop.example/g00951/laws.FnQuotients", spec := "fnQuotients", apart := false }
def FnQuotientsSaid : Prop := fnQuotientsRow.holds Try.pinned (OpenSpec.ofChange fnQuotientsSpec)

/-- ITS FALSE NEIGHBOUR: 'it returns false'. Refute it at one input. -/
def fnQuotientsWrong : ChangeSpec := { name := "fnQuotients", fn := fun _ => fun
  | [d] => { results := [.lit (.bool false)], args := [d] }
  | _ => none }
def FnQuotientsWrongFalsely : Prop := fnQuotientsRow.holds Try.pinned (OpenSpec.ofChange fnQuotientsWrong)

/-- 'laws.FnExactIsFigure': WHATEVER THE INPUT: true; the input reads as it did. -/
def fnExactIsFigureSpec : ChangeSpec := { name := "fnExactIsFigure", fn := fun _ => fun
  | [d] => { results := [.lit (.bool true)], args := [d] }
  | _ => none }
def fnExactIsFigureRow : OpenClaim := { program := "ytdgbkdhmabneeaa", sum := "e29f0fc13e1c8ccb28195059cdb10dae7b5bda96827db76999461a71c8293f2d", func := "loop.example/g00951/laws.FnExactIsFigure", spec := "fnExactIsFigure", apart := false }
def FnExactIsFigureSaid : Prop := fnExactIsFigureRow.holds Try.pinned (OpenSpec.ofChange fnExactIsFigureSpec)

/-- ITS FALSE NEIGHBOUR: 'it returns false'. Refute it at one input. -/
def fnExactIsFigureWrong : ChangeSpec := { name := "fnExactIsFigure", fn := fun _ => fun
  | [d] => { results := [.lit (.bool false)], args := [d] }
  | _ => none }
def FnExactIsFigureWrongFalsely : Prop := fnExactIsFigureRow.holds Try.pinned (OpenSpec.ofChange fnExactIsFigureWrong)

/-- 'laws.FnExactMakeFigure': WHATEVER THE INPUT: true; the input reads as it did. -/
def fnExactMakeFigureSpec : ChangeSpec := { name := "fnExactMakeFigure", fn := fun _ => fun
  | [d1, d2] => { results := [.lit (.bool true)], args := [d1, d2] }
  | _ => none }
def fnExactMakeFigureRow : OpenClaim := { program := "ytdgbkdhmabneeaa", sum := "e29f0fc13e1c8ccb28195059cdb10dae7b5bda96827db76999461a71c8293f2d", func := "loop.example/g00951/laws.FnExactMakeFigure", spec := "fnExactMakeFigure", apart := false }
def FnExactMakeFigureSaid : Prop := fnExactMakeFigureRow.holds Try.pinned (OpenSpec.ofChange fnExactMakeFigureSpec)

/-- ITS FALSE NEIGHBOUR: 'it returns false'. Refute it at one input. -/
def fnExactMakeFigureWrong : ChangeSpec := { name := "fnExactMakeFigure", fn := fun _ => fun
  | [d1, d2] => { results := [.lit (.bool false)], args := [d1, d2] }
  | _ => none }
def FnExactMakeFigureWrongFalsely : Prop := fnExactMakeFigureRow.holds Try.pinned (OpenSpec.ofChange fnExactMakeFigureWrong)

/-- 'laws.FnExactCompareFigures': WHATEVER THE INPUT: true; the input reads as it did. -/
def fnExactCompareFiguresSpec : ChangeSpec := { name := "fnExactCompareFigures", fn := fun _ => fun
  | [d1, d2] => { results := [.lit (.bool true)], args := [d1, d2] }
  | _ => none }
def fnExactCompareFiguresRow : OpenClaim := { program := "ytdgbkdhmabneeaa", sum := "e29f0fc13e1c8ccb28195059cdb10dae7b5bda96827db76999461a71c8293f2d", func := "loop.example/g00951/laws.FnExactCompareFigures", spec := "fnExactCompareFigures", apart := false }
def FnExactCompareFiguresSaid : Prop := fnExactCompareFiguresRow.holds Try.pinned (OpenSpec.ofChange fnExactCompareFiguresSpec)

/-- ITS FALSE NEIGHBOUR: 'it returns false'. Refute it at one input. -/
def fnExactCompareFiguresWrong : ChangeSpec := { name := "fnExactCompareFigures", fn := fun _ => fun
  | [d1, d2] => { results := [.lit (.bool false)], args := [d1, d2] }
  | _ => none }
def FnExactCompareFiguresWrongFalsely : Prop := fnExactCompareFiguresRow.holds Try.pinned (OpenSpec.ofChange fnExactCompareFiguresWrong)

/-- 'laws.FnExactMultiplyFigures': WHATEVER THE INPUT: true; the input reads as it did. -/
def fnExactMultiplyFiguresSpec : ChangeSpec := { name := "fnExactMultiplyFigures", fn := fun _ => fun
  | [d1, d2] => { results := [.lit (.bool true)], args := [d1, d2] }
  | _ => none }
def fnExactMultiplyFiguresRow : OpenClaim := { program := "ytdgbkdhmabneeaa", sum := "e29f0fc13e1c8ccb28195059cdb10dae7b5bda96827db76999461a71c8293f2d", func := "loop.example/g00951/laws.FnExactMultiplyFigures", spec := "fnExactMultiplyFigures", apart := false }
def FnExactMultiplyFiguresSaid : Prop := fnExactMultiplyFiguresRow.holds Try.pinned (OpenSpec.ofChange fnExactMultiplyFiguresSpec)

/-- ITS FALSE NEIGHBOUR: 'it returns false'. Refute it at one input. -/
def fnExactMultiplyFiguresWrong : ChangeSpec := { name := "fnExactMultiplyFigures", fn := fun _ => fun
  | [d1, d2] => { results := [.lit (.bool false)], args := [d1, d2] }
  | _ => none }
def FnExactMultiplyFiguresWrongFalsely : Prop := fnExactMultiplyFiguresRow.holds Try.pinned (OpenSpec.ofChange fnExactMultiplyFiguresWrong)

/-- 'laws.FnExactDivideFigures': WHATEVER THE INPUT: true; the input reads as it did. -/
def fnExactDivideFiguresSpec : ChangeSpec := { name := "fnExactDivideFigures", fn := fun _ => fun
  | [d1, d2] => { results := [.lit (.bool true)], args := [d1, d2] }
  | _ => none }
def fnExactDivideFiguresRow : OpenClaim := { program := "ytdgbkdhmabneeaa", sum := "e29f0fc13e1c8ccb28195059cdb10dae7b5bda96827db76999461a71c8293f2d", func := "loop.example/g00951/laws.FnExactDivideFigures", spec := "fnExactDivideFigures", apart := false }
def FnExactDivideFiguresSaid : Prop := fnExactDivideFiguresRow.holds Try.pinned (OpenSpec.ofChange fnExactDivideFiguresSpec)

/-- ITS FALSE NEIGHBOUR: 'it returns false'. Refute it at one input. -/
def fnExactDivideFiguresWrong : ChangeSpec := { name := "fnExactDivideFigures", fn := fun _ => fun
  | [d1, d2] => { results := [.lit (.bool false)], args := [d1, d2] }
  | _ => none }
def FnExactDivideFiguresWrongFalsely : Prop := fnExactDivideFiguresRow.holds Try.pinned (OpenSpec.ofChange fnExactDivideFiguresWrong)

/-- 'laws.FnExactRoundFigure': WHATEVER THE INPUT: true; the input reads as it did. -/
def fnExactRoundFigureSpec : ChangeSpec := { name := "fnExactRoundFigure", fn := fun _ => fun
  | [d1, d2] => { results := [.lit (.bool true)], args := [d1, d2] }
  | _ => none }
def fnExactRoundFigureRow : OpenClaim := { program := "ytdgbkdhmabneeaa", sum := "e29f0fc13e1c8ccb28195059cdb10dae7b5bda96827db76999461a71c8293f2d", func := "loop.example/g00951/laws.FnExactRoundFigure", spec := "fnExactRoundFigure", apart := false }
def FnExactRoundFigureSaid : Prop := fnExactRoundFigureRow.holds Try.pinned (OpenSpec.ofChange fnExactRoundFigureSpec)

/-- ITS FALSE NEIGHBOUR: 'it returns false'. Refute it at one input. -/
def fnExactRoundFigureWrong : ChangeSpec := { name := "fnExactRoundFigure", fn := fun _ => fun
  | [d1, d2] => { results := [.lit (.bool false)], args := [d1, d2] }
  | _ => none }
def FnExactRoundFigureWrongFalsely : Prop := fnExactRoundFigureRow.holds Try.pinned (OpenSpec.ofChange fnExactRoundFigureWrong)

/-- 'laws.FnExactRelativeError': WHATEVER THE INPUT: true; the input reads as it did. -/
def fnExactRelativeErrorSpec : ChangeSpec := { name := "fnExactRelativeError", fn := fun _ => fun
  | [d1, d2] => { results := [.lit (.bool true)], args := [d1, d2] }
  | _ => none }
def fnExactRelativeErrorRow : OpenClaim := { program := "ytdgbkdhmabneeaa", sum := "e29f0fc13e1c8ccb28195059cdb10dae7b5bda96827db76999461a71c8293f2d", func := "loop.example/g00951/laws.FnExactRelativeError", spec := "fnExactRelativeError", apart := false }
def FnExactRelativeErrorSaid : Prop := fnExactRelativeErrorRow.holds Try.pinned (OpenSpec.ofChange fnExactRelativeErrorSpec)

/-- ITS FALSE NEIGHBOUR: 'it returns false'. Refute it at one input. -/
def fnExactRelativeErrorWrong : ChangeSpec := { name := "fnExactRelativeError", fn := fun _ => fun
  | [d1, d2] => { results := [.lit (.bool false)], args := [d1, d2] }
  | _ => none }
def FnExactRelativeErrorWrongFalsely : Prop := fnExactRelativeErrorRow.holds Try.pinned (OpenSpec.ofChange fnExactRelativeErrorWrong)

/- THE SECOND FORM. 'bulk': how many values and letters a reading holds, each counted each time it is reached (what is shared counts as often as it is met; a slice's spare places count too). A statement '..UptoSaid' is the law's where the arguments, and the package variables that the reading takes, are together of bulk at most 1048576: NARROWER than '..Said'. Prove '..Said' where nothing that the law and all that it calls make is longer than what came in: it says more and counts as full. Else prove '..UptoSaid'. A law counts once. -/
mutual
def uptoBulk {H : Type} : DataW H → Nat
  | .lit (.string bytes) => bytes.length + 1
  | .lit _ => 1
  | .nil => 1
  | .ptr d => uptoBulk d + 1
  | .slice elems spare => uptoBulkAll elems + uptoBulkAll spare + 1
  | .agg parts => uptoBulkAll parts + 1
  | .iface _ d => uptoBulk d + 1
  | .map entries => uptoBulkEntries entries + 1
  | .held _ => 1
def uptoBulkAll {H : Type} : List (DataW H) → Nat
  | [] => 0
  | d :: r => uptoBulk d + uptoBulkAll r
def uptoBulkEntries {H : Type} : List (Lit × DataW H) → Nat
  | [] => 0
  | x :: r => uptoBulkEntry x + uptoBulkEntries r
def uptoBulkEntry {H : Type} : Lit × DataW H → Nat
  | (.string bytes, d) => bytes.length + uptoBulk d + 1
  | (_, d) => uptoBulk d + 1
 end
def uptoSmall : (H : Type) → List (DataW H) → Bool := fun _ ds => decide (uptoBulkAll ds ≤ 1048576)
def OpenSpec.upto (s : _root_.Go.ChangeSpec) : _root_.Go.OpenSpec := { _root_.Go.OpenSpec.ofChange s with cond := some uptoSmall }

/-- 'laws.FnFigures', WHERE WHAT IT READS IS OF BULK AT MOST 1048576: true; the input reads as it did. -/
def fnFiguresUptoRow : OpenClaim := { program := "ytdgbkdhmabneeaa", sum := "e29f0fc13e1c8ccb28195059cdb10dae7b5bda96827db76999461a71c8293f2d", func := "loop.example/g00951/laws.FnFigures", spec := "fnFigures", apart := false, narrowed := true }
def FnFiguresUptoSaid : Prop := fnFiguresUptoRow.holds Try.pinned (OpenSpec.upto fnFiguresSpec)

/-- 'laws.FnQuotients', WHERE WHAT IT READS IS OF BULK AT MOST 1048576: true; the input reads as it did. -/
def fnQuotientsUptoRow : OpenClaim := { program := "ytdgbkdhmabneeaa", sum := "e29f0fc13e1c8ccb28195059cdb10dae7b5bda96827db76999461a71c8293f2d", func := "loop.example/g00951/laws.FnQuotients", spec := "fnQuotients", apart := false, narrowed := true }
def FnQuotientsUptoSaid : Prop := fnQuotientsUptoRow.holds Try.pinned (OpenSpec.upto fnQuotientsSpec)

/-- 'laws.FnExactIsFigure', WHERE WHAT IT READS IS OF BULK AT MOST 1048576: true; the input reads as it did. -/
def fnExactIsFigureUptoRow : OpenClaim := { program := "ytdgbkdhmabneeaa", sum := "e29f0fc13e1c8ccb28195059cdb10dae7b5bda96827db76999461a71c8293f2d", func := "loop.example/g00951/laws.FnExactIsFigure", spec := "fnExactIsFigure", apart := false, narrowed := true }
def FnExactIsFigureUptoSaid : Prop := fnExactIsFigureUptoRow.holds Try.pinned (OpenSpec.upto fnExactIsFigureSpec)

/-- 'laws.FnExactMakeFigure', WHERE WHAT IT READS IS OF BULK AT MOST 1048576: true; the input reads as it did. -/
def fnExactMakeFigureUptoRow : OpenClaim := { program := "ytdgbkdhmabneeaa", sum := "e29f0fc13e1c8ccb28195059cdb10dae7b5bda96827db76999461a71c8293f2d", func := "loop.example/g00951/laws.FnExactMakeFigure", spec := "fnExactMakeFigure", apart := false, narrowed := true }
def FnExactMakeFigureUptoSaid : Prop := fnExactMakeFigureUptoRow.holds Try.pinned (OpenSpec.upto fnExactMakeFigureSpec)

/-- 'laws.FnExactCompareFigures', WHERE WHAT IT READS IS OF BULK AT MOST 1048576: true; the input reads as it did. -/
def fnExactCompareFiguresUptoRow : OpenClaim := { program := "ytdgbkdhmabneeaa", sum := "e29f0fc13e1c8ccb28195059cdb10dae7b5bda96827db76999461a71c8293f2d", func := "loop.example/g00951/laws.FnExactCompareFigures", spec := "fnExactCompareFigures", apart := false, narrowed := true }
def FnExactCompareFiguresUptoSaid : Prop := fnExactCompareFiguresUptoRow.holds Try.pinned (OpenSpec.upto fnExactCompareFiguresSpec)

/-- 'laws.FnExactMultiplyFigures', WHERE WHAT IT READS IS OF BULK AT MOST 1048576: true; the input reads as it did. -/
def fnExactMultiplyFiguresUptoRow : OpenClaim := { program := "ytdgbkdhmabneeaa", sum := "e29f0fc13e1c8ccb28195059cdb10dae7b5bda96827db76999461a71c8293f2d", func := "loop.example/g00951/laws.FnExactMultiplyFigures", spec := "fnExactMultiplyFigures", apart := false, narrowed := true }
def FnExactMultiplyFiguresUptoSaid : Prop := fnExactMultiplyFiguresUptoRow.holds Try.pinned (OpenSpec.upto fnExactMultiplyFiguresSpec)

/-- 'laws.FnExactDivideFigures', WHERE WHAT IT READS IS OF BULK AT MOST 1048576: true; the input reads as it did. -/
def fnExactDivideFiguresUptoRow : OpenClaim := { program := "ytdgbkdhmabneeaa", sum := "e29f0fc13e1c8ccb28195059cdb10dae7b5bda96827db76999461a71c8293f2d", func := "loop.example/g00951/laws.FnExactDivideFigures", spec := "fnExactDivideFigures", apart := false, narrowed := true }
def FnExactDivideFiguresUptoSaid : Prop := fnExactDivideFiguresUptoRow.holds Try.pinned (OpenSpec.upto fnExactDivideFiguresSpec)

/-- 'laws.FnExactRoundFigure', WHERE WHAT IT READS IS OF BULK AT MOST 1048576: true; the input reads as it did. -/
def fnExactRoundFigureUptoRow : OpenClaim := { program := "ytdgbkdhmabneeaa", sum := "e29f0fc13e1c8ccb28195059cdb10dae7b5bda96827db76999461a71c8293f2d", func := "loop.example/g00951/laws.FnExactRoundFigure", spec := "fnExactRoundFigure", apart := false, narrowed := true }
def FnExactRoundFigureUptoSaid : Prop := fnExactRoundFigureUptoRow.holds Try.pinned (OpenSpec.upto fnExactRoundFigureSpec)

/-- 'laws.FnExactRelativeError', WHERE WHAT IT READS IS OF BULK AT MOST 1048576: true; the input reads as it did. -/
def fnExactRelativeErrorUptoRow : OpenClaim := { program := "ytdgbkdhmabneeaa", sum := "e29f0fc13e1c8ccb28195059cdb10dae7b5bda96827db76999461a71c8293f2d", func := "loop.example/g00951/laws.FnExactRelativeError", spec := "fnExactRelativeError", apart := false, narrowed := true }
def FnExactRelativeErrorUptoSaid : Prop := fnExactRelativeErrorUptoRow.holds Try.pinned (OpenSpec.upto fnExactRelativeErrorSpec)

end Rows
end Go.Proofs.Ytdgbkdhmabneeaa
