/-
  No cell of these rows narrows 'for every input' (looked for: loops, veiled, ifaces, maps, wideKeys, modest, calm, conditions, laid).
  DERIVED. THE GIVEN ROWS OF THIS SEAT. 4 by the template 'for every input the law returns true; each argument reads behind the call as it read before'; 0 by the template 'total and deterministic' (their statements: YtdbeedfapkfibaaTotals.lean).
  GIVEN WITH THE SEED: the statements are not yours to turn. If you find one false, say at which input.
  Laid BY PROGRAM, IN A SANDBOX (cutbox-rows.mjs): the forced cells as the released guide's own fill.sh prints them over the translation 7c232cfcbb00eebc… (all of the seat's roots in one cut). By AI agents, Wed Nov 11 2026. No macro, syntax, notation, axiom, sorry.
-/
import Derived.Test.YtdbeedfapkfibaaChecked
import GoSem.Claim
import GoSem.ClaimJoined
import GoSem.ClaimMapViews
import Derived.JoinedTies
import Derived.KernelRfl
namespace Go.Proofs.Ytdbeedfapkfibaa
/- THE CELL 'sum', in the pinned program and in every row, IS THE sha256 OF THE DUMP (.gsa) THAT YtdbeedfapkfibaaProg.lean LOADS. Nothing in Lean hashes anything: it is a label: what it is worth is what the hold of that sum in a sandbox is worth. -/
noncomputable def Try.pinned : Pinned := { name := "ytdbeedfapkfibaa", sum := "7c232cfcbb00eebc5b3689242838198ad7658f5305d2f3b8734c30312eeeb105", checked := Try.checked }
namespace Rows
def none {H : Type} : Left H := { results := [], args := [] }

/-- 'laws.FnExactAreErrors': WHATEVER THE INPUT: true; the input reads as it did. -/
def fnExactAreErrorsSpec : ChangeSpec := { name := "fnExactAreErrors", fn := fun _ => fun
  | [d] => { results := [.lit (.bool true)], args := [d] }
  | _ => none }
def fnExactAreErrorsRow : OpenClaim := { program := "ytdbeedfapkfibaa", sum := "7c232cfcbb00eebc5b3689242838198ad7658f5305d2f3b8734c30312eeeb105", func := "loop.example/g00951/laws.FnExactAreErrors", spec := "fnExactAreErrors", apart := false }
def FnExactAreErrorsSaid : Prop := fnExactAreErrorsRow.holds Try.pinned (OpenSpec.ofChange fnExactAreErrorsSpec)

/-- ITS FALSE NEIGHBOUR: 'it returns false'. Refute it at one input. -/
def fnExactAreErrorsWrong : ChangeSpec := { name := "fnExactAreErrors", fn := fun _ => fun
  | [d] => { results := [.lit (.bool false)], args := [d] }
  | _ => none }
def FnExactAreErrorsWrongFalsely : Prop := fnExactAreErrorsRow.holds Try.pinned (OpenSpec.ofChange fnExactAreErrorsWrong)

/-- 'laws.FnExactTotalError': WHATEVER THE INPUT: true; the input reads as it did. -/
def fnExactTotalErrorSpec : ChangeSpec := { name := "fnExactTotalError", fn := fun _ => fun
  | [d] => { results := [.lit (.bool true)], args := [d] }
  | _ => none }
def fnExactTotalErrorRow : OpenClaim := { program := "ytdbeedfapkfibaa", sum := "7c232cfcbb00eebc5b3689242838198ad7658f5305d2f3b8734c30312eeeb105", func := "loop.example/g00951/laws.FnExactTotalError", spec := "fnExactTotalError", apart := false }
def FnExactTotalErrorSaid : Prop := fnExactTotalErrorRow.holds Try.pinned (OpenSpec.ofChange fnExactTotalErrorSpec)

/-- ITS FALSE NEIGHBOUR: 'it returns false'. Refute it at one input. -/
def fnExactTotalErrorWrong : ChangeSpec := { name := "fnExactTotalError", fn := fun _ => fun
  | [d] => { results := [.lit (.bool false)], args := [d] }
  | _ => none }
def FnExactTotalErrorWrongFalsely : Prop := fnExactTotalErrorRow.holds Try.pinned (OpenSpec.ofChange fnExactTotalErrorWrong)

/-- 'laws.FnExactSpreadFigure': WHATEVER THE INPUT: true; the input reads as it did. -/
def fnExactSpreadFigureSpec : ChangeSpec := { name := "fnExactSpreadFigure", fn := fun _ => fun
  | [d1, d2] => { results := [.lit (.bool true)], args := [d1, d2] }
  | _ => none }
def fnExactSpreadFigureRow : OpenClaim := { program := "ytdbeedfapkfibaa", sum := "7c232cfcbb00eebc5b3689242838198ad7658f5305d2f3b8734c30312eeeb105", func := "loop.example/g00951/laws.FnExactSpreadFigure", spec := "fnExactSpreadFigure", unfollowed := true, recurses := true, apart := false }
def FnExactSpreadFigureSaid : Prop := fnExactSpreadFigureRow.holds Try.pinned (OpenSpec.ofChange fnExactSpreadFigureSpec)

/-- ITS FALSE NEIGHBOUR: 'it returns false'. Refute it at one input. -/
def fnExactSpreadFigureWrong : ChangeSpec := { name := "fnExactSpreadFigure", fn := fun _ => fun
  | [d1, d2] => { results := [.lit (.bool false)], args := [d1, d2] }
  | _ => none }
def FnExactSpreadFigureWrongFalsely : Prop := fnExactSpreadFigureRow.holds Try.pinned (OpenSpec.ofChange fnExactSpreadFigureWrong)

/-- 'laws.FnExactScaleErrors': WHATEVER THE INPUT: true; the input reads as it did. -/
def fnExactScaleErrorsSpec : ChangeSpec := { name := "fnExactScaleErrors", fn := fun _ => fun
  | [d1, d2, d3] => { results := [.lit (.bool true)], args := [d1, d2, d3] }
  | _ => none }
def fnExactScaleErrorsRow : OpenClaim := { program := "ytdbeedfapkfibaa", sum := "7c232cfcbb00eebc5b3689242838198ad7658f5305d2f3b8734c30312eeeb105", func := "loop.example/g00951/laws.FnExactScaleErrors", spec := "fnExactScaleErrors", apart := false }
def FnExactScaleErrorsSaid : Prop := fnExactScaleErrorsRow.holds Try.pinned (OpenSpec.ofChange fnExactScaleErrorsSpec)

/-- ITS FALSE NEIGHBOUR: 'it returns false'. Refute it at one input. -/
def fnExactScaleErrorsWrong : ChangeSpec := { name := "fnExactScaleErrors", fn := fun _ => fun
  | [d1, d2, d3] => { results := [.lit (.bool false)], args := [d1, d2, d3] }
  | _ => none }
def FnExactScaleErrorsWrongFalsely : Prop := fnExactScaleErrorsRow.holds Try.pinned (OpenSpec.ofChange fnExactScaleErrorsWrong)

/- THE SECOND FORM. 'bulk': how many values and letters a reading holds, each counted each time it is reached (what is shared counts as often as it is met; a slice's spare places count too). A statement '..UptoSaid' is the law's where the arguments, and the package variables that the reading takes, are together of bulk at most 1048576: NARROWER than '..Said'. Prove '..Said' where nothing that the law and all that it calls make is longer than what came in: it says more and counts as full. Else prove '..UptoSaid'. A law counts once. -/
mutual
def uptoBulk {H : Type} : DataW H → Nat
  | .lit (.string bytes) => bytes.length + 1
  | .lit _ => 1
  | .nil => 1
  | .ptr d => uptoBulk d + 1
  | .slice elems spare => uptoBulkAll elems + uptoBulkAll spare + 1
  | .agg parts => uptoBulkAll parts + 1
  | .iface _ d => uptoBulk d + 1
  | .map entries => uptoBulkEntries entries + 1
  | .held _ => 1
def uptoBulkAll {H : Type} : List (DataW H) → Nat
  | [] => 0
  | d :: r => uptoBulk d + uptoBulkAll r
def uptoBulkEntries {H : Type} : List (Lit × DataW H) → Nat
  | [] => 0
  | x :: r => uptoBulkEntry x + uptoBulkEntries r
def uptoBulkEntry {H : Type} : Lit × DataW H → Nat
  | (.string bytes, d) => bytes.length + uptoBulk d + 1
  | (_, d) => uptoBulk d + 1
 end
def uptoSmall : (H : Type) → List (DataW H) → Bool := fun _ ds => decide (uptoBulkAll ds ≤ 1048576)
def OpenSpec.upto (s : _root_.Go.ChangeSpec) : _root_.Go.OpenSpec := { _root_.Go.OpenSpec.ofChange s with cond := some uptoSmall }

/-- 'laws.FnExactAreErrors', WHERE WHAT IT READS IS OF BULK AT MOST 1048576: true; the input reads as it did. -/
def fnExactAreErrorsUptoRow : OpenClaim := { program := "ytdbeedfapkfibaa", sum := "7c232cfcbb00eebc5b3689242838198ad7658f5305d2f3b8734c30312eeeb105", func := "loop.example/g00951/laws.FnExactAreErrors", spec := "fnExactAreErrors", apart := false, narrowed := true }
def FnExactAreErrorsUptoSaid : Prop := fnExactAreErrorsUptoRow.holds Try.pinned (OpenSpec.upto fnExactAreErrorsSpec)

/-- 'laws.FnExactTotalError', WHERE WHAT IT READS IS OF BULK AT MOST 1048576: true; the input reads as it did. -/
def fnExactTotalErrorUptoRow : OpenClaim := { program := "ytdbeedfapkfibaa", sum := "7c232cfcbb00eebc5b3689242838198ad7658f5305d2f3b8734c30312eeeb105", func := "loop.example/g00951/laws.FnExactTotalError", spec := "fnExactTotalError", apart := false, narrowed := true }
def FnExactTotalErrorUptoSaid : Prop := fnExactTotalErrorUptoRow.holds Try.pinned (OpenSpec.upto fnExactTotalErrorSpec)

/-- 'laws.FnExactSpreadFigure', WHERE WHAT IT READS IS OF BULK AT MOST 1048576: true; the input reads as it did. -/
def fnExactSpreadFigureUptoRow : OpenClaim := { program := "ytdbeedfapkfibaa", sum := "7c232cfcbb00eebc5b3689242838198ad7658f5305d2f3b8734c30312eeeb105", func := "loop.example/g00951/laws.FnExactSpreadFigure", spec := "fnExactSpreadFigure", unfollowed := true, recurses := true, apart := false, narrowed := true }
def FnExactSpreadFigureUptoSaid : Prop := fnExactSpreadFigureUptoRow.holds Try.pinned (OpenSpec.upto fnExactSpreadFigureSpec)

/-- 'laws.FnExactScaleErrors', WHERE WHAT IT READS IS OF BULK AT MOST 1048576: true; the input reads as it did. -/
def fnExactScaleErrorsUptoRow : OpenClaim := { program := "ytdbeedfapkfibaa", sum := "7c232cfcbb00eebc5b3689242838198ad7658f5305d2f3b8734c30312eeeb105", func := "loop.example/g00951/laws.FnExactScaleErrors", spec := "fnExactScaleErrors", apart := false, narrowed := true }
def FnExactScaleErrorsUptoSaid : Prop := fnExactScaleErrorsUptoRow.holds Try.pinned (OpenSpec.upto fnExactScaleErrorsSpec)

end Rows
end Go.Proofs.Ytdbeedfapkfibaa
