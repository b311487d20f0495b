/-
  No cell of these rows narrows 'for every input' (looked for: loops, veiled, ifaces, maps, wideKeys, modest, calm, conditions, laid).
  DERIVED. THE GIVEN ROWS OF THIS SEAT. 9 by the template 'for every input the law returns true; each argument reads behind the call as it read before'; 0 by the template 'total and deterministic' (their statements: YtphebmbapllinaaTotals.lean).
  GIVEN WITH THE SEED: the statements are not yours to turn. If you find one false, say at which input.
  Laid BY PROGRAM, IN A SANDBOX (cutbox-rows.mjs): the forced cells as the released guide's own fill.sh prints them over the translation ca02f30976341c6e… (all of the seat's roots in one cut). By AI agents, Wed Nov 11 2026. No macro, syntax, notation, axiom, sorry.
-/
import Derived.Test.YtphebmbapllinaaChecked
import GoSem.Claim
import GoSem.ClaimJoined
import GoSem.ClaimMapViews
import Derived.JoinedTies
import Derived.KernelRfl
namespace Go.Proofs.Ytphebmbapllinaa
/- THE CELL 'sum', in the pinned program and in every row, IS THE sha256 OF THE DUMP (.gsa) THAT YtphebmbapllinaaProg.lean LOADS. Nothing in Lean hashes anything: it is a label: what it is worth is what the hold of that sum in a sandbox is worth. -/
noncomputable def Try.pinned : Pinned := { name := "ytphebmbapllinaa", sum := "ca02f30976341c6e9cd71a9fd3ade9d1bd137f7121cbf80d7fd81a9c0fc7f8eb", checked := Try.checked }
namespace Rows
def none {H : Type} : Left H := { results := [], args := [] }

/-- 'laws.FnChains': WHATEVER THE INPUT: true; the input reads as it did. -/
def fnChainsSpec : ChangeSpec := { name := "fnChains", fn := fun _ => fun
  | [d] => { results := [.lit (.bool true)], args := [d] }
  | _ => none }
def fnChainsRow : OpenClaim := { program := "ytphebmbapllinaa", sum := "ca02f30976341c6e9cd71a9fd3ade9d1bd137f7121cbf80d7fd81a9c0fc7f8eb", func := "loop.example/g00951/laws.FnChains", spec := "fnChains", unfollowed := true, recurses := true, apart := false }
def FnChainsSaid : Prop := fnChainsRow.holds Try.pinned (OpenSpec.ofChange fnChainsSpec)

/-- ITS FALSE NEIGHBOUR: 'it returns false'. Refute it at one input. -/
def fnChainsWrong : ChangeSpec := { name := "fnChains", fn := fun _ => fun
  | [d] => { results := [.lit (.bool false)], args := [d] }
  | _ => none }
def FnChainsWrongFalsely : Prop := fnChainsRow.holds Try.pinned (OpenSpec.ofChange fnChainsWrong)

/-- 'laws.FnChainValues': WHATEVER THE INPUT: true; the input reads as it did. -/
def fnChainValuesSpec : ChangeSpec := { name := "fnChainValues", fn := fun _ => fun
  | [d] => { results := [.lit (.bool true)], args := [d] }
  | _ => none }
def fnChainValuesRow : OpenClaim := { program := "ytphebmbapllinaa", sum := "ca02f30976341c6e9cd71a9fd3ade9d1bd137f7121cbf80d7fd81a9c0fc7f8eb", func := "loop.example/g00951/laws.FnChainValues", spec := "fnChainValues", unfollowed := true, recurses := true, apart := false }
def FnChainValuesSaid : Prop := fnChainValuesRow.holds Try.pinned (OpenSpec.ofChange fnChainValuesSpec)

/-- ITS FALSE NEIGHBOUR: 'it returns false'. Refute it at one input. -/
def fnChainValuesWrong : ChangeSpec := { name := "fnChainValues", fn := fun _ => fun
  | [d] => { results := [.lit (.bool false)], args := [d] }
  | _ => none }
def FnChainValuesWrongFalsely : Prop := fnChainValuesRow.holds Try.pinned (OpenSpec.ofChange fnChainValuesWrong)

/-- 'laws.FnExactIsChain': WHATEVER THE INPUT: true; the input reads as it did. -/
def fnExactIsChainSpec : ChangeSpec := { name := "fnExactIsChain", fn := fun _ => fun
  | [d] => { results := [.lit (.bool true)], args := [d] }
  | _ => none }
def fnExactIsChainRow : OpenClaim := { program := "ytphebmbapllinaa", sum := "ca02f30976341c6e9cd71a9fd3ade9d1bd137f7121cbf80d7fd81a9c0fc7f8eb", func := "loop.example/g00951/laws.FnExactIsChain", spec := "fnExactIsChain", apart := false }
def FnExactIsChainSaid : Prop := fnExactIsChainRow.holds Try.pinned (OpenSpec.ofChange fnExactIsChainSpec)

/-- ITS FALSE NEIGHBOUR: 'it returns false'. Refute it at one input. -/
def fnExactIsChainWrong : ChangeSpec := { name := "fnExactIsChain", fn := fun _ => fun
  | [d] => { results := [.lit (.bool false)], args := [d] }
  | _ => none }
def FnExactIsChainWrongFalsely : Prop := fnExactIsChainRow.holds Try.pinned (OpenSpec.ofChange fnExactIsChainWrong)

/-- 'laws.FnExactChainLog': WHATEVER THE INPUT: true; the input reads as it did. -/
def fnExactChainLogSpec : ChangeSpec := { name := "fnExactChainLog", fn := fun _ => fun
  | [d] => { results := [.lit (.bool true)], args := [d] }
  | _ => none }
def fnExactChainLogRow : OpenClaim := { program := "ytphebmbapllinaa", sum := "ca02f30976341c6e9cd71a9fd3ade9d1bd137f7121cbf80d7fd81a9c0fc7f8eb", func := "loop.example/g00951/laws.FnExactChainLog", spec := "fnExactChainLog", unfollowed := true, recurses := true, apart := false }
def FnExactChainLogSaid : Prop := fnExactChainLogRow.holds Try.pinned (OpenSpec.ofChange fnExactChainLogSpec)

/-- ITS FALSE NEIGHBOUR: 'it returns false'. Refute it at one input. -/
def fnExactChainLogWrong : ChangeSpec := { name := "fnExactChainLog", fn := fun _ => fun
  | [d] => { results := [.lit (.bool false)], args := [d] }
  | _ => none }
def FnExactChainLogWrongFalsely : Prop := fnExactChainLogRow.holds Try.pinned (OpenSpec.ofChange fnExactChainLogWrong)

/-- 'laws.FnExactChainSpan': WHATEVER THE INPUT: true; the input reads as it did. -/
def fnExactChainSpanSpec : ChangeSpec := { name := "fnExactChainSpan", fn := fun _ => fun
  | [d] => { results := [.lit (.bool true)], args := [d] }
  | _ => none }
def fnExactChainSpanRow : OpenClaim := { program := "ytphebmbapllinaa", sum := "ca02f30976341c6e9cd71a9fd3ade9d1bd137f7121cbf80d7fd81a9c0fc7f8eb", func := "loop.example/g00951/laws.FnExactChainSpan", spec := "fnExactChainSpan", unfollowed := true, recurses := true, apart := false }
def FnExactChainSpanSaid : Prop := fnExactChainSpanRow.holds Try.pinned (OpenSpec.ofChange fnExactChainSpanSpec)

/-- ITS FALSE NEIGHBOUR: 'it returns false'. Refute it at one input. -/
def fnExactChainSpanWrong : ChangeSpec := { name := "fnExactChainSpan", fn := fun _ => fun
  | [d] => { results := [.lit (.bool false)], args := [d] }
  | _ => none }
def FnExactChainSpanWrongFalsely : Prop := fnExactChainSpanRow.holds Try.pinned (OpenSpec.ofChange fnExactChainSpanWrong)

/-- 'laws.FnExactChainFigure': WHATEVER THE INPUT: true; the input reads as it did. -/
def fnExactChainFigureSpec : ChangeSpec := { name := "fnExactChainFigure", fn := fun _ => fun
  | [d] => { results := [.lit (.bool true)], args := [d] }
  | _ => none }
def fnExactChainFigureRow : OpenClaim := { program := "ytphebmbapllinaa", sum := "ca02f30976341c6e9cd71a9fd3ade9d1bd137f7121cbf80d7fd81a9c0fc7f8eb", func := "loop.example/g00951/laws.FnExactChainFigure", spec := "fnExactChainFigure", apart := false }
def FnExactChainFigureSaid : Prop := fnExactChainFigureRow.holds Try.pinned (OpenSpec.ofChange fnExactChainFigureSpec)

/-- ITS FALSE NEIGHBOUR: 'it returns false'. Refute it at one input. -/
def fnExactChainFigureWrong : ChangeSpec := { name := "fnExactChainFigure", fn := fun _ => fun
  | [d] => { results := [.lit (.bool false)], args := [d] }
  | _ => none }
def FnExactChainFigureWrongFalsely : Prop := fnExactChainFigureRow.holds Try.pinned (OpenSpec.ofChange fnExactChainFigureWrong)

/-- 'laws.FnExactSwapTerms': WHATEVER THE INPUT: true; the input reads as it did. -/
def fnExactSwapTermsSpec : ChangeSpec := { name := "fnExactSwapTerms", fn := fun _ => fun
  | [d1, d2, d3] => { results := [.lit (.bool true)], args := [d1, d2, d3] }
  | _ => none }
def fnExactSwapTermsRow : OpenClaim := { program := "ytphebmbapllinaa", sum := "ca02f30976341c6e9cd71a9fd3ade9d1bd137f7121cbf80d7fd81a9c0fc7f8eb", func := "loop.example/g00951/laws.FnExactSwapTerms", spec := "fnExactSwapTerms", apart := false }
def FnExactSwapTermsSaid : Prop := fnExactSwapTermsRow.holds Try.pinned (OpenSpec.ofChange fnExactSwapTermsSpec)

/-- ITS FALSE NEIGHBOUR: 'it returns false'. Refute it at one input. -/
def fnExactSwapTermsWrong : ChangeSpec := { name := "fnExactSwapTerms", fn := fun _ => fun
  | [d1, d2, d3] => { results := [.lit (.bool false)], args := [d1, d2, d3] }
  | _ => none }
def FnExactSwapTermsWrongFalsely : Prop := fnExactSwapTermsRow.holds Try.pinned (OpenSpec.ofChange fnExactSwapTermsWrong)

/-- 'laws.FnExactSortTerms': WHATEVER THE INPUT: true; the input reads as it did. -/
def fnExactSortTermsSpec : ChangeSpec := { name := "fnExactSortTerms", fn := fun _ => fun
  | [d] => { results := [.lit (.bool true)], args := [d] }
  | _ => none }
def fnExactSortTermsRow : OpenClaim := { program := "ytphebmbapllinaa", sum := "ca02f30976341c6e9cd71a9fd3ade9d1bd137f7121cbf80d7fd81a9c0fc7f8eb", func := "loop.example/g00951/laws.FnExactSortTerms", spec := "fnExactSortTerms", apart := false }
def FnExactSortTermsSaid : Prop := fnExactSortTermsRow.holds Try.pinned (OpenSpec.ofChange fnExactSortTermsSpec)

/-- ITS FALSE NEIGHBOUR: 'it returns false'. Refute it at one input. -/
def fnExactSortTermsWrong : ChangeSpec := { name := "fnExactSortTerms", fn := fun _ => fun
  | [d] => { results := [.lit (.bool false)], args := [d] }
  | _ => none }
def FnExactSortTermsWrongFalsely : Prop := fnExactSortTermsRow.holds Try.pinned (OpenSpec.ofChange fnExactSortTermsWrong)

/-- 'laws.FnExactJoinChains': WHATEVER THE INPUT: true; the input reads as it did. -/
def fnExactJoinChainsSpec : ChangeSpec := { name := "fnExactJoinChains", fn := fun _ => fun
  | [d1, d2, d3] => { results := [.lit (.bool true)], args := [d1, d2, d3] }
  | _ => none }
def fnExactJoinChainsRow : OpenClaim := { program := "ytphebmbapllinaa", sum := "ca02f30976341c6e9cd71a9fd3ade9d1bd137f7121cbf80d7fd81a9c0fc7f8eb", func := "loop.example/g00951/laws.FnExactJoinChains", spec := "fnExactJoinChains", apart := false }
def FnExactJoinChainsSaid : Prop := fnExactJoinChainsRow.holds Try.pinned (OpenSpec.ofChange fnExactJoinChainsSpec)

/-- ITS FALSE NEIGHBOUR: 'it returns false'. Refute it at one input. -/
def fnExactJoinChainsWrong : ChangeSpec := { name := "fnExactJoinChains", fn := fun _ => fun
  | [d1, d2, d3] => { results := [.lit (.bool false)], args := [d1, d2, d3] }
  | _ => none }
def FnExactJoinChainsWrongFalsely : Prop := fnExactJoinChainsRow.holds Try.pinned (OpenSpec.ofChange fnExactJoinChainsWrong)

/- THE SECOND FORM. 'bulk': how many values and letters a reading holds, each counted each time it is reached (what is shared counts as often as it is met; a slice's spare places count too). A statement '..UptoSaid' is the law's where the arguments, and the package variables that the reading takes, are together of bulk at most 1048576: NARROWER than '..Said'. Prove '..Said' where nothing that the law and all that it calls make is longer than what came in: it says more and counts as full. Else prove '..UptoSaid'. A law counts once. -/
mutual
def uptoBulk {H : Type} : DataW H → Nat
  | .lit (.string bytes) => bytes.length + 1
  | .lit _ => 1
  | .nil => 1
  | .ptr d => uptoBulk d + 1
  | .slice elems spare => uptoBulkAll elems + uptoBulkAll spare + 1
  | .agg parts => uptoBulkAll parts + 1
  | .iface _ d => uptoBulk d + 1
  | .map entries => uptoBulkEntries entries + 1
  | .held _ => 1
def uptoBulkAll {H : Type} : List (DataW H) → Nat
  | [] => 0
  | d :: r => uptoBulk d + uptoBulkAll r
def uptoBulkEntries {H : Type} : List (Lit × DataW H) → Nat
  | [] => 0
  | x :: r => uptoBulkEntry x + uptoBulkEntries r
def uptoBulkEntry {H : Type} : Lit × DataW H → Nat
  | (.string bytes, d) => bytes.length + uptoBulk d + 1
  | (_, d) => uptoBulk d + 1
 end
def uptoSmall : (H : Type) → List (DataW H) → Bool := fun _ ds => decide (uptoBulkAll ds ≤ 1048576)
def OpenSpec.upto (s : _root_.Go.ChangeSpec) : _root_.Go.OpenSpec := { _root_.Go.OpenSpec.ofChange s with cond := some uptoSmall }

/-- 'laws.FnChains', WHERE WHAT IT READS IS OF BULK AT MOST 1048576: true; the input reads as it did. -/
def fnChainsUptoRow : OpenClaim := { program := "ytphebmbapllinaa", sum := "ca02f30976341c6e9cd71a9fd3ade9d1bd137f7121cbf80d7fd81a9c0fc7f8eb", func := "loop.example/g00951/laws.FnChains", spec := "fnChains", unfollowed := true, recurses := true, apart := false, narrowed := true }
def FnChainsUptoSaid : Prop := fnChainsUptoRow.holds Try.pinned (OpenSpec.upto fnChainsSpec)

/-- 'laws.FnChainValues', WHERE WHAT IT READS IS OF BULK AT MOST 1048576: true; the input reads as it did. -/
def fnChainValuesUptoRow : OpenClaim := { program := "ytphebmbapllinaa", sum := "ca02f30976341c6e9cd71a9fd3ade9d1bd137f7121cbf80d7fd81a9c0fc7f8eb", func := "loop.example/g00951/laws.FnChainValues", spec := "fnChainValues", unfollowed := true, recurses := true, apart := false, narrowed := true }
def FnChainValuesUptoSaid : Prop := fnChainValuesUptoRow.holds Try.pinned (OpenSpec.upto fnChainValuesSpec)

/-- 'laws.FnExactIsChain', WHERE WHAT IT READS IS OF BULK AT MOST 1048576: true; the input reads as it did. -/
def fnExactIsChainUptoRow : OpenClaim := { program := "ytphebmbapllinaa", sum := "ca02f30976341c6e9cd71a9fd3ade9d1bd137f7121cbf80d7fd81a9c0fc7f8eb", func := "loop.example/g00951/laws.FnExactIsChain", spec := "fnExactIsChain", apart := false, narrowed := true }
def FnExactIsChainUptoSaid : Prop := fnExactIsChainUptoRow.holds Try.pinned (OpenSpec.upto fnExactIsChainSpec)

/-- 'laws.FnExactChainLog', WHERE WHAT IT READS IS OF BULK AT MOST 1048576: true; the input reads as it did. -/
def fnExactChainLogUptoRow : OpenClaim := { program := "ytphebmbapllinaa", sum := "ca02f30976341c6e9cd71a9fd3ade9d1bd137f7121cbf80d7fd81a9c0fc7f8eb", func := "loop.example/g00951/laws.FnExactChainLog", spec := "fnExactChainLog", unfollowed := true, recurses := true, apart := false, narrowed := true }
def FnExactChainLogUptoSaid : Prop := fnExactChainLogUptoRow.holds Try.pinned (OpenSpec.upto fnExactChainLogSpec)

/-- 'laws.FnExactChainSpan', WHERE WHAT IT READS IS OF BULK AT MOST 1048576: true; the input reads as it did. -/
def fnExactChainSpanUptoRow : OpenClaim := { program := "ytphebmbapllinaa", sum := "ca02f30976341c6e9cd71a9fd3ade9d1bd137f7121cbf80d7fd81a9c0fc7f8eb", func := "loop.example/g00951/laws.FnExactChainSpan", spec := "fnExactChainSpan", unfollowed := true, recurses := true, apart := false, narrowed := true }
def FnExactChainSpanUptoSaid : Prop := fnExactChainSpanUptoRow.holds Try.pinned (OpenSpec.upto fnExactChainSpanSpec)

/-- 'laws.FnExactChainFigure', WHERE WHAT IT READS IS OF BULK AT MOST 1048576: true; the input reads as it did. -/
def fnExactChainFigureUptoRow : OpenClaim := { program := "ytphebmbapllinaa", sum := "ca02f30976341c6e9cd71a9fd3ade9d1bd137f7121cbf80d7fd81a9c0fc7f8eb", func := "loop.example/g00951/laws.FnExactChainFigure", spec := "fnExactChainFigure", apart := false, narrowed := true }
def FnExactChainFigureUptoSaid : Prop := fnExactChainFigureUptoRow.holds Try.pinned (OpenSpec.upto fnExactChainFigureSpec)

/-- 'laws.FnExactSwapTerms', WHERE WHAT IT READS IS OF BULK AT MOST 1048576: true; the input reads as it did. -/
def fnExactSwapTermsUptoRow : OpenClaim := { program := "ytphebmbapllinaa", sum := "ca02f30976341c6e9cd71a9fd3ade9d1bd137f7121cbf80d7fd81a9c0fc7f8eb", func := "loop.example/g00951/laws.FnExactSwapTerms", spec := "fnExactSwapTerms", apart := false, narrowed := true }
def FnExactSwapTermsUptoSaid : Prop := fnExactSwapTermsUptoRow.holds Try.pinned (OpenSpec.upto fnExactSwapTermsSpec)

/-- 'laws.FnExactSortTerms', WHERE WHAT IT READS IS OF BULK AT MOST 1048576: true; the input reads as it did. -/
def fnExactSortTermsUptoRow : OpenClaim := { program := "ytphebmbapllinaa", sum := "ca02f30976341c6e9cd71a9fd3ade9d1bd137f7121cbf80d7fd81a9c0fc7f8eb", func := "loop.example/g00951/laws.FnExactSortTerms", spec := "fnExactSortTerms", apart := false, narrowed := true }
def FnExactSortTermsUptoSaid : Prop := fnExactSortTermsUptoRow.holds Try.pinned (OpenSpec.upto fnExactSortTermsSpec)

/-- 'laws.FnExactJoinChains', WHERE WHAT IT READS IS OF BULK AT MOST 1048576: true; the input reads as it did. -/
def fnExactJoinChainsUptoRow : OpenClaim := { program := "ytphebmbapllinaa", sum := "ca02f30976341c6e9cd71a9fd3ade9d1bd137f7121cbf80d7fd81a9c0fc7f8eb", func := "loop.example/g00951/laws.FnExactJoinChains", spec := "fnExactJoinChains", apart := false, narrowed := true }
def FnExactJoinChainsUptoSaid : Prop := fnExactJoinChainsUptoRow.holds Try.pinned (OpenSpec.upto fnExactJoinChainsSpec)

end Rows
end Go.Proofs.Ytphebmbapllinaa
