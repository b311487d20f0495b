/-
  No cell of these rows narrows 'for every input' (looked for: loops, veiled, ifaces, maps, wideKeys, modest, calm, conditions, laid).
  DERIVED. THE GIVEN ROWS OF THIS SEAT. 3 by the template 'for every input the law returns true; each argument reads behind the call as it read before'; 0 by the template 'total and deterministic' (their statements: YtddcdodbmbmdnaaTotals.lean).
  GIVEN WITH THE SEED: the statements are not yours to turn. If you find one false, say at which input.
  Laid BY PROGRAM, IN A SANDBOX (cutbox-rows.mjs): the forced cells as the released guide's own fill.sh prints them over the translation 574d816a60f9dc9d… (all of the seat's roots in one cut). By AI agents, Wed Nov 11 2026. No macro, syntax, notation, axiom, sorry.
-/
import Derived.Test.YtddcdodbmbmdnaaChecked
import GoSem.Claim
import GoSem.ClaimJoined
import GoSem.ClaimMapViews
import Derived.JoinedTies
import Derived.KernelRfl
namespace Go.Proofs.Ytddcdodbmbmdnaa
/- THE CELL 'sum', in the pinned program and in every row, IS THE sha256 OF THE DUMP (.gsa) THAT YtddcdodbmbmdnaaProg.lean LOADS. Nothing in Lean hashes anything: it is a label: what it is worth is what the hold of that sum in a sandbox is worth. -/
noncomputable def Try.pinned : Pinned := { name := "ytddcdodbmbmdnaa", sum := "574d816a60f9dc9d4b9feb547e7f7d7b5ba3eff1f55be2d4a4ee835df6df9887", checked := Try.checked }
namespace Rows
def none {H : Type} : Left H := { results := [], args := [] }

/-- 'laws.FnExactIsRule': WHATEVER THE INPUT: true; the input reads as it did. -/
def fnExactIsRuleSpec : ChangeSpec := { name := "fnExactIsRule", fn := fun _ => fun
  | [d] => { results := [.lit (.bool true)], args := [d] }
  | _ => none }
def fnExactIsRuleRow : OpenClaim := { program := "ytddcdodbmbmdnaa", sum := "574d816a60f9dc9d4b9feb547e7f7d7b5ba3eff1f55be2d4a4ee835df6df9887", func := "loop.example/g00951/laws.FnExactIsRule", spec := "fnExactIsRule", apart := false }
def FnExactIsRuleSaid : Prop := fnExactIsRuleRow.holds Try.pinned (OpenSpec.ofChange fnExactIsRuleSpec)

/-- ITS FALSE NEIGHBOUR: 'it returns false'. Refute it at one input. -/
def fnExactIsRuleWrong : ChangeSpec := { name := "fnExactIsRule", fn := fun _ => fun
  | [d] => { results := [.lit (.bool false)], args := [d] }
  | _ => none }
def FnExactIsRuleWrongFalsely : Prop := fnExactIsRuleRow.holds Try.pinned (OpenSpec.ofChange fnExactIsRuleWrong)

/-- 'laws.FnExactIsSetting': WHATEVER THE INPUT: true; the input reads as it did. -/
def fnExactIsSettingSpec : ChangeSpec := { name := "fnExactIsSetting", fn := fun _ => fun
  | [d] => { results := [.lit (.bool true)], args := [d] }
  | _ => none }
def fnExactIsSettingRow : OpenClaim := { program := "ytddcdodbmbmdnaa", sum := "574d816a60f9dc9d4b9feb547e7f7d7b5ba3eff1f55be2d4a4ee835df6df9887", func := "loop.example/g00951/laws.FnExactIsSetting", spec := "fnExactIsSetting", apart := false }
def FnExactIsSettingSaid : Prop := fnExactIsSettingRow.holds Try.pinned (OpenSpec.ofChange fnExactIsSettingSpec)

/-- ITS FALSE NEIGHBOUR: 'it returns false'. Refute it at one input. -/
def fnExactIsSettingWrong : ChangeSpec := { name := "fnExactIsSetting", fn := fun _ => fun
  | [d] => { results := [.lit (.bool false)], args := [d] }
  | _ => none }
def FnExactIsSettingWrongFalsely : Prop := fnExactIsSettingRow.holds Try.pinned (OpenSpec.ofChange fnExactIsSettingWrong)

/-- 'laws.FnExactHasScale': WHATEVER THE INPUT: true; the input reads as it did. -/
def fnExactHasScaleSpec : ChangeSpec := { name := "fnExactHasScale", fn := fun _ => fun
  | [d1, d2, d3] => { results := [.lit (.bool true)], args := [d1, d2, d3] }
  | _ => none }
def fnExactHasScaleRow : OpenClaim := { program := "ytddcdodbmbmdnaa", sum := "574d816a60f9dc9d4b9feb547e7f7d7b5ba3eff1f55be2d4a4ee835df6df9887", func := "loop.example/g00951/laws.FnExactHasScale", spec := "fnExactHasScale", unfollowed := true, recurses := true, apart := false }
def FnExactHasScaleSaid : Prop := fnExactHasScaleRow.holds Try.pinned (OpenSpec.ofChange fnExactHasScaleSpec)

/-- ITS FALSE NEIGHBOUR: 'it returns false'. Refute it at one input. -/
def fnExactHasScaleWrong : ChangeSpec := { name := "fnExactHasScale", fn := fun _ => fun
  | [d1, d2, d3] => { results := [.lit (.bool false)], args := [d1, d2, d3] }
  | _ => none }
def FnExactHasScaleWrongFalsely : Prop := fnExactHasScaleRow.holds Try.pinned (OpenSpec.ofChange fnExactHasScaleWrong)

/- THE SECOND FORM. 'bulk': how many values and letters a reading holds, each counted each time it is reached (what is shared counts as often as it is met; a slice's spare places count too). A statement '..UptoSaid' is the law's where the arguments, and the package variables that the reading takes, are together of bulk at most 1048576: NARROWER than '..Said'. Prove '..Said' where nothing that the law and all that it calls make is longer than what came in: it says more and counts as full. Else prove '..UptoSaid'. A law counts once. -/
mutual
def uptoBulk {H : Type} : DataW H → Nat
  | .lit (.string bytes) => bytes.length + 1
  | .lit _ => 1
  | .nil => 1
  | .ptr d => uptoBulk d + 1
  | .slice elems spare => uptoBulkAll elems + uptoBulkAll spare + 1
  | .agg parts => uptoBulkAll parts + 1
  | .iface _ d => uptoBulk d + 1
  | .map entries => uptoBulkEntries entries + 1
  | .held _ => 1
def uptoBulkAll {H : Type} : List (DataW H) → Nat
  | [] => 0
  | d :: r => uptoBulk d + uptoBulkAll r
def uptoBulkEntries {H : Type} : List (Lit × DataW H) → Nat
  | [] => 0
  | x :: r => uptoBulkEntry x + uptoBulkEntries r
def uptoBulkEntry {H : Type} : Lit × DataW H → Nat
  | (.string bytes, d) => bytes.length + uptoBulk d + 1
  | (_, d) => uptoBulk d + 1
 end
def uptoSmall : (H : Type) → List (DataW H) → Bool := fun _ ds => decide (uptoBulkAll ds ≤ 1048576)
def OpenSpec.upto (s : _root_.Go.ChangeSpec) : _root_.Go.OpenSpec := { _root_.Go.OpenSpec.ofChange s with cond := some uptoSmall }

/-- 'laws.FnExactIsRule', WHERE WHAT IT READS IS OF BULK AT MOST 1048576: true; the input reads as it did. -/
def fnExactIsRuleUptoRow : OpenClaim := { program := "ytddcdodbmbmdnaa", sum := "574d816a60f9dc9d4b9feb547e7f7d7b5ba3eff1f55be2d4a4ee835df6df9887", func := "loop.example/g00951/laws.FnExactIsRule", spec := "fnExactIsRule", apart := false, narrowed := true }
def FnExactIsRuleUptoSaid : Prop := fnExactIsRuleUptoRow.holds Try.pinned (OpenSpec.upto fnExactIsRuleSpec)

/-- 'laws.FnExactIsSetting', WHERE WHAT IT READS IS OF BULK AT MOST 1048576: true; the input reads as it did. -/
def fnExactIsSettingUptoRow : OpenClaim := { program := "ytddcdodbmbmdnaa", sum := "574d816a60f9dc9d4b9feb547e7f7d7b5ba3eff1f55be2d4a4ee835df6df9887", func := "loop.example/g00951/laws.FnExactIsSetting", spec := "fnExactIsSetting", apart := false, narrowed := true }
def FnExactIsSettingUptoSaid : Prop := fnExactIsSettingUptoRow.holds Try.pinned (OpenSpec.upto fnExactIsSettingSpec)

/-- 'laws.FnExactHasScale', WHERE WHAT IT READS IS OF BULK AT MOST 1048576: true; the input reads as it did. -/
def fnExactHasScaleUptoRow : OpenClaim := { program := "ytddcdodbmbmdnaa", sum := "574d816a60f9dc9d4b9feb547e7f7d7b5ba3eff1f55be2d4a4ee835df6df9887", func := "loop.example/g00951/laws.FnExactHasScale", spec := "fnExactHasScale", unfollowed := true, recurses := true, apart := false, narrowed := true }
def FnExactHasScaleUptoSaid : Prop := fnExactHasScaleUptoRow.holds Try.pinned (OpenSpec.upto fnExactHasScaleSpec)

end Rows
end Go.Proofs.Ytddcdodbmbmdnaa
