/-
  No cell of these rows narrows 'for every input' (looked for: loops, veiled, ifaces, maps, wideKeys, modest, calm, conditions, laid).
  DERIVED. THE GIVEN ROWS OF THIS SEAT. 6 by the template 'for every input the law returns true; each argument reads behind the call as it read before'; 0 by the template 'total and deterministic' (their statements: YtkcfhdconmpkdaaTotals.lean).
  GIVEN WITH THE SEED: the statements are not yours to turn. If you find one false, say at which input.
  Laid BY PROGRAM, IN A SANDBOX (cutbox-rows.mjs): the forced cells as the released guide's own fill.sh prints them over the translation 23b24d4adb04bace… (all of the seat's roots in one cut). By AI agents, Wed Nov 11 2026. No macro, syntax, notation, axiom, sorry.
-/
import Derived.Test.YtkcfhdconmpkdaaChecked
import GoSem.Claim
import GoSem.ClaimJoined
import GoSem.ClaimMapViews
import Derived.JoinedTies
import Derived.KernelRfl
namespace Go.Proofs.Ytkcfhdconmpkdaa
/- THE CELL 'sum', in the pinned program and in every row, IS THE sha256 OF THE DUMP (.gsa) THAT YtkcfhdconmpkdaaProg.lean LOADS. Nothing in Lean hashes anything: it is a label: what it is worth is what the hold of that sum in a sandbox is worth. -/
noncomputable def Try.pinned : Pinned := { name := "ytkcfhdconmpkdaa", sum := "23b24d4adb04bace6c079515cf2f60c28991acd7b0214afcb5efa0d8a487a407", checked := Try.checked }
namespace Rows
def none {H : Type} : Left H := { results := [], args := [] }

/-- 'laws.FnFractions': WHATEVER THE INPUT: true; the input reads as it did. -/
def fnFractionsSpec : ChangeSpec := { name := "fnFractions", fn := fun _ => fun
  | [d] => { results := [.lit (.bool true)], args := [d] }
  | _ => none }
def fnFractionsRow : OpenClaim := { program := "ytkcfhdconmpkdaa", sum := "23b24d4adb04bace6c079515cf2f60c28991acd7b0214afcb5efa0d8a487a407", func := "loop.example/g00951/laws.FnFractions", spec := "fnFractions", apart := false }
def FnFractionsSaid : Prop := fnFractionsRow.holds Try.pinned (OpenSpec.ofChange fnFractionsSpec)

/-- ITS FALSE NEIGHBOUR: 'it returns false'. Refute it at one input. -/
def fnFractionsWrong : ChangeSpec := { name := "fnFractions", fn := fun _ => fun
  | [d] => { results := [.lit (.bool false)], args := [d] }
  | _ => none }
def FnFractionsWrongFalsely : Prop := fnFractionsRow.holds Try.pinned (OpenSpec.ofChange fnFractionsWrong)

/-- 'laws.FnExactDivideDown': WHATEVER THE INPUT: true; the input reads as it did. -/
def fnExactDivideDownSpec : ChangeSpec := { name := "fnExactDivideDown", fn := fun _ => fun
  | [d1, d2] => { results := [.lit (.bool true)], args := [d1, d2] }
  | _ => none }
def fnExactDivideDownRow : OpenClaim := { program := "ytkcfhdconmpkdaa", sum := "23b24d4adb04bace6c079515cf2f60c28991acd7b0214afcb5efa0d8a487a407", func := "loop.example/g00951/laws.FnExactDivideDown", spec := "fnExactDivideDown", apart := false }
def FnExactDivideDownSaid : Prop := fnExactDivideDownRow.holds Try.pinned (OpenSpec.ofChange fnExactDivideDownSpec)

/-- ITS FALSE NEIGHBOUR: 'it returns false'. Refute it at one input. -/
def fnExactDivideDownWrong : ChangeSpec := { name := "fnExactDivideDown", fn := fun _ => fun
  | [d1, d2] => { results := [.lit (.bool false)], args := [d1, d2] }
  | _ => none }
def FnExactDivideDownWrongFalsely : Prop := fnExactDivideDownRow.holds Try.pinned (OpenSpec.ofChange fnExactDivideDownWrong)

/-- 'laws.FnExactDivideUp': WHATEVER THE INPUT: true; the input reads as it did. -/
def fnExactDivideUpSpec : ChangeSpec := { name := "fnExactDivideUp", fn := fun _ => fun
  | [d1, d2] => { results := [.lit (.bool true)], args := [d1, d2] }
  | _ => none }
def fnExactDivideUpRow : OpenClaim := { program := "ytkcfhdconmpkdaa", sum := "23b24d4adb04bace6c079515cf2f60c28991acd7b0214afcb5efa0d8a487a407", func := "loop.example/g00951/laws.FnExactDivideUp", spec := "fnExactDivideUp", apart := false }
def FnExactDivideUpSaid : Prop := fnExactDivideUpRow.holds Try.pinned (OpenSpec.ofChange fnExactDivideUpSpec)

/-- ITS FALSE NEIGHBOUR: 'it returns false'. Refute it at one input. -/
def fnExactDivideUpWrong : ChangeSpec := { name := "fnExactDivideUp", fn := fun _ => fun
  | [d1, d2] => { results := [.lit (.bool false)], args := [d1, d2] }
  | _ => none }
def FnExactDivideUpWrongFalsely : Prop := fnExactDivideUpRow.holds Try.pinned (OpenSpec.ofChange fnExactDivideUpWrong)

/-- 'laws.FnExactDivideNear': WHATEVER THE INPUT: true; the input reads as it did. -/
def fnExactDivideNearSpec : ChangeSpec := { name := "fnExactDivideNear", fn := fun _ => fun
  | [d1, d2] => { results := [.lit (.bool true)], args := [d1, d2] }
  | _ => none }
def fnExactDivideNearRow : OpenClaim := { program := "ytkcfhdconmpkdaa", sum := "23b24d4adb04bace6c079515cf2f60c28991acd7b0214afcb5efa0d8a487a407", func := "loop.example/g00951/laws.FnExactDivideNear", spec := "fnExactDivideNear", apart := false }
def FnExactDivideNearSaid : Prop := fnExactDivideNearRow.holds Try.pinned (OpenSpec.ofChange fnExactDivideNearSpec)

/-- ITS FALSE NEIGHBOUR: 'it returns false'. Refute it at one input. -/
def fnExactDivideNearWrong : ChangeSpec := { name := "fnExactDivideNear", fn := fun _ => fun
  | [d1, d2] => { results := [.lit (.bool false)], args := [d1, d2] }
  | _ => none }
def FnExactDivideNearWrongFalsely : Prop := fnExactDivideNearRow.holds Try.pinned (OpenSpec.ofChange fnExactDivideNearWrong)

/-- 'laws.FnExactPowerOfTen': WHATEVER THE INPUT: true; the input reads as it did. -/
def fnExactPowerOfTenSpec : ChangeSpec := { name := "fnExactPowerOfTen", fn := fun _ => fun
  | [d] => { results := [.lit (.bool true)], args := [d] }
  | _ => none }
def fnExactPowerOfTenRow : OpenClaim := { program := "ytkcfhdconmpkdaa", sum := "23b24d4adb04bace6c079515cf2f60c28991acd7b0214afcb5efa0d8a487a407", func := "loop.example/g00951/laws.FnExactPowerOfTen", spec := "fnExactPowerOfTen", apart := false }
def FnExactPowerOfTenSaid : Prop := fnExactPowerOfTenRow.holds Try.pinned (OpenSpec.ofChange fnExactPowerOfTenSpec)

/-- ITS FALSE NEIGHBOUR: 'it returns false'. Refute it at one input. -/
def fnExactPowerOfTenWrong : ChangeSpec := { name := "fnExactPowerOfTen", fn := fun _ => fun
  | [d] => { results := [.lit (.bool false)], args := [d] }
  | _ => none }
def FnExactPowerOfTenWrongFalsely : Prop := fnExactPowerOfTenRow.holds Try.pinned (OpenSpec.ofChange fnExactPowerOfTenWrong)

/-- 'laws.FnExactCommonDivisor': WHATEVER THE INPUT: true; the input reads as it did. -/
def fnExactCommonDivisorSpec : ChangeSpec := { name := "fnExactCommonDivisor", fn := fun _ => fun
  | [d1, d2] => { results := [.lit (.bool true)], args := [d1, d2] }
  | _ => none }
def fnExactCommonDivisorRow : OpenClaim := { program := "ytkcfhdconmpkdaa", sum := "23b24d4adb04bace6c079515cf2f60c28991acd7b0214afcb5efa0d8a487a407", func := "loop.example/g00951/laws.FnExactCommonDivisor", spec := "fnExactCommonDivisor", apart := false }
def FnExactCommonDivisorSaid : Prop := fnExactCommonDivisorRow.holds Try.pinned (OpenSpec.ofChange fnExactCommonDivisorSpec)

/-- ITS FALSE NEIGHBOUR: 'it returns false'. Refute it at one input. -/
def fnExactCommonDivisorWrong : ChangeSpec := { name := "fnExactCommonDivisor", fn := fun _ => fun
  | [d1, d2] => { results := [.lit (.bool false)], args := [d1, d2] }
  | _ => none }
def FnExactCommonDivisorWrongFalsely : Prop := fnExactCommonDivisorRow.holds Try.pinned (OpenSpec.ofChange fnExactCommonDivisorWrong)

/- THE SECOND FORM. 'bulk': how many values and letters a reading holds, each counted each time it is reached (what is shared counts as often as it is met; a slice's spare places count too). A statement '..UptoSaid' is the law's where the arguments, and the package variables that the reading takes, are together of bulk at most 1048576: NARROWER than '..Said'. Prove '..Said' where nothing that the law and all that it calls make is longer than what came in: it says more and counts as full. Else prove '..UptoSaid'. A law counts once. -/
mutual
def uptoBulk {H : Type} : DataW H → Nat
  | .lit (.string bytes) => bytes.length + 1
  | .lit _ => 1
  | .nil => 1
  | .ptr d => uptoBulk d + 1
  | .slice elems spare => uptoBulkAll elems + uptoBulkAll spare + 1
  | .agg parts => uptoBulkAll parts + 1
  | .iface _ d => uptoBulk d + 1
  | .map entries => uptoBulkEntries entries + 1
  | .held _ => 1
def uptoBulkAll {H : Type} : List (DataW H) → Nat
  | [] => 0
  | d :: r => uptoBulk d + uptoBulkAll r
def uptoBulkEntries {H : Type} : List (Lit × DataW H) → Nat
  | [] => 0
  | x :: r => uptoBulkEntry x + uptoBulkEntries r
def uptoBulkEntry {H : Type} : Lit × DataW H → Nat
  | (.string bytes, d) => bytes.length + uptoBulk d + 1
  | (_, d) => uptoBulk d + 1
 end
def uptoSmall : (H : Type) → List (DataW H) → Bool := fun _ ds => decide (uptoBulkAll ds ≤ 1048576)
def OpenSpec.upto (s : _root_.Go.ChangeSpec) : _root_.Go.OpenSpec := { _root_.Go.OpenSpec.ofChange s with cond := some uptoSmall }

/-- 'laws.FnFractions', WHERE WHAT IT READS IS OF BULK AT MOST 1048576: true; the input reads as it did. -/
def fnFractionsUptoRow : OpenClaim := { program := "ytkcfhdconmpkdaa", sum := "23b24d4adb04bace6c079515cf2f60c28991acd7b0214afcb5efa0d8a487a407", func := "loop.example/g00951/laws.FnFractions", spec := "fnFractions", apart := false, narrowed := true }
def FnFractionsUptoSaid : Prop := fnFractionsUptoRow.holds Try.pinned (OpenSpec.upto fnFractionsSpec)

/-- 'laws.FnExactDivideDown', WHERE WHAT IT READS IS OF BULK AT MOST 1048576: true; the input reads as it did. -/
def fnExactDivideDownUptoRow : OpenClaim := { program := "ytkcfhdconmpkdaa", sum := "23b24d4adb04bace6c079515cf2f60c28991acd7b0214afcb5efa0d8a487a407", func := "loop.example/g00951/laws.FnExactDivideDown", spec := "fnExactDivideDown", apart := false, narrowed := true }
def FnExactDivideDownUptoSaid : Prop := fnExactDivideDownUptoRow.holds Try.pinned (OpenSpec.upto fnExactDivideDownSpec)

/-- 'laws.FnExactDivideUp', WHERE WHAT IT READS IS OF BULK AT MOST 1048576: true; the input reads as it did. -/
def fnExactDivideUpUptoRow : OpenClaim := { program := "ytkcfhdconmpkdaa", sum := "23b24d4adb04bace6c079515cf2f60c28991acd7b0214afcb5efa0d8a487a407", func := "loop.example/g00951/laws.FnExactDivideUp", spec := "fnExactDivideUp", apart := false, narrowed := true }
def FnExactDivideUpUptoSaid : Prop := fnExactDivideUpUptoRow.holds Try.pinned (OpenSpec.upto fnExactDivideUpSpec)

/-- 'laws.FnExactDivideNear', WHERE WHAT IT READS IS OF BULK AT MOST 1048576: true; the input reads as it did. -/
def fnExactDivideNearUptoRow : OpenClaim := { program := "ytkcfhdconmpkdaa", sum := "23b24d4adb04bace6c079515cf2f60c28991acd7b0214afcb5efa0d8a487a407", func := "loop.example/g00951/laws.FnExactDivideNear", spec := "fnExactDivideNear", apart := false, narrowed := true }
def FnExactDivideNearUptoSaid : Prop := fnExactDivideNearUptoRow.holds Try.pinned (OpenSpec.upto fnExactDivideNearSpec)

/-- 'laws.FnExactPowerOfTen', WHERE WHAT IT READS IS OF BULK AT MOST 1048576: true; the input reads as it did. -/
def fnExactPowerOfTenUptoRow : OpenClaim := { program := "ytkcfhdconmpkdaa", sum := "23b24d4adb04bace6c079515cf2f60c28991acd7b0214afcb5efa0d8a487a407", func := "loop.example/g00951/laws.FnExactPowerOfTen", spec := "fnExactPowerOfTen", apart := false, narrowed := true }
def FnExactPowerOfTenUptoSaid : Prop := fnExactPowerOfTenUptoRow.holds Try.pinned (OpenSpec.upto fnExactPowerOfTenSpec)

/-- 'laws.FnExactCommonDivisor', WHERE WHAT IT READS IS OF BULK AT MOST 1048576: true; the input reads as it did. -/
def fnExactCommonDivisorUptoRow : OpenClaim := { program := "ytkcfhdconmpkdaa", sum := "23b24d4adb04bace6c079515cf2f60c28991acd7b0214afcb5efa0d8a487a407", func := "loop.example/g00951/laws.FnExactCommonDivisor", spec := "fnExactCommonDivisor", apart := false, narrowed := true }
def FnExactCommonDivisorUptoSaid : Prop := fnExactCommonDivisorUptoRow.holds Try.pinned (OpenSpec.upto fnExactCommonDivisorSpec)

end Rows
end Go.Proofs.Ytkcfhdconmpkdaa
