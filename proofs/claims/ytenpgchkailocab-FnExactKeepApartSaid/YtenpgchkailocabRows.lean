/-
  No cell of these rows narrows 'for every input' (looked for: loops, veiled, ifaces, maps, wideKeys, modest, calm, conditions, laid).
  DERIVED. THE GIVEN ROWS OF THIS SEAT. 4 by the template 'for every input the law returns true; each argument reads behind the call as it read before'; 0 by the template 'total and deterministic' (their statements: YtenpgchkailocabTotals.lean).
  GIVEN WITH THE SEED: the statements are not yours to turn. If you find one false, say at which input.
  Laid BY PROGRAM, IN A SANDBOX (cutbox-rows.mjs): the forced cells as the released guide's own fill.sh prints them over the translation 70bfe5b9e776f8a1… (all of the seat's roots in one cut). By AI agents, Wed Nov 11 2026. No macro, syntax, notation, axiom, sorry.
-/
import Derived.Test.YtenpgchkailocabChecked
import GoSem.Claim
import GoSem.ClaimJoined
import GoSem.ClaimMapViews
import Derived.JoinedTies
import Derived.KernelRfl
namespace Go.Proofs.Ytenpgchkailocab
/- THE CELL 'sum', in the pinned program and in every row, IS THE sha256 OF THE DUMP (.gsa) THAT YtenpgchkailocabProg.lean LOADS. Nothing in Lean hashes anything: it is a label: what it is worth is what the hold of that sum in a sandbox is worth. -/
noncomputable def Try.pinned : Pinned := { name := "ytenpgchkailocab", sum := "70bfe5b9e776f8a1d2f1f9973e795a27a1021ab2d797a2851168d4cf5bf02378", checked := Try.checked }
namespace Rows
def none {H : Type} : Left H := { results := [], args := [] }

/-- 'laws.FnExactNearestTick': WHATEVER THE INPUT: true; the input reads as it did. -/
def fnExactNearestTickSpec : ChangeSpec := { name := "fnExactNearestTick", fn := fun _ => fun
  | [d1, d2] => { results := [.lit (.bool true)], args := [d1, d2] }
  | _ => none }
def fnExactNearestTickRow : OpenClaim := { program := "ytenpgchkailocab", sum := "70bfe5b9e776f8a1d2f1f9973e795a27a1021ab2d797a2851168d4cf5bf02378", func := "loop.example/g00951/laws.FnExactNearestTick", spec := "fnExactNearestTick", apart := false }
def FnExactNearestTickSaid : Prop := fnExactNearestTickRow.holds Try.pinned (OpenSpec.ofChange fnExactNearestTickSpec)

/-- ITS FALSE NEIGHBOUR: 'it returns false'. Refute it at one input. -/
def fnExactNearestTickWrong : ChangeSpec := { name := "fnExactNearestTick", fn := fun _ => fun
  | [d1, d2] => { results := [.lit (.bool false)], args := [d1, d2] }
  | _ => none }
def FnExactNearestTickWrongFalsely : Prop := fnExactNearestTickRow.holds Try.pinned (OpenSpec.ofChange fnExactNearestTickWrong)

/-- 'laws.FnExactTicksBetween': WHATEVER THE INPUT: true; the input reads as it did. -/
def fnExactTicksBetweenSpec : ChangeSpec := { name := "fnExactTicksBetween", fn := fun _ => fun
  | [d1, d2, d3] => { results := [.lit (.bool true)], args := [d1, d2, d3] }
  | _ => none }
def fnExactTicksBetweenRow : OpenClaim := { program := "ytenpgchkailocab", sum := "70bfe5b9e776f8a1d2f1f9973e795a27a1021ab2d797a2851168d4cf5bf02378", func := "loop.example/g00951/laws.FnExactTicksBetween", spec := "fnExactTicksBetween", apart := false }
def FnExactTicksBetweenSaid : Prop := fnExactTicksBetweenRow.holds Try.pinned (OpenSpec.ofChange fnExactTicksBetweenSpec)

/-- ITS FALSE NEIGHBOUR: 'it returns false'. Refute it at one input. -/
def fnExactTicksBetweenWrong : ChangeSpec := { name := "fnExactTicksBetween", fn := fun _ => fun
  | [d1, d2, d3] => { results := [.lit (.bool false)], args := [d1, d2, d3] }
  | _ => none }
def FnExactTicksBetweenWrongFalsely : Prop := fnExactTicksBetweenRow.holds Try.pinned (OpenSpec.ofChange fnExactTicksBetweenWrong)

/-- 'laws.FnExactClosestTicks': WHATEVER THE INPUT: true; the input reads as it did. -/
def fnExactClosestTicksSpec : ChangeSpec := { name := "fnExactClosestTicks", fn := fun _ => fun
  | [d] => { results := [.lit (.bool true)], args := [d] }
  | _ => none }
def fnExactClosestTicksRow : OpenClaim := { program := "ytenpgchkailocab", sum := "70bfe5b9e776f8a1d2f1f9973e795a27a1021ab2d797a2851168d4cf5bf02378", func := "loop.example/g00951/laws.FnExactClosestTicks", spec := "fnExactClosestTicks", apart := false }
def FnExactClosestTicksSaid : Prop := fnExactClosestTicksRow.holds Try.pinned (OpenSpec.ofChange fnExactClosestTicksSpec)

/-- ITS FALSE NEIGHBOUR: 'it returns false'. Refute it at one input. -/
def fnExactClosestTicksWrong : ChangeSpec := { name := "fnExactClosestTicks", fn := fun _ => fun
  | [d] => { results := [.lit (.bool false)], args := [d] }
  | _ => none }
def FnExactClosestTicksWrongFalsely : Prop := fnExactClosestTicksRow.holds Try.pinned (OpenSpec.ofChange fnExactClosestTicksWrong)

/-- 'laws.FnExactKeepApart': WHATEVER THE INPUT: true; the input reads as it did. -/
def fnExactKeepApartSpec : ChangeSpec := { name := "fnExactKeepApart", fn := fun _ => fun
  | [d1, d2] => { results := [.lit (.bool true)], args := [d1, d2] }
  | _ => none }
def fnExactKeepApartRow : OpenClaim := { program := "ytenpgchkailocab", sum := "70bfe5b9e776f8a1d2f1f9973e795a27a1021ab2d797a2851168d4cf5bf02378", func := "loop.example/g00951/laws.FnExactKeepApart", spec := "fnExactKeepApart", unfollowed := true, recurses := true, apart := false }
def FnExactKeepApartSaid : Prop := fnExactKeepApartRow.holds Try.pinned (OpenSpec.ofChange fnExactKeepApartSpec)

/-- ITS FALSE NEIGHBOUR: 'it returns false'. Refute it at one input. -/
def fnExactKeepApartWrong : ChangeSpec := { name := "fnExactKeepApart", fn := fun _ => fun
  | [d1, d2] => { results := [.lit (.bool false)], args := [d1, d2] }
  | _ => none }
def FnExactKeepApartWrongFalsely : Prop := fnExactKeepApartRow.holds Try.pinned (OpenSpec.ofChange fnExactKeepApartWrong)

/- THE SECOND FORM. 'bulk': how many values and letters a reading holds, each counted each time it is reached (what is shared counts as often as it is met; a slice's spare places count too). A statement '..UptoSaid' is the law's where the arguments, and the package variables that the reading takes, are together of bulk at most 1048576: NARROWER than '..Said'. Prove '..Said' where nothing that the law and all that it calls make is longer than what came in: it says more and counts as full. Else prove '..UptoSaid'. A law counts once. -/
mutual
def uptoBulk {H : Type} : DataW H → Nat
  | .lit (.string bytes) => bytes.length + 1
  | .lit _ => 1
  | .nil => 1
  | .ptr d => uptoBulk d + 1
  | .slice elems spare => uptoBulkAll elems + uptoBulkAll spare + 1
  | .agg parts => uptoBulkAll parts + 1
  | .iface _ d => uptoBulk d + 1
  | .map entries => uptoBulkEntries entries + 1
  | .held _ => 1
def uptoBulkAll {H : Type} : List (DataW H) → Nat
  | [] => 0
  | d :: r => uptoBulk d + uptoBulkAll r
def uptoBulkEntries {H : Type} : List (Lit × DataW H) → Nat
  | [] => 0
  | x :: r => uptoBulkEntry x + uptoBulkEntries r
def uptoBulkEntry {H : Type} : Lit × DataW H → Nat
  | (.string bytes, d) => bytes.length + uptoBulk d + 1
  | (_, d) => uptoBulk d + 1
 end
def uptoSmall : (H : Type) → List (DataW H) → Bool := fun _ ds => decide (uptoBulkAll ds ≤ 1048576)
def OpenSpec.upto (s : _root_.Go.ChangeSpec) : _root_.Go.OpenSpec := { _root_.Go.OpenSpec.ofChange s with cond := some uptoSmall }

/-- 'laws.FnExactNearestTick', WHERE WHAT IT READS IS OF BULK AT MOST 1048576: true; the input reads as it did. -/
def fnExactNearestTickUptoRow : OpenClaim := { program := "ytenpgchkailocab", sum := "70bfe5b9e776f8a1d2f1f9973e795a27a1021ab2d797a2851168d4cf5bf02378", func := "loop.example/g00951/laws.FnExactNearestTick", spec := "fnExactNearestTick", apart := false, narrowed := true }
def FnExactNearestTickUptoSaid : Prop := fnExactNearestTickUptoRow.holds Try.pinned (OpenSpec.upto fnExactNearestTickSpec)

/-- 'laws.FnExactTicksBetween', WHERE WHAT IT READS IS OF BULK AT MOST 1048576: true; the input reads as it did. -/
def fnExactTicksBetweenUptoRow : OpenClaim := { program := "ytenpgchkailocab", sum := "70bfe5b9e776f8a1d2f1f9973e795a27a1021ab2d797a2851168d4cf5bf02378", func := "loop.example/g00951/laws.FnExactTicksBetween", spec := "fnExactTicksBetween", apart := false, narrowed := true }
def FnExactTicksBetweenUptoSaid : Prop := fnExactTicksBetweenUptoRow.holds Try.pinned (OpenSpec.upto fnExactTicksBetweenSpec)

/-- 'laws.FnExactClosestTicks', WHERE WHAT IT READS IS OF BULK AT MOST 1048576: true; the input reads as it did. -/
def fnExactClosestTicksUptoRow : OpenClaim := { program := "ytenpgchkailocab", sum := "70bfe5b9e776f8a1d2f1f9973e795a27a1021ab2d797a2851168d4cf5bf02378", func := "loop.example/g00951/laws.FnExactClosestTicks", spec := "fnExactClosestTicks", apart := false, narrowed := true }
def FnExactClosestTicksUptoSaid : Prop := fnExactClosestTicksUptoRow.holds Try.pinned (OpenSpec.upto fnExactClosestTicksSpec)

/-- 'laws.FnExactKeepApart', WHERE WHAT IT READS IS OF BULK AT MOST 1048576: true; the input reads as it did. -/
def fnExactKeepApartUptoRow : OpenClaim := { program := "ytenpgchkailocab", sum := "70bfe5b9e776f8a1d2f1f9973e795a27a1021ab2d797a2851168d4cf5bf02378", func := "loop.example/g00951/laws.FnExactKeepApart", spec := "fnExactKeepApart", unfollowed := true, recurses := true, apart := false, narrowed := true }
def FnExactKeepApartUptoSaid : Prop := fnExactKeepApartUptoRow.holds Try.pinned (OpenSpec.upto fnExactKeepApartSpec)

end Rows
end Go.Proofs.Ytenpgchkailocab
