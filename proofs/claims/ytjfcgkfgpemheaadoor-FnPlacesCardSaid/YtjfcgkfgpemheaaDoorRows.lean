/-
  NARROWER THAN 'FOR EVERY INPUT', by the rows' own cells (each row's printed sentence says how): FnScales: laid · FnPlaces: laid · FnExactPositionOf: laid · FnExactPlaceOf: laid · FnExactDistanceBetween: laid · FnExactScaleName: laid · FnExactReadScale: laid · FnExactDecadesOf: laid.
  DERIVED. THE GIVEN ROWS OF THIS SEAT. 8 by the template 'for every input the law returns true; each argument reads behind the call as it read before'; 0 by the template 'total and deterministic' (their statements: YtjfcgkfgpemheaaDoorTotals.lean).
  GIVEN WITH THE SEED: the statements are not yours to turn. If you find one false, say at which input.
  Laid BY PROGRAM, IN A SANDBOX (cutbox-rows.mjs): the forced cells as the released guide's own fill.sh prints them over the translation 0dc1ea9eacac80f5… (all of the seat's roots in one cut). By AI agents, Wed Nov 11 2026. No macro, syntax, notation, axiom, sorry.
-/
import Derived.Test.YtjfcgkfgpemheaaDoorChecked
import GoSem.Claim
import GoSem.ClaimJoined
import GoSem.ClaimMapViews
import Derived.JoinedTies
import Derived.KernelRfl
namespace Go.Proofs.YtjfcgkfgpemheaaDoor
/- THE CELL 'sum', in the pinned program and in every row, IS THE sha256 OF THE DUMP (.gsa) THAT YtjfcgkfgpemheaaDoorProg.lean LOADS. Nothing in Lean hashes anything: it is a label: what it is worth is what the hold of that sum in a sandbox is worth. -/
noncomputable def Tryd.pinned : Pinned := { name := "ytjfcgkfgpemheaadoor", sum := "0dc1ea9eacac80f5b8f4310a31c84caa17c41abd79381c71fed8f67e6f06a61d", checked := Tryd.checked }
namespace Rows
def none {H : Type} : Left H := { results := [], args := [] }

/- WHAT THE LISTED PACKAGE-LEVEL VARIABLES READ AS WHEN THE CALL BEGINS. Each datum BY PROGRAM (the guide's laid-datum.mjs) off the statement by which the dump's own 'gosem.cut.vars' lays the variable. In a bare row this is a premise. The card (YtjfcgkfgpemheaaDoorCards.lean) ties it to the program's text. -/
def laid_loop_example_g00951_impl_scaleDecades {H : Type} : DataW H := .agg [.lit (.int .i64 1), .lit (.int .i64 2), .lit (.int .i64 3), .lit (.int .i64 1), .lit (.int .i64 1), .lit (.int .i64 1)]
def laid_loop_example_g00951_impl_scaleNames {H : Type} : DataW H := .agg [.lit (.string [67]), .lit (.string [65]), .lit (.string [75]), .lit (.string [67, 73]), .lit (.string [67, 70]), .lit (.string [76])]

/-- 'laws.FnScales': WHATEVER THE INPUT: true; the input reads as it did. -/
def fnScalesSpec : ChangeSpec := { name := "fnScales", vars := ["loop.example/g00951/impl.scaleDecades"], fn := fun _ => fun
  | [d, g1] => { results := [.lit (.bool true)], args := [d], vars := [g1] }
  | _ => none }
def fnScalesRow : OpenClaim := { program := "ytjfcgkfgpemheaadoor", sum := "0dc1ea9eacac80f5b8f4310a31c84caa17c41abd79381c71fed8f67e6f06a61d", func := "loop.example/g00951/laws.FnScales", spec := "fnScales", unfollowed := true, recurses := true, named := ["loop.example/g00951/impl.scaleDecades"], apart := false, laid := [("loop.example/g00951/impl.scaleDecades", laid_loop_example_g00951_impl_scaleDecades)] }
def FnScalesSaid : Prop := fnScalesRow.holds Tryd.pinned (OpenSpec.ofChange fnScalesSpec)

/-- ITS FALSE NEIGHBOUR: 'it returns false'. Refute it at one input. -/
def fnScalesWrong : ChangeSpec := { name := "fnScales", vars := ["loop.example/g00951/impl.scaleDecades"], fn := fun _ => fun
  | [d, g1] => { results := [.lit (.bool false)], args := [d], vars := [g1] }
  | _ => none }
def FnScalesWrongFalsely : Prop := fnScalesRow.holds Tryd.pinned (OpenSpec.ofChange fnScalesWrong)

/-- 'laws.FnPlaces': WHATEVER THE INPUT: true; the input reads as it did. -/
def fnPlacesSpec : ChangeSpec := { name := "fnPlaces", vars := ["loop.example/g00951/impl.scaleDecades", "loop.example/g00951/impl.scaleNames"], fn := fun _ => fun
  | [d, g1, g2] => { results := [.lit (.bool true)], args := [d], vars := [g1, g2] }
  | _ => none }
def fnPlacesRow : OpenClaim := { program := "ytjfcgkfgpemheaadoor", sum := "0dc1ea9eacac80f5b8f4310a31c84caa17c41abd79381c71fed8f67e6f06a61d", func := "loop.example/g00951/laws.FnPlaces", spec := "fnPlaces", unfollowed := true, recurses := true, named := ["loop.example/g00951/impl.scaleDecades", "loop.example/g00951/impl.scaleNames"], apart := false, laid := [("loop.example/g00951/impl.scaleNames", laid_loop_example_g00951_impl_scaleNames), ("loop.example/g00951/impl.scaleDecades", laid_loop_example_g00951_impl_scaleDecades)] }
def FnPlacesSaid : Prop := fnPlacesRow.holds Tryd.pinned (OpenSpec.ofChange fnPlacesSpec)

/-- ITS FALSE NEIGHBOUR: 'it returns false'. Refute it at one input. -/
def fnPlacesWrong : ChangeSpec := { name := "fnPlaces", vars := ["loop.example/g00951/impl.scaleDecades", "loop.example/g00951/impl.scaleNames"], fn := fun _ => fun
  | [d, g1, g2] => { results := [.lit (.bool false)], args := [d], vars := [g1, g2] }
  | _ => none }
def FnPlacesWrongFalsely : Prop := fnPlacesRow.holds Tryd.pinned (OpenSpec.ofChange fnPlacesWrong)

/-- 'laws.FnExactPositionOf': WHATEVER THE INPUT: true; the input reads as it did. -/
def fnExactPositionOfSpec : ChangeSpec := { name := "fnExactPositionOf", vars := ["loop.example/g00951/impl.scaleDecades"], fn := fun _ => fun
  | [d1, d2, g1] => { results := [.lit (.bool true)], args := [d1, d2], vars := [g1] }
  | _ => none }
def fnExactPositionOfRow : OpenClaim := { program := "ytjfcgkfgpemheaadoor", sum := "0dc1ea9eacac80f5b8f4310a31c84caa17c41abd79381c71fed8f67e6f06a61d", func := "loop.example/g00951/laws.FnExactPositionOf", spec := "fnExactPositionOf", unfollowed := true, recurses := true, named := ["loop.example/g00951/impl.scaleDecades"], apart := false, laid := [("loop.example/g00951/impl.scaleDecades", laid_loop_example_g00951_impl_scaleDecades)] }
def FnExactPositionOfSaid : Prop := fnExactPositionOfRow.holds Tryd.pinned (OpenSpec.ofChange fnExactPositionOfSpec)

/-- ITS FALSE NEIGHBOUR: 'it returns false'. Refute it at one input. -/
def fnExactPositionOfWrong : ChangeSpec := { name := "fnExactPositionOf", vars := ["loop.example/g00951/impl.scaleDecades"], fn := fun _ => fun
  | [d1, d2, g1] => { results := [.lit (.bool false)], args := [d1, d2], vars := [g1] }
  | _ => none }
def FnExactPositionOfWrongFalsely : Prop := fnExactPositionOfRow.holds Tryd.pinned (OpenSpec.ofChange fnExactPositionOfWrong)

/-- 'laws.FnExactPlaceOf': WHATEVER THE INPUT: true; the input reads as it did. -/
def fnExactPlaceOfSpec : ChangeSpec := { name := "fnExactPlaceOf", vars := ["loop.example/g00951/impl.scaleDecades"], fn := fun _ => fun
  | [d1, d2, d3, g1] => { results := [.lit (.bool true)], args := [d1, d2, d3], vars := [g1] }
  | _ => none }
def fnExactPlaceOfRow : OpenClaim := { program := "ytjfcgkfgpemheaadoor", sum := "0dc1ea9eacac80f5b8f4310a31c84caa17c41abd79381c71fed8f67e6f06a61d", func := "loop.example/g00951/laws.FnExactPlaceOf", spec := "fnExactPlaceOf", unfollowed := true, recurses := true, named := ["loop.example/g00951/impl.scaleDecades"], apart := false, laid := [("loop.example/g00951/impl.scaleDecades", laid_loop_example_g00951_impl_scaleDecades)] }
def FnExactPlaceOfSaid : Prop := fnExactPlaceOfRow.holds Tryd.pinned (OpenSpec.ofChange fnExactPlaceOfSpec)

/-- ITS FALSE NEIGHBOUR: 'it returns false'. Refute it at one input. -/
def fnExactPlaceOfWrong : ChangeSpec := { name := "fnExactPlaceOf", vars := ["loop.example/g00951/impl.scaleDecades"], fn := fun _ => fun
  | [d1, d2, d3, g1] => { results := [.lit (.bool false)], args := [d1, d2, d3], vars := [g1] }
  | _ => none }
def FnExactPlaceOfWrongFalsely : Prop := fnExactPlaceOfRow.holds Tryd.pinned (OpenSpec.ofChange fnExactPlaceOfWrong)

/-- 'laws.FnExactDistanceBetween': WHATEVER THE INPUT: true; the input reads as it did. -/
def fnExactDistanceBetweenSpec : ChangeSpec := { name := "fnExactDistanceBetween", vars := ["loop.example/g00951/impl.scaleDecades"], fn := fun _ => fun
  | [d1, d2, d3, d4, g1] => { results := [.lit (.bool true)], args := [d1, d2, d3, d4], vars := [g1] }
  | _ => none }
def fnExactDistanceBetweenRow : OpenClaim := { program := "ytjfcgkfgpemheaadoor", sum := "0dc1ea9eacac80f5b8f4310a31c84caa17c41abd79381c71fed8f67e6f06a61d", func := "loop.example/g00951/laws.FnExactDistanceBetween", spec := "fnExactDistanceBetween", unfollowed := true, recurses := true, named := ["loop.example/g00951/impl.scaleDecades"], apart := false, laid := [("loop.example/g00951/impl.scaleDecades", laid_loop_example_g00951_impl_scaleDecades)] }
def FnExactDistanceBetweenSaid : Prop := fnExactDistanceBetweenRow.holds Tryd.pinned (OpenSpec.ofChange fnExactDistanceBetweenSpec)

/-- ITS FALSE NEIGHBOUR: 'it returns false'. Refute it at one input. -/
def fnExactDistanceBetweenWrong : ChangeSpec := { name := "fnExactDistanceBetween", vars := ["loop.example/g00951/impl.scaleDecades"], fn := fun _ => fun
  | [d1, d2, d3, d4, g1] => { results := [.lit (.bool false)], args := [d1, d2, d3, d4], vars := [g1] }
  | _ => none }
def FnExactDistanceBetweenWrongFalsely : Prop := fnExactDistanceBetweenRow.holds Tryd.pinned (OpenSpec.ofChange fnExactDistanceBetweenWrong)

/-- 'laws.FnExactScaleName': WHATEVER THE INPUT: true; the input reads as it did. -/
def fnExactScaleNameSpec : ChangeSpec := { name := "fnExactScaleName", vars := ["loop.example/g00951/impl.scaleNames"], fn := fun _ => fun
  | [d, g1] => { results := [.lit (.bool true)], args := [d], vars := [g1] }
  | _ => none }
def fnExactScaleNameRow : OpenClaim := { program := "ytjfcgkfgpemheaadoor", sum := "0dc1ea9eacac80f5b8f4310a31c84caa17c41abd79381c71fed8f67e6f06a61d", func := "loop.example/g00951/laws.FnExactScaleName", spec := "fnExactScaleName", named := ["loop.example/g00951/impl.scaleNames"], apart := false, laid := [("loop.example/g00951/impl.scaleNames", laid_loop_example_g00951_impl_scaleNames)] }
def FnExactScaleNameSaid : Prop := fnExactScaleNameRow.holds Tryd.pinned (OpenSpec.ofChange fnExactScaleNameSpec)

/-- ITS FALSE NEIGHBOUR: 'it returns false'. Refute it at one input. -/
def fnExactScaleNameWrong : ChangeSpec := { name := "fnExactScaleName", vars := ["loop.example/g00951/impl.scaleNames"], fn := fun _ => fun
  | [d, g1] => { results := [.lit (.bool false)], args := [d], vars := [g1] }
  | _ => none }
def FnExactScaleNameWrongFalsely : Prop := fnExactScaleNameRow.holds Tryd.pinned (OpenSpec.ofChange fnExactScaleNameWrong)

/-- 'laws.FnExactReadScale': WHATEVER THE INPUT: true; the input reads as it did. -/
def fnExactReadScaleSpec : ChangeSpec := { name := "fnExactReadScale", vars := ["loop.example/g00951/impl.scaleNames"], fn := fun _ => fun
  | [d, g1] => { results := [.lit (.bool true)], args := [d], vars := [g1] }
  | _ => none }
def fnExactReadScaleRow : OpenClaim := { program := "ytjfcgkfgpemheaadoor", sum := "0dc1ea9eacac80f5b8f4310a31c84caa17c41abd79381c71fed8f67e6f06a61d", func := "loop.example/g00951/laws.FnExactReadScale", spec := "fnExactReadScale", named := ["loop.example/g00951/impl.scaleNames"], apart := false, laid := [("loop.example/g00951/impl.scaleNames", laid_loop_example_g00951_impl_scaleNames)] }
def FnExactReadScaleSaid : Prop := fnExactReadScaleRow.holds Tryd.pinned (OpenSpec.ofChange fnExactReadScaleSpec)

/-- ITS FALSE NEIGHBOUR: 'it returns false'. Refute it at one input. -/
def fnExactReadScaleWrong : ChangeSpec := { name := "fnExactReadScale", vars := ["loop.example/g00951/impl.scaleNames"], fn := fun _ => fun
  | [d, g1] => { results := [.lit (.bool false)], args := [d], vars := [g1] }
  | _ => none }
def FnExactReadScaleWrongFalsely : Prop := fnExactReadScaleRow.holds Tryd.pinned (OpenSpec.ofChange fnExactReadScaleWrong)

/-- 'laws.FnExactDecadesOf': WHATEVER THE INPUT: true; the input reads as it did. -/
def fnExactDecadesOfSpec : ChangeSpec := { name := "fnExactDecadesOf", vars := ["loop.example/g00951/impl.scaleDecades"], fn := fun _ => fun
  | [d, g1] => { results := [.lit (.bool true)], args := [d], vars := [g1] }
  | _ => none }
def fnExactDecadesOfRow : OpenClaim := { program := "ytjfcgkfgpemheaadoor", sum := "0dc1ea9eacac80f5b8f4310a31c84caa17c41abd79381c71fed8f67e6f06a61d", func := "loop.example/g00951/laws.FnExactDecadesOf", spec := "fnExactDecadesOf", named := ["loop.example/g00951/impl.scaleDecades"], apart := false, laid := [("loop.example/g00951/impl.scaleDecades", laid_loop_example_g00951_impl_scaleDecades)] }
def FnExactDecadesOfSaid : Prop := fnExactDecadesOfRow.holds Tryd.pinned (OpenSpec.ofChange fnExactDecadesOfSpec)

/-- ITS FALSE NEIGHBOUR: 'it returns false'. Refute it at one input. -/
def fnExactDecadesOfWrong : ChangeSpec := { name := "fnExactDecadesOf", vars := ["loop.example/g00951/impl.scaleDecades"], fn := fun _ => fun
  | [d, g1] => { results := [.lit (.bool false)], args := [d], vars := [g1] }
  | _ => none }
def FnExactDecadesOfWrongFalsely : Prop := fnExactDecadesOfRow.holds Tryd.pinned (OpenSpec.ofChange fnExactDecadesOfWrong)

/- THE SECOND FORM. 'bulk': how many values and letters a reading holds, each counted each time it is reached (what is shared counts as often as it is met; a slice's spare places count too). A statement '..UptoSaid' is the law's where the arguments, and the package variables that the reading takes, are together of bulk at most 1048576: NARROWER than '..Said'. Prove '..Said' where nothing that the law and all that it calls make is longer than what came in: it says more and counts as full. Else prove '..UptoSaid'. A law counts once. -/
mutual
def uptoBulk {H : Type} : DataW H → Nat
  | .lit (.string bytes) => bytes.length + 1
  | .lit _ => 1
  | .nil => 1
  | .ptr d => uptoBulk d + 1
  | .slice elems spare => uptoBulkAll elems + uptoBulkAll spare + 1
  | .agg parts => uptoBulkAll parts + 1
  | .iface _ d => uptoBulk d + 1
  | .map entries => uptoBulkEntries entries + 1
  | .held _ => 1
def uptoBulkAll {H : Type} : List (DataW H) → Nat
  | [] => 0
  | d :: r => uptoBulk d + uptoBulkAll r
def uptoBulkEntries {H : Type} : List (Lit × DataW H) → Nat
  | [] => 0
  | x :: r => uptoBulkEntry x + uptoBulkEntries r
def uptoBulkEntry {H : Type} : Lit × DataW H → Nat
  | (.string bytes, d) => bytes.length + uptoBulk d + 1
  | (_, d) => uptoBulk d + 1
 end
def uptoSmall : (H : Type) → List (DataW H) → Bool := fun _ ds => decide (uptoBulkAll ds ≤ 1048576)
def OpenSpec.upto (s : _root_.Go.ChangeSpec) : _root_.Go.OpenSpec := { _root_.Go.OpenSpec.ofChange s with cond := some uptoSmall }

/-- 'laws.FnScales', WHERE WHAT IT READS IS OF BULK AT MOST 1048576: true; the input reads as it did. -/
def fnScalesUptoRow : OpenClaim := { program := "ytjfcgkfgpemheaadoor", sum := "0dc1ea9eacac80f5b8f4310a31c84caa17c41abd79381c71fed8f67e6f06a61d", func := "loop.example/g00951/laws.FnScales", spec := "fnScales", unfollowed := true, recurses := true, named := ["loop.example/g00951/impl.scaleDecades"], apart := false, laid := [("loop.example/g00951/impl.scaleDecades", laid_loop_example_g00951_impl_scaleDecades)], narrowed := true }
def FnScalesUptoSaid : Prop := fnScalesUptoRow.holds Tryd.pinned (OpenSpec.upto fnScalesSpec)

/-- 'laws.FnPlaces', WHERE WHAT IT READS IS OF BULK AT MOST 1048576: true; the input reads as it did. -/
def fnPlacesUptoRow : OpenClaim := { program := "ytjfcgkfgpemheaadoor", sum := "0dc1ea9eacac80f5b8f4310a31c84caa17c41abd79381c71fed8f67e6f06a61d", func := "loop.example/g00951/laws.FnPlaces", spec := "fnPlaces", unfollowed := true, recurses := true, named := ["loop.example/g00951/impl.scaleDecades", "loop.example/g00951/impl.scaleNames"], apart := false, laid := [("loop.example/g00951/impl.scaleNames", laid_loop_example_g00951_impl_scaleNames), ("loop.example/g00951/impl.scaleDecades", laid_loop_example_g00951_impl_scaleDecades)], narrowed := true }
def FnPlacesUptoSaid : Prop := fnPlacesUptoRow.holds Tryd.pinned (OpenSpec.upto fnPlacesSpec)

/-- 'laws.FnExactPositionOf', WHERE WHAT IT READS IS OF BULK AT MOST 1048576: true; the input reads as it did. -/
def fnExactPositionOfUptoRow : OpenClaim := { program := "ytjfcgkfgpemheaadoor", sum := "0dc1ea9eacac80f5b8f4310a31c84caa17c41abd79381c71fed8f67e6f06a61d", func := "loop.example/g00951/laws.FnExactPositionOf", spec := "fnExactPositionOf", unfollowed := true, recurses := true, named := ["loop.example/g00951/impl.scaleDecades"], apart := false, laid := [("loop.example/g00951/impl.scaleDecades", laid_loop_example_g00951_impl_scaleDecades)], narrowed := true }
def FnExactPositionOfUptoSaid : Prop := fnExactPositionOfUptoRow.holds Tryd.pinned (OpenSpec.upto fnExactPositionOfSpec)

/-- 'laws.FnExactPlaceOf', WHERE WHAT IT READS IS OF BULK AT MOST 1048576: true; the input reads as it did. -/
def fnExactPlaceOfUptoRow : OpenClaim := { program := "ytjfcgkfgpemheaadoor", sum := "0dc1ea9eacac80f5b8f4310a31c84caa17c41abd79381c71fed8f67e6f06a61d", func := "loop.example/g00951/laws.FnExactPlaceOf", spec := "fnExactPlaceOf", unfollowed := true, recurses := true, named := ["loop.example/g00951/impl.scaleDecades"], apart := false, laid := [("loop.example/g00951/impl.scaleDecades", laid_loop_example_g00951_impl_scaleDecades)], narrowed := true }
def FnExactPlaceOfUptoSaid : Prop := fnExactPlaceOfUptoRow.holds Tryd.pinned (OpenSpec.upto fnExactPlaceOfSpec)

/-- 'laws.FnExactDistanceBetween', WHERE WHAT IT READS IS OF BULK AT MOST 1048576: true; the input reads as it did. -/
def fnExactDistanceBetweenUptoRow : OpenClaim := { program := "ytjfcgkfgpemheaadoor", sum := "0dc1ea9eacac80f5b8f4310a31c84caa17c41abd79381c71fed8f67e6f06a61d", func := "loop.example/g00951/laws.FnExactDistanceBetween", spec := "fnExactDistanceBetween", unfollowed := true, recurses := true, named := ["loop.example/g00951/impl.scaleDecades"], apart := false, laid := [("loop.example/g00951/impl.scaleDecades", laid_loop_example_g00951_impl_scaleDecades)], narrowed := true }
def FnExactDistanceBetweenUptoSaid : Prop := fnExactDistanceBetweenUptoRow.holds Tryd.pinned (OpenSpec.upto fnExactDistanceBetweenSpec)

/-- 'laws.FnExactScaleName', WHERE WHAT IT READS IS OF BULK AT MOST 1048576: true; the input reads as it did. -/
def fnExactScaleNameUptoRow : OpenClaim := { program := "ytjfcgkfgpemheaadoor", sum := "0dc1ea9eacac80f5b8f4310a31c84caa17c41abd79381c71fed8f67e6f06a61d", func := "loop.example/g00951/laws.FnExactScaleName", spec := "fnExactScaleName", named := ["loop.example/g00951/impl.scaleNames"], apart := false, laid := [("loop.example/g00951/impl.scaleNames", laid_loop_example_g00951_impl_scaleNames)], narrowed := true }
def FnExactScaleNameUptoSaid : Prop := fnExactScaleNameUptoRow.holds Tryd.pinned (OpenSpec.upto fnExactScaleNameSpec)

/-- 'laws.FnExactReadScale', WHERE WHAT IT READS IS OF BULK AT MOST 1048576: true; the input reads as it did. -/
def fnExactReadScaleUptoRow : OpenClaim := { program := "ytjfcgkfgpemheaadoor", sum := "0dc1ea9eacac80f5b8f4310a31c84caa17c41abd79381c71fed8f67e6f06a61d", func := "loop.example/g00951/laws.FnExactReadScale", spec := "fnExactReadScale", named := ["loop.example/g00951/impl.scaleNames"], apart := false, laid := [("loop.example/g00951/impl.scaleNames", laid_loop_example_g00951_impl_scaleNames)], narrowed := true }
def FnExactReadScaleUptoSaid : Prop := fnExactReadScaleUptoRow.holds Tryd.pinned (OpenSpec.upto fnExactReadScaleSpec)

/-- 'laws.FnExactDecadesOf', WHERE WHAT IT READS IS OF BULK AT MOST 1048576: true; the input reads as it did. -/
def fnExactDecadesOfUptoRow : OpenClaim := { program := "ytjfcgkfgpemheaadoor", sum := "0dc1ea9eacac80f5b8f4310a31c84caa17c41abd79381c71fed8f67e6f06a61d", func := "loop.example/g00951/laws.FnExactDecadesOf", spec := "fnExactDecadesOf", named := ["loop.example/g00951/impl.scaleDecades"], apart := false, laid := [("loop.example/g00951/impl.scaleDecades", laid_loop_example_g00951_impl_scaleDecades)], narrowed := true }
def FnExactDecadesOfUptoSaid : Prop := fnExactDecadesOfUptoRow.holds Tryd.pinned (OpenSpec.upto fnExactDecadesOfSpec)

end Rows
end Go.Proofs.YtjfcgkfgpemheaaDoor
