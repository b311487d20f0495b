/-
  DERIVED. GIVEN WITH THE SEED: THE CARDS: each row of YtjfcgkfgpemheaaDoorRows.lean that lists a variable, with what it lists TIED to the program's text (the seventh form; the later family's looks); each row that meets fmt, with fmt's text TOLD by the authors' own Lean function (tested against real Go, not proved from fmt's source: count such statements apart). THE CARD IS WHAT COUNTS. Prove the row's statement (the work); the ties are given (YtjfcgkfgpemheaaDoorTie.lean); close each card by the builder's one call (the guide's Derived/Test/ToyasCard.lean, 'card_holds'). Laid BY PROGRAM, IN A SANDBOX (cutbox-door.mjs). By AI agents, Wed Nov 11 2026. No macro, syntax, notation, axiom, sorry.
-/
import Derived.Test.YtjfcgkfgpemheaaDoorRows
import GoSem.ClaimSeven
namespace Go.Proofs.YtjfcgkfgpemheaaDoor
namespace Rows

/-- THE TIED CARD OF 'laws.FnScales'. -/
def fnScalesCard : Claim7 := { stood := { row := fnScalesRow, standIns := [], harness := (true, "2bd14719d5ffbba495cdd988c08f4a11b3c3802dc49b5cac9fc643189ae8823a"), looks := false }, kinds := [], alts := [], laidByText := true, laidKinds := [.data], laidTests := true, laidLooks := .later }
def FnScalesCardSaid : Prop := Claim7.holds Tryd.pinned (.plain (OpenSpec.ofChange fnScalesSpec)) fnScalesCard

/-- THE TIED CARD OF 'laws.FnPlaces'. -/
def fnPlacesCard : Claim7 := { stood := { row := fnPlacesRow, standIns := [], harness := (true, "2bd14719d5ffbba495cdd988c08f4a11b3c3802dc49b5cac9fc643189ae8823a"), looks := false }, kinds := [], alts := [], laidByText := true, laidKinds := [.data, .data], laidTests := true, laidLooks := .later }
def FnPlacesCardSaid : Prop := Claim7.holds Tryd.pinned (.plain (OpenSpec.ofChange fnPlacesSpec)) fnPlacesCard

/-- THE TIED CARD OF 'laws.FnExactPositionOf'. -/
def fnExactPositionOfCard : Claim7 := { stood := { row := fnExactPositionOfRow, standIns := [], harness := (true, "2bd14719d5ffbba495cdd988c08f4a11b3c3802dc49b5cac9fc643189ae8823a"), looks := false }, kinds := [], alts := [], laidByText := true, laidKinds := [.data], laidTests := true, laidLooks := .later }
def FnExactPositionOfCardSaid : Prop := Claim7.holds Tryd.pinned (.plain (OpenSpec.ofChange fnExactPositionOfSpec)) fnExactPositionOfCard

/-- THE TIED CARD OF 'laws.FnExactPlaceOf'. -/
def fnExactPlaceOfCard : Claim7 := { stood := { row := fnExactPlaceOfRow, standIns := [], harness := (true, "2bd14719d5ffbba495cdd988c08f4a11b3c3802dc49b5cac9fc643189ae8823a"), looks := false }, kinds := [], alts := [], laidByText := true, laidKinds := [.data], laidTests := true, laidLooks := .later }
def FnExactPlaceOfCardSaid : Prop := Claim7.holds Tryd.pinned (.plain (OpenSpec.ofChange fnExactPlaceOfSpec)) fnExactPlaceOfCard

/-- THE TIED CARD OF 'laws.FnExactDistanceBetween'. -/
def fnExactDistanceBetweenCard : Claim7 := { stood := { row := fnExactDistanceBetweenRow, standIns := [], harness := (true, "2bd14719d5ffbba495cdd988c08f4a11b3c3802dc49b5cac9fc643189ae8823a"), looks := false }, kinds := [], alts := [], laidByText := true, laidKinds := [.data], laidTests := true, laidLooks := .later }
def FnExactDistanceBetweenCardSaid : Prop := Claim7.holds Tryd.pinned (.plain (OpenSpec.ofChange fnExactDistanceBetweenSpec)) fnExactDistanceBetweenCard

/-- THE TIED CARD OF 'laws.FnExactScaleName'. -/
def fnExactScaleNameCard : Claim7 := { stood := { row := fnExactScaleNameRow, standIns := [], harness := (true, "2bd14719d5ffbba495cdd988c08f4a11b3c3802dc49b5cac9fc643189ae8823a"), looks := false }, kinds := [], alts := [], laidByText := true, laidKinds := [.data], laidTests := true, laidLooks := .later }
def FnExactScaleNameCardSaid : Prop := Claim7.holds Tryd.pinned (.plain (OpenSpec.ofChange fnExactScaleNameSpec)) fnExactScaleNameCard

/-- THE TIED CARD OF 'laws.FnExactReadScale'. -/
def fnExactReadScaleCard : Claim7 := { stood := { row := fnExactReadScaleRow, standIns := [], harness := (true, "2bd14719d5ffbba495cdd988c08f4a11b3c3802dc49b5cac9fc643189ae8823a"), looks := false }, kinds := [], alts := [], laidByText := true, laidKinds := [.data], laidTests := true, laidLooks := .later }
def FnExactReadScaleCardSaid : Prop := Claim7.holds Tryd.pinned (.plain (OpenSpec.ofChange fnExactReadScaleSpec)) fnExactReadScaleCard

/-- THE TIED CARD OF 'laws.FnExactDecadesOf'. -/
def fnExactDecadesOfCard : Claim7 := { stood := { row := fnExactDecadesOfRow, standIns := [], harness := (true, "2bd14719d5ffbba495cdd988c08f4a11b3c3802dc49b5cac9fc643189ae8823a"), looks := false }, kinds := [], alts := [], laidByText := true, laidKinds := [.data], laidTests := true, laidLooks := .later }
def FnExactDecadesOfCardSaid : Prop := Claim7.holds Tryd.pinned (.plain (OpenSpec.ofChange fnExactDecadesOfSpec)) fnExactDecadesOfCard

/-- THE SECOND FORM's CARD OF 'laws.FnScales'. -/
def fnScalesUptoCard : Claim7 := { stood := { row := fnScalesUptoRow, standIns := [], harness := (true, "2bd14719d5ffbba495cdd988c08f4a11b3c3802dc49b5cac9fc643189ae8823a"), looks := false }, kinds := [], alts := [], laidByText := true, laidKinds := [.data], laidTests := true, laidLooks := .later }
def FnScalesUptoCardSaid : Prop := Claim7.holds Tryd.pinned (.plain (OpenSpec.upto fnScalesSpec)) fnScalesUptoCard

/-- THE SECOND FORM's CARD OF 'laws.FnPlaces'. -/
def fnPlacesUptoCard : Claim7 := { stood := { row := fnPlacesUptoRow, standIns := [], harness := (true, "2bd14719d5ffbba495cdd988c08f4a11b3c3802dc49b5cac9fc643189ae8823a"), looks := false }, kinds := [], alts := [], laidByText := true, laidKinds := [.data, .data], laidTests := true, laidLooks := .later }
def FnPlacesUptoCardSaid : Prop := Claim7.holds Tryd.pinned (.plain (OpenSpec.upto fnPlacesSpec)) fnPlacesUptoCard

/-- THE SECOND FORM's CARD OF 'laws.FnExactPositionOf'. -/
def fnExactPositionOfUptoCard : Claim7 := { stood := { row := fnExactPositionOfUptoRow, standIns := [], harness := (true, "2bd14719d5ffbba495cdd988c08f4a11b3c3802dc49b5cac9fc643189ae8823a"), looks := false }, kinds := [], alts := [], laidByText := true, laidKinds := [.data], laidTests := true, laidLooks := .later }
def FnExactPositionOfUptoCardSaid : Prop := Claim7.holds Tryd.pinned (.plain (OpenSpec.upto fnExactPositionOfSpec)) fnExactPositionOfUptoCard

/-- THE SECOND FORM's CARD OF 'laws.FnExactPlaceOf'. -/
def fnExactPlaceOfUptoCard : Claim7 := { stood := { row := fnExactPlaceOfUptoRow, standIns := [], harness := (true, "2bd14719d5ffbba495cdd988c08f4a11b3c3802dc49b5cac9fc643189ae8823a"), looks := false }, kinds := [], alts := [], laidByText := true, laidKinds := [.data], laidTests := true, laidLooks := .later }
def FnExactPlaceOfUptoCardSaid : Prop := Claim7.holds Tryd.pinned (.plain (OpenSpec.upto fnExactPlaceOfSpec)) fnExactPlaceOfUptoCard

/-- THE SECOND FORM's CARD OF 'laws.FnExactDistanceBetween'. -/
def fnExactDistanceBetweenUptoCard : Claim7 := { stood := { row := fnExactDistanceBetweenUptoRow, standIns := [], harness := (true, "2bd14719d5ffbba495cdd988c08f4a11b3c3802dc49b5cac9fc643189ae8823a"), looks := false }, kinds := [], alts := [], laidByText := true, laidKinds := [.data], laidTests := true, laidLooks := .later }
def FnExactDistanceBetweenUptoCardSaid : Prop := Claim7.holds Tryd.pinned (.plain (OpenSpec.upto fnExactDistanceBetweenSpec)) fnExactDistanceBetweenUptoCard

/-- THE SECOND FORM's CARD OF 'laws.FnExactScaleName'. -/
def fnExactScaleNameUptoCard : Claim7 := { stood := { row := fnExactScaleNameUptoRow, standIns := [], harness := (true, "2bd14719d5ffbba495cdd988c08f4a11b3c3802dc49b5cac9fc643189ae8823a"), looks := false }, kinds := [], alts := [], laidByText := true, laidKinds := [.data], laidTests := true, laidLooks := .later }
def FnExactScaleNameUptoCardSaid : Prop := Claim7.holds Tryd.pinned (.plain (OpenSpec.upto fnExactScaleNameSpec)) fnExactScaleNameUptoCard

/-- THE SECOND FORM's CARD OF 'laws.FnExactReadScale'. -/
def fnExactReadScaleUptoCard : Claim7 := { stood := { row := fnExactReadScaleUptoRow, standIns := [], harness := (true, "2bd14719d5ffbba495cdd988c08f4a11b3c3802dc49b5cac9fc643189ae8823a"), looks := false }, kinds := [], alts := [], laidByText := true, laidKinds := [.data], laidTests := true, laidLooks := .later }
def FnExactReadScaleUptoCardSaid : Prop := Claim7.holds Tryd.pinned (.plain (OpenSpec.upto fnExactReadScaleSpec)) fnExactReadScaleUptoCard

/-- THE SECOND FORM's CARD OF 'laws.FnExactDecadesOf'. -/
def fnExactDecadesOfUptoCard : Claim7 := { stood := { row := fnExactDecadesOfUptoRow, standIns := [], harness := (true, "2bd14719d5ffbba495cdd988c08f4a11b3c3802dc49b5cac9fc643189ae8823a"), looks := false }, kinds := [], alts := [], laidByText := true, laidKinds := [.data], laidTests := true, laidLooks := .later }
def FnExactDecadesOfUptoCardSaid : Prop := Claim7.holds Tryd.pinned (.plain (OpenSpec.upto fnExactDecadesOfSpec)) fnExactDecadesOfUptoCard
end Rows
end Go.Proofs.YtjfcgkfgpemheaaDoor
