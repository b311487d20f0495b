/-
  DERIVED. GIVEN WITH THE SEED: THE CARDS: each row of YtjpkhbcomcailaaDoorRows.lean that lists a variable, with what it lists TIED to the program's text (the seventh form; the later family's looks); each row that meets fmt, with fmt's text TOLD by the authors' own Lean function (tested against real Go, not proved from fmt's source: count such statements apart). THE CARD IS WHAT COUNTS. Prove the row's statement (the work); the ties are given (YtjpkhbcomcailaaDoorTie.lean); close each card by the builder's one call (the guide's Derived/Test/ToyasCard.lean, 'card_holds'). Laid BY PROGRAM, IN A SANDBOX (cutbox-door.mjs). By AI agents, Wed Nov 11 2026. No macro, syntax, notation, axiom, sorry.
-/
import Derived.Test.YtjpkhbcomcailaaDoorRows
import GoSem.ClaimSeven
namespace Go.Proofs.YtjpkhbcomcailaaDoor
namespace Rows

/-- THE TIED CARD OF 'laws.FnChosen'. -/
def fnChosenCard : Claim7 := { stood := { row := fnChosenRow, standIns := [], harness := (true, "1a746305f0b883d5841e1a419120f9113d1381dfc827f8cf8a4ecdf71c852472"), looks := true }, kinds := [], alts := [], laidByText := true, laidKinds := [.data, .data, .data], laidTests := true, laidLooks := .later }
def FnChosenCardSaid : Prop := Claim7.holds Tryd.pinned (.plain (OpenSpec.ofChange fnChosenSpec)) fnChosenCard

/-- THE TIED CARD OF 'laws.FnGraduationTexts'. -/
def fnGraduationTextsCard : Claim7 := { stood := { row := fnGraduationTextsRow, standIns := [], harness := (true, "1a746305f0b883d5841e1a419120f9113d1381dfc827f8cf8a4ecdf71c852472"), looks := true }, kinds := [], alts := [], laidByText := true, laidKinds := [.data, .data, .data, .data, .sentinel, .sentinel, .pinned], laidTests := true, laidLooks := .later }
def FnGraduationTextsCardSaid : Prop := Claim7.holds Tryd.pinned (.plain (OpenSpec.ofChange fnGraduationTextsSpec)) fnGraduationTextsCard

/-- THE TIED CARD OF 'laws.FnExactLeastDistance'. -/
def fnExactLeastDistanceCard : Claim7 := { stood := { row := fnExactLeastDistanceRow, standIns := [], harness := (true, "1a746305f0b883d5841e1a419120f9113d1381dfc827f8cf8a4ecdf71c852472"), looks := true }, kinds := [], alts := [], laidByText := true, laidKinds := [.data], laidTests := true, laidLooks := .later }
def FnExactLeastDistanceCardSaid : Prop := Claim7.holds Tryd.pinned (.plain (OpenSpec.ofChange fnExactLeastDistanceSpec)) fnExactLeastDistanceCard

/-- THE TIED CARD OF 'laws.FnExactFinestStep'. -/
def fnExactFinestStepCard : Claim7 := { stood := { row := fnExactFinestStepRow, standIns := [], harness := (true, "1a746305f0b883d5841e1a419120f9113d1381dfc827f8cf8a4ecdf71c852472"), looks := true }, kinds := [], alts := [], laidByText := true, laidKinds := [.data, .data], laidTests := true, laidLooks := .later }
def FnExactFinestStepCardSaid : Prop := Claim7.holds Tryd.pinned (.plain (OpenSpec.ofChange fnExactFinestStepSpec)) fnExactFinestStepCard

/-- THE TIED CARD OF 'laws.FnExactChooseGraduation'. -/
def fnExactChooseGraduationCard : Claim7 := { stood := { row := fnExactChooseGraduationRow, standIns := [], harness := (true, "1a746305f0b883d5841e1a419120f9113d1381dfc827f8cf8a4ecdf71c852472"), looks := true }, kinds := [], alts := [], laidByText := true, laidKinds := [.data, .data, .data], laidTests := true, laidLooks := .later }
def FnExactChooseGraduationCardSaid : Prop := Claim7.holds Tryd.pinned (.plain (OpenSpec.ofChange fnExactChooseGraduationSpec)) fnExactChooseGraduationCard

/-- THE TIED CARD OF 'laws.FnExactGraduationText'. -/
def fnExactGraduationTextCard : Claim7 := { stood := { row := fnExactGraduationTextRow, standIns := [], harness := (true, "1a746305f0b883d5841e1a419120f9113d1381dfc827f8cf8a4ecdf71c852472"), looks := true }, kinds := [], alts := [], laidByText := true, laidKinds := [.data, .data, .data], laidTests := true, laidLooks := .later }
def FnExactGraduationTextCardSaid : Prop := Claim7.holds Tryd.pinned (.plain (OpenSpec.ofChange fnExactGraduationTextSpec)) fnExactGraduationTextCard

/-- THE TIED CARD OF 'laws.FnExactReadGraduation'. -/
def fnExactReadGraduationCard : Claim7 := { stood := { row := fnExactReadGraduationRow, standIns := [], harness := (true, "1a746305f0b883d5841e1a419120f9113d1381dfc827f8cf8a4ecdf71c852472"), looks := true }, kinds := [], alts := [], laidByText := true, laidKinds := [.data, .data, .data, .data, .sentinel, .sentinel, .pinned], laidTests := true, laidLooks := .later }
def FnExactReadGraduationCardSaid : Prop := Claim7.holds Tryd.pinned (.plain (OpenSpec.ofChange fnExactReadGraduationSpec)) fnExactReadGraduationCard

/-- THE SECOND FORM's CARD OF 'laws.FnChosen'. -/
def fnChosenUptoCard : Claim7 := { stood := { row := fnChosenUptoRow, standIns := [], harness := (true, "1a746305f0b883d5841e1a419120f9113d1381dfc827f8cf8a4ecdf71c852472"), looks := true }, kinds := [], alts := [], laidByText := true, laidKinds := [.data, .data, .data], laidTests := true, laidLooks := .later }
def FnChosenUptoCardSaid : Prop := Claim7.holds Tryd.pinned (.plain (OpenSpec.upto fnChosenSpec)) fnChosenUptoCard

/-- THE SECOND FORM's CARD OF 'laws.FnGraduationTexts'. -/
def fnGraduationTextsUptoCard : Claim7 := { stood := { row := fnGraduationTextsUptoRow, standIns := [], harness := (true, "1a746305f0b883d5841e1a419120f9113d1381dfc827f8cf8a4ecdf71c852472"), looks := true }, kinds := [], alts := [], laidByText := true, laidKinds := [.data, .data, .data, .data, .sentinel, .sentinel, .pinned], laidTests := true, laidLooks := .later }
def FnGraduationTextsUptoCardSaid : Prop := Claim7.holds Tryd.pinned (.plain (OpenSpec.upto fnGraduationTextsSpec)) fnGraduationTextsUptoCard

/-- THE SECOND FORM's CARD OF 'laws.FnExactLeastDistance'. -/
def fnExactLeastDistanceUptoCard : Claim7 := { stood := { row := fnExactLeastDistanceUptoRow, standIns := [], harness := (true, "1a746305f0b883d5841e1a419120f9113d1381dfc827f8cf8a4ecdf71c852472"), looks := true }, kinds := [], alts := [], laidByText := true, laidKinds := [.data], laidTests := true, laidLooks := .later }
def FnExactLeastDistanceUptoCardSaid : Prop := Claim7.holds Tryd.pinned (.plain (OpenSpec.upto fnExactLeastDistanceSpec)) fnExactLeastDistanceUptoCard

/-- THE SECOND FORM's CARD OF 'laws.FnExactFinestStep'. -/
def fnExactFinestStepUptoCard : Claim7 := { stood := { row := fnExactFinestStepUptoRow, standIns := [], harness := (true, "1a746305f0b883d5841e1a419120f9113d1381dfc827f8cf8a4ecdf71c852472"), looks := true }, kinds := [], alts := [], laidByText := true, laidKinds := [.data, .data], laidTests := true, laidLooks := .later }
def FnExactFinestStepUptoCardSaid : Prop := Claim7.holds Tryd.pinned (.plain (OpenSpec.upto fnExactFinestStepSpec)) fnExactFinestStepUptoCard

/-- THE SECOND FORM's CARD OF 'laws.FnExactChooseGraduation'. -/
def fnExactChooseGraduationUptoCard : Claim7 := { stood := { row := fnExactChooseGraduationUptoRow, standIns := [], harness := (true, "1a746305f0b883d5841e1a419120f9113d1381dfc827f8cf8a4ecdf71c852472"), looks := true }, kinds := [], alts := [], laidByText := true, laidKinds := [.data, .data, .data], laidTests := true, laidLooks := .later }
def FnExactChooseGraduationUptoCardSaid : Prop := Claim7.holds Tryd.pinned (.plain (OpenSpec.upto fnExactChooseGraduationSpec)) fnExactChooseGraduationUptoCard

/-- THE SECOND FORM's CARD OF 'laws.FnExactGraduationText'. -/
def fnExactGraduationTextUptoCard : Claim7 := { stood := { row := fnExactGraduationTextUptoRow, standIns := [], harness := (true, "1a746305f0b883d5841e1a419120f9113d1381dfc827f8cf8a4ecdf71c852472"), looks := true }, kinds := [], alts := [], laidByText := true, laidKinds := [.data, .data, .data], laidTests := true, laidLooks := .later }
def FnExactGraduationTextUptoCardSaid : Prop := Claim7.holds Tryd.pinned (.plain (OpenSpec.upto fnExactGraduationTextSpec)) fnExactGraduationTextUptoCard

/-- THE SECOND FORM's CARD OF 'laws.FnExactReadGraduation'. -/
def fnExactReadGraduationUptoCard : Claim7 := { stood := { row := fnExactReadGraduationUptoRow, standIns := [], harness := (true, "1a746305f0b883d5841e1a419120f9113d1381dfc827f8cf8a4ecdf71c852472"), looks := true }, kinds := [], alts := [], laidByText := true, laidKinds := [.data, .data, .data, .data, .sentinel, .sentinel, .pinned], laidTests := true, laidLooks := .later }
def FnExactReadGraduationUptoCardSaid : Prop := Claim7.holds Tryd.pinned (.plain (OpenSpec.upto fnExactReadGraduationSpec)) fnExactReadGraduationUptoCard
end Rows
end Go.Proofs.YtjpkhbcomcailaaDoor
