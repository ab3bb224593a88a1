/-
  DERIVED. GIVEN WITH THE SEED: THE CARDS: each row of YtliflkhoejngdaaDoorRows.lean that lists a variable, with what it lists TIED to the program's text (the seventh form; the later family's looks); each row that meets fmt, with fmt's text TOLD by the authors' own Lean function (tested against real Go, not proved from fmt's source: count such statements apart). THE CARD IS WHAT COUNTS. Prove the row's statement (the work); the ties are given (YtliflkhoejngdaaDoorTie.lean); close each card by the builder's one call (the guide's Derived/Test/ToyasCard.lean, 'card_holds'). Laid BY PROGRAM, IN A SANDBOX (cutbox-door.mjs). By AI agents, Wed Nov 11 2026. No macro, syntax, notation, axiom, sorry.
-/
import Derived.Test.YtliflkhoejngdaaDoorRows
import GoSem.ClaimSeven
namespace Go.Proofs.YtliflkhoejngdaaDoor
namespace Rows

/-- THE TIED CARD OF 'laws.FnExactRepairCells'. -/
def fnExactRepairCellsCard : Claim7 := { stood := { row := fnExactRepairCellsRow, standIns := [], harness := (true, "bdd4a157169e190020e2a6bd13ee4d0a4aa8ff027bb68874a0478f5922ea56a6"), looks := true }, kinds := [], alts := [], laidByText := true, laidKinds := [.data, .sentinel, .sentinel, .sentinel, .sentinel, .sentinel, .sentinel], laidTests := true, laidLooks := .later }
def FnExactRepairCellsCardSaid : Prop := Claim7.holds Tryd.pinned (.plain (OpenSpec.ofChange fnExactRepairCellsSpec)) fnExactRepairCellsCard

/-- THE TIED CARD OF 'laws.FnExactDarkestFrame'. -/
def fnExactDarkestFrameCard : Claim7 := { stood := { row := fnExactDarkestFrameRow, standIns := [], harness := (true, "bdd4a157169e190020e2a6bd13ee4d0a4aa8ff027bb68874a0478f5922ea56a6"), looks := true }, kinds := [], alts := [], laidByText := true, laidKinds := [.data, .sentinel, .sentinel, .sentinel, .sentinel, .sentinel, .sentinel], laidTests := true, laidLooks := .later }
def FnExactDarkestFrameCardSaid : Prop := Claim7.holds Tryd.pinned (.plain (OpenSpec.ofChange fnExactDarkestFrameSpec)) fnExactDarkestFrameCard

/-- THE TIED CARD OF 'laws.FnExactBestOfCopies'. -/
def fnExactBestOfCopiesCard : Claim7 := { stood := { row := fnExactBestOfCopiesRow, standIns := [], harness := (true, "bdd4a157169e190020e2a6bd13ee4d0a4aa8ff027bb68874a0478f5922ea56a6"), looks := true }, kinds := [], alts := [], laidByText := true, laidKinds := [.data, .sentinel, .sentinel, .sentinel, .sentinel, .sentinel, .sentinel], laidTests := true, laidLooks := .later }
def FnExactBestOfCopiesCardSaid : Prop := Claim7.holds Tryd.pinned (.plain (OpenSpec.ofChange fnExactBestOfCopiesSpec)) fnExactBestOfCopiesCard

/-- THE TIED CARD OF 'laws.FnExactMedianPrint'. -/
def fnExactMedianPrintCard : Claim7 := { stood := { row := fnExactMedianPrintRow, standIns := [], harness := (true, "bdd4a157169e190020e2a6bd13ee4d0a4aa8ff027bb68874a0478f5922ea56a6"), looks := true }, kinds := [], alts := [], laidByText := true, laidKinds := [.sentinel, .sentinel, .sentinel, .sentinel, .sentinel, .sentinel], laidTests := true, laidLooks := .later }
def FnExactMedianPrintCardSaid : Prop := Claim7.holds Tryd.pinned (.plain (OpenSpec.ofChange fnExactMedianPrintSpec)) fnExactMedianPrintCard

/-- THE TIED CARD OF 'laws.FnExactSwapFrames'. -/
def fnExactSwapFramesCard : Claim7 := { stood := { row := fnExactSwapFramesRow, standIns := [], harness := (true, "bdd4a157169e190020e2a6bd13ee4d0a4aa8ff027bb68874a0478f5922ea56a6"), looks := true }, kinds := [], alts := [], laidByText := true, laidKinds := [.sentinel, .sentinel, .sentinel, .sentinel, .sentinel, .sentinel], laidTests := true, laidLooks := .later }
def FnExactSwapFramesCardSaid : Prop := Claim7.holds Tryd.pinned (.plain (OpenSpec.ofChange fnExactSwapFramesSpec)) fnExactSwapFramesCard

/-- THE TIED CARD OF 'laws.FnExactDropFrame'. -/
def fnExactDropFrameCard : Claim7 := { stood := { row := fnExactDropFrameRow, standIns := [], harness := (true, "bdd4a157169e190020e2a6bd13ee4d0a4aa8ff027bb68874a0478f5922ea56a6"), looks := true }, kinds := [], alts := [], laidByText := true, laidKinds := [.sentinel, .sentinel, .sentinel, .sentinel, .sentinel, .sentinel], laidTests := true, laidLooks := .later }
def FnExactDropFrameCardSaid : Prop := Claim7.holds Tryd.pinned (.plain (OpenSpec.ofChange fnExactDropFrameSpec)) fnExactDropFrameCard

/-- THE TIED CARD OF 'laws.FnExactPickFrames'. -/
def fnExactPickFramesCard : Claim7 := { stood := { row := fnExactPickFramesRow, standIns := [], harness := (true, "bdd4a157169e190020e2a6bd13ee4d0a4aa8ff027bb68874a0478f5922ea56a6"), looks := true }, kinds := [], alts := [], laidByText := true, laidKinds := [.sentinel, .sentinel, .sentinel, .sentinel, .sentinel, .sentinel], laidTests := true, laidLooks := .later }
def FnExactPickFramesCardSaid : Prop := Claim7.holds Tryd.pinned (.plain (OpenSpec.ofChange fnExactPickFramesSpec)) fnExactPickFramesCard

/-- THE TIED CARD OF 'laws.FnExactDustIn'. -/
def fnExactDustInCard : Claim7 := { stood := { row := fnExactDustInRow, standIns := [], harness := (true, "bdd4a157169e190020e2a6bd13ee4d0a4aa8ff027bb68874a0478f5922ea56a6"), looks := true }, kinds := [], alts := [], laidByText := true, laidKinds := [.sentinel, .sentinel, .sentinel, .sentinel, .sentinel, .sentinel], laidTests := true, laidLooks := .later }
def FnExactDustInCardSaid : Prop := Claim7.holds Tryd.pinned (.plain (OpenSpec.ofChange fnExactDustInSpec)) fnExactDustInCard

/-- THE TIED CARD OF 'laws.FnExactCleanestCopy'. -/
def fnExactCleanestCopyCard : Claim7 := { stood := { row := fnExactCleanestCopyRow, standIns := [], harness := (true, "bdd4a157169e190020e2a6bd13ee4d0a4aa8ff027bb68874a0478f5922ea56a6"), looks := true }, kinds := [], alts := [], laidByText := true, laidKinds := [.sentinel, .sentinel, .sentinel, .sentinel, .sentinel, .sentinel], laidTests := true, laidLooks := .later }
def FnExactCleanestCopyCardSaid : Prop := Claim7.holds Tryd.pinned (.plain (OpenSpec.ofChange fnExactCleanestCopySpec)) fnExactCleanestCopyCard

/-- THE TIED CARD OF 'laws.FnExactReadMask'. -/
def fnExactReadMaskCard : Claim7 := { stood := { row := fnExactReadMaskRow, standIns := [], harness := (true, "bdd4a157169e190020e2a6bd13ee4d0a4aa8ff027bb68874a0478f5922ea56a6"), looks := true }, kinds := [], alts := [], laidByText := true, laidKinds := [.data, .sentinel, .sentinel, .sentinel, .sentinel, .sentinel, .sentinel, .pinned], laidTests := true, laidLooks := .later }
def FnExactReadMaskCardSaid : Prop := Claim7.holds Tryd.pinned (.plain (OpenSpec.ofChange fnExactReadMaskSpec)) fnExactReadMaskCard

/-- THE TIED CARD OF 'laws.FnFrames'. -/
def fnFramesCard : Claim7 := { stood := { row := fnFramesRow, standIns := [], harness := (true, "bdd4a157169e190020e2a6bd13ee4d0a4aa8ff027bb68874a0478f5922ea56a6"), looks := true }, kinds := [], alts := [], laidByText := true, laidKinds := [.data, .sentinel, .sentinel, .sentinel, .sentinel, .sentinel, .sentinel], laidTests := true, laidLooks := .later }
def FnFramesCardSaid : Prop := Claim7.holds Tryd.pinned (.plain (OpenSpec.ofChange fnFramesSpec)) fnFramesCard

/-- THE TIED CARD OF 'laws.FnExactFewestCopies'. -/
def fnExactFewestCopiesCard : Claim7 := { stood := { row := fnExactFewestCopiesRow, standIns := [], harness := (true, "bdd4a157169e190020e2a6bd13ee4d0a4aa8ff027bb68874a0478f5922ea56a6"), looks := true }, kinds := [], alts := [], laidByText := true, laidKinds := [.sentinel, .sentinel, .sentinel, .sentinel, .sentinel, .sentinel], laidTests := true, laidLooks := .later }
def FnExactFewestCopiesCardSaid : Prop := Claim7.holds Tryd.pinned (.plain (OpenSpec.ofChange fnExactFewestCopiesSpec)) fnExactFewestCopiesCard

/-- THE SECOND FORM's CARD OF 'laws.FnExactRepairCells'. -/
def fnExactRepairCellsUptoCard : Claim7 := { stood := { row := fnExactRepairCellsUptoRow, standIns := [], harness := (true, "bdd4a157169e190020e2a6bd13ee4d0a4aa8ff027bb68874a0478f5922ea56a6"), looks := true }, kinds := [], alts := [], laidByText := true, laidKinds := [.data, .sentinel, .sentinel, .sentinel, .sentinel, .sentinel, .sentinel], laidTests := true, laidLooks := .later }
def FnExactRepairCellsUptoCardSaid : Prop := Claim7.holds Tryd.pinned (.plain (OpenSpec.upto fnExactRepairCellsSpec)) fnExactRepairCellsUptoCard

/-- THE SECOND FORM's CARD OF 'laws.FnExactDarkestFrame'. -/
def fnExactDarkestFrameUptoCard : Claim7 := { stood := { row := fnExactDarkestFrameUptoRow, standIns := [], harness := (true, "bdd4a157169e190020e2a6bd13ee4d0a4aa8ff027bb68874a0478f5922ea56a6"), looks := true }, kinds := [], alts := [], laidByText := true, laidKinds := [.data, .sentinel, .sentinel, .sentinel, .sentinel, .sentinel, .sentinel], laidTests := true, laidLooks := .later }
def FnExactDarkestFrameUptoCardSaid : Prop := Claim7.holds Tryd.pinned (.plain (OpenSpec.upto fnExactDarkestFrameSpec)) fnExactDarkestFrameUptoCard

/-- THE SECOND FORM's CARD OF 'laws.FnExactBestOfCopies'. -/
def fnExactBestOfCopiesUptoCard : Claim7 := { stood := { row := fnExactBestOfCopiesUptoRow, standIns := [], harness := (true, "bdd4a157169e190020e2a6bd13ee4d0a4aa8ff027bb68874a0478f5922ea56a6"), looks := true }, kinds := [], alts := [], laidByText := true, laidKinds := [.data, .sentinel, .sentinel, .sentinel, .sentinel, .sentinel, .sentinel], laidTests := true, laidLooks := .later }
def FnExactBestOfCopiesUptoCardSaid : Prop := Claim7.holds Tryd.pinned (.plain (OpenSpec.upto fnExactBestOfCopiesSpec)) fnExactBestOfCopiesUptoCard

/-- THE SECOND FORM's CARD OF 'laws.FnExactMedianPrint'. -/
def fnExactMedianPrintUptoCard : Claim7 := { stood := { row := fnExactMedianPrintUptoRow, standIns := [], harness := (true, "bdd4a157169e190020e2a6bd13ee4d0a4aa8ff027bb68874a0478f5922ea56a6"), looks := true }, kinds := [], alts := [], laidByText := true, laidKinds := [.sentinel, .sentinel, .sentinel, .sentinel, .sentinel, .sentinel], laidTests := true, laidLooks := .later }
def FnExactMedianPrintUptoCardSaid : Prop := Claim7.holds Tryd.pinned (.plain (OpenSpec.upto fnExactMedianPrintSpec)) fnExactMedianPrintUptoCard

/-- THE SECOND FORM's CARD OF 'laws.FnExactSwapFrames'. -/
def fnExactSwapFramesUptoCard : Claim7 := { stood := { row := fnExactSwapFramesUptoRow, standIns := [], harness := (true, "bdd4a157169e190020e2a6bd13ee4d0a4aa8ff027bb68874a0478f5922ea56a6"), looks := true }, kinds := [], alts := [], laidByText := true, laidKinds := [.sentinel, .sentinel, .sentinel, .sentinel, .sentinel, .sentinel], laidTests := true, laidLooks := .later }
def FnExactSwapFramesUptoCardSaid : Prop := Claim7.holds Tryd.pinned (.plain (OpenSpec.upto fnExactSwapFramesSpec)) fnExactSwapFramesUptoCard

/-- THE SECOND FORM's CARD OF 'laws.FnExactDropFrame'. -/
def fnExactDropFrameUptoCard : Claim7 := { stood := { row := fnExactDropFrameUptoRow, standIns := [], harness := (true, "bdd4a157169e190020e2a6bd13ee4d0a4aa8ff027bb68874a0478f5922ea56a6"), looks := true }, kinds := [], alts := [], laidByText := true, laidKinds := [.sentinel, .sentinel, .sentinel, .sentinel, .sentinel, .sentinel], laidTests := true, laidLooks := .later }
def FnExactDropFrameUptoCardSaid : Prop := Claim7.holds Tryd.pinned (.plain (OpenSpec.upto fnExactDropFrameSpec)) fnExactDropFrameUptoCard

/-- THE SECOND FORM's CARD OF 'laws.FnExactPickFrames'. -/
def fnExactPickFramesUptoCard : Claim7 := { stood := { row := fnExactPickFramesUptoRow, standIns := [], harness := (true, "bdd4a157169e190020e2a6bd13ee4d0a4aa8ff027bb68874a0478f5922ea56a6"), looks := true }, kinds := [], alts := [], laidByText := true, laidKinds := [.sentinel, .sentinel, .sentinel, .sentinel, .sentinel, .sentinel], laidTests := true, laidLooks := .later }
def FnExactPickFramesUptoCardSaid : Prop := Claim7.holds Tryd.pinned (.plain (OpenSpec.upto fnExactPickFramesSpec)) fnExactPickFramesUptoCard

/-- THE SECOND FORM's CARD OF 'laws.FnExactDustIn'. -/
def fnExactDustInUptoCard : Claim7 := { stood := { row := fnExactDustInUptoRow, standIns := [], harness := (true, "bdd4a157169e190020e2a6bd13ee4d0a4aa8ff027bb68874a0478f5922ea56a6"), looks := true }, kinds := [], alts := [], laidByText := true, laidKinds := [.sentinel, .sentinel, .sentinel, .sentinel, .sentinel, .sentinel], laidTests := true, laidLooks := .later }
def FnExactDustInUptoCardSaid : Prop := Claim7.holds Tryd.pinned (.plain (OpenSpec.upto fnExactDustInSpec)) fnExactDustInUptoCard

/-- THE SECOND FORM's CARD OF 'laws.FnExactCleanestCopy'. -/
def fnExactCleanestCopyUptoCard : Claim7 := { stood := { row := fnExactCleanestCopyUptoRow, standIns := [], harness := (true, "bdd4a157169e190020e2a6bd13ee4d0a4aa8ff027bb68874a0478f5922ea56a6"), looks := true }, kinds := [], alts := [], laidByText := true, laidKinds := [.sentinel, .sentinel, .sentinel, .sentinel, .sentinel, .sentinel], laidTests := true, laidLooks := .later }
def FnExactCleanestCopyUptoCardSaid : Prop := Claim7.holds Tryd.pinned (.plain (OpenSpec.upto fnExactCleanestCopySpec)) fnExactCleanestCopyUptoCard

/-- THE SECOND FORM's CARD OF 'laws.FnExactReadMask'. -/
def fnExactReadMaskUptoCard : Claim7 := { stood := { row := fnExactReadMaskUptoRow, standIns := [], harness := (true, "bdd4a157169e190020e2a6bd13ee4d0a4aa8ff027bb68874a0478f5922ea56a6"), looks := true }, kinds := [], alts := [], laidByText := true, laidKinds := [.data, .sentinel, .sentinel, .sentinel, .sentinel, .sentinel, .sentinel, .pinned], laidTests := true, laidLooks := .later }
def FnExactReadMaskUptoCardSaid : Prop := Claim7.holds Tryd.pinned (.plain (OpenSpec.upto fnExactReadMaskSpec)) fnExactReadMaskUptoCard

/-- THE SECOND FORM's CARD OF 'laws.FnFrames'. -/
def fnFramesUptoCard : Claim7 := { stood := { row := fnFramesUptoRow, standIns := [], harness := (true, "bdd4a157169e190020e2a6bd13ee4d0a4aa8ff027bb68874a0478f5922ea56a6"), looks := true }, kinds := [], alts := [], laidByText := true, laidKinds := [.data, .sentinel, .sentinel, .sentinel, .sentinel, .sentinel, .sentinel], laidTests := true, laidLooks := .later }
def FnFramesUptoCardSaid : Prop := Claim7.holds Tryd.pinned (.plain (OpenSpec.upto fnFramesSpec)) fnFramesUptoCard

/-- THE SECOND FORM's CARD OF 'laws.FnExactFewestCopies'. -/
def fnExactFewestCopiesUptoCard : Claim7 := { stood := { row := fnExactFewestCopiesUptoRow, standIns := [], harness := (true, "bdd4a157169e190020e2a6bd13ee4d0a4aa8ff027bb68874a0478f5922ea56a6"), looks := true }, kinds := [], alts := [], laidByText := true, laidKinds := [.sentinel, .sentinel, .sentinel, .sentinel, .sentinel, .sentinel], laidTests := true, laidLooks := .later }
def FnExactFewestCopiesUptoCardSaid : Prop := Claim7.holds Tryd.pinned (.plain (OpenSpec.upto fnExactFewestCopiesSpec)) fnExactFewestCopiesUptoCard
end Rows
end Go.Proofs.YtliflkhoejngdaaDoor
