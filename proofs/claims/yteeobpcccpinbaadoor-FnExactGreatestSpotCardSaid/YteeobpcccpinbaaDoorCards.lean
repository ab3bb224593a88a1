/-
  DERIVED. GIVEN WITH THE SEED: THE CARDS: each row of YteeobpcccpinbaaDoorRows.lean that lists a variable, with what it lists TIED to the program's text (the seventh form; the later family's looks); each row that meets fmt, with fmt's text TOLD by the authors' own Lean function (tested against real Go, not proved from fmt's source: count such statements apart). THE CARD IS WHAT COUNTS. Prove the row's statement (the work); the ties are given (YteeobpcccpinbaaDoorTie.lean); close each card by the builder's one call (the guide's Derived/Test/ToyasCard.lean, 'card_holds'). Laid BY PROGRAM, IN A SANDBOX (cutbox-door.mjs). By AI agents, Wed Nov 11 2026. No macro, syntax, notation, axiom, sorry.
-/
import Derived.Test.YteeobpcccpinbaaDoorRows
import GoSem.ClaimSeven
namespace Go.Proofs.YteeobpcccpinbaaDoor
namespace Rows

/-- THE TIED CARD OF 'laws.FnExactMedianPrint'. -/
def fnExactMedianPrintCard : Claim7 := { stood := { row := fnExactMedianPrintRow, standIns := [], harness := (true, "a360eaf68724d42670eb9e83e80df1a2944e1be65393c962fd23f7417afe9baf"), looks := true }, kinds := [], alts := [], laidByText := true, laidKinds := [.sentinel, .sentinel, .sentinel, .sentinel, .sentinel, .sentinel], laidTests := true, laidLooks := .later }
def FnExactMedianPrintCardSaid : Prop := Claim7.holds Tryd.pinned (.plain (OpenSpec.ofChange fnExactMedianPrintSpec)) fnExactMedianPrintCard

/-- THE TIED CARD OF 'laws.FnExactScratchIn'. -/
def fnExactScratchInCard : Claim7 := { stood := { row := fnExactScratchInRow, standIns := [], harness := (true, "a360eaf68724d42670eb9e83e80df1a2944e1be65393c962fd23f7417afe9baf"), looks := true }, kinds := [], alts := [], laidByText := true, laidKinds := [.sentinel, .sentinel, .sentinel, .sentinel, .sentinel, .sentinel], laidTests := true, laidLooks := .later }
def FnExactScratchInCardSaid : Prop := Claim7.holds Tryd.pinned (.plain (OpenSpec.ofChange fnExactScratchInSpec)) fnExactScratchInCard

/-- THE TIED CARD OF 'laws.FnExactGreatestSpot'. -/
def fnExactGreatestSpotCard : Claim7 := { stood := { row := fnExactGreatestSpotRow, standIns := [], harness := (true, "a360eaf68724d42670eb9e83e80df1a2944e1be65393c962fd23f7417afe9baf"), looks := true }, kinds := [], alts := [], laidByText := true, laidKinds := [.sentinel, .sentinel, .sentinel, .sentinel, .sentinel, .sentinel], laidTests := true, laidLooks := .later }
def FnExactGreatestSpotCardSaid : Prop := Claim7.holds Tryd.pinned (.plain (OpenSpec.ofChange fnExactGreatestSpotSpec)) fnExactGreatestSpotCard

/-- THE TIED CARD OF 'laws.FnExactRepairCells'. -/
def fnExactRepairCellsCard : Claim7 := { stood := { row := fnExactRepairCellsRow, standIns := [], harness := (true, "a360eaf68724d42670eb9e83e80df1a2944e1be65393c962fd23f7417afe9baf"), looks := true }, kinds := [], alts := [], laidByText := true, laidKinds := [.data, .sentinel, .sentinel, .sentinel, .sentinel, .sentinel, .sentinel], laidTests := true, laidLooks := .later }
def FnExactRepairCellsCardSaid : Prop := Claim7.holds Tryd.pinned (.plain (OpenSpec.ofChange fnExactRepairCellsSpec)) fnExactRepairCellsCard

/-- THE TIED CARD OF 'laws.FnExactRoundsFor'. -/
def fnExactRoundsForCard : Claim7 := { stood := { row := fnExactRoundsForRow, standIns := [], harness := (true, "a360eaf68724d42670eb9e83e80df1a2944e1be65393c962fd23f7417afe9baf"), looks := true }, kinds := [], alts := [], laidByText := true, laidKinds := [.sentinel, .sentinel, .sentinel, .sentinel, .sentinel, .sentinel], laidTests := true, laidLooks := .later }
def FnExactRoundsForCardSaid : Prop := Claim7.holds Tryd.pinned (.plain (OpenSpec.ofChange fnExactRoundsForSpec)) fnExactRoundsForCard

/-- THE TIED CARD OF 'laws.FnExactReadMask'. -/
def fnExactReadMaskCard : Claim7 := { stood := { row := fnExactReadMaskRow, standIns := [], harness := (true, "a360eaf68724d42670eb9e83e80df1a2944e1be65393c962fd23f7417afe9baf"), looks := true }, kinds := [], alts := [], laidByText := true, laidKinds := [.data, .sentinel, .sentinel, .sentinel, .sentinel, .sentinel, .sentinel, .pinned], laidTests := true, laidLooks := .later }
def FnExactReadMaskCardSaid : Prop := Claim7.holds Tryd.pinned (.plain (OpenSpec.ofChange fnExactReadMaskSpec)) fnExactReadMaskCard

/-- THE TIED CARD OF 'laws.FnExactDustIn'. -/
def fnExactDustInCard : Claim7 := { stood := { row := fnExactDustInRow, standIns := [], harness := (true, "a360eaf68724d42670eb9e83e80df1a2944e1be65393c962fd23f7417afe9baf"), looks := true }, kinds := [], alts := [], laidByText := true, laidKinds := [.sentinel, .sentinel, .sentinel, .sentinel, .sentinel, .sentinel], laidTests := true, laidLooks := .later }
def FnExactDustInCardSaid : Prop := Claim7.holds Tryd.pinned (.plain (OpenSpec.ofChange fnExactDustInSpec)) fnExactDustInCard

/-- THE TIED CARD OF 'laws.FnExactCleanestCopy'. -/
def fnExactCleanestCopyCard : Claim7 := { stood := { row := fnExactCleanestCopyRow, standIns := [], harness := (true, "a360eaf68724d42670eb9e83e80df1a2944e1be65393c962fd23f7417afe9baf"), looks := true }, kinds := [], alts := [], laidByText := true, laidKinds := [.sentinel, .sentinel, .sentinel, .sentinel, .sentinel, .sentinel], laidTests := true, laidLooks := .later }
def FnExactCleanestCopyCardSaid : Prop := Claim7.holds Tryd.pinned (.plain (OpenSpec.ofChange fnExactCleanestCopySpec)) fnExactCleanestCopyCard

/-- THE TIED CARD OF 'laws.FnExactBestOfCopies'. -/
def fnExactBestOfCopiesCard : Claim7 := { stood := { row := fnExactBestOfCopiesRow, standIns := [], harness := (true, "a360eaf68724d42670eb9e83e80df1a2944e1be65393c962fd23f7417afe9baf"), looks := true }, kinds := [], alts := [], laidByText := true, laidKinds := [.data, .sentinel, .sentinel, .sentinel, .sentinel, .sentinel, .sentinel], laidTests := true, laidLooks := .later }
def FnExactBestOfCopiesCardSaid : Prop := Claim7.holds Tryd.pinned (.plain (OpenSpec.ofChange fnExactBestOfCopiesSpec)) fnExactBestOfCopiesCard

/-- THE TIED CARD OF 'laws.FnFrames'. -/
def fnFramesCard : Claim7 := { stood := { row := fnFramesRow, standIns := [], harness := (true, "a360eaf68724d42670eb9e83e80df1a2944e1be65393c962fd23f7417afe9baf"), looks := true }, kinds := [], alts := [], laidByText := true, laidKinds := [.data, .sentinel, .sentinel, .sentinel, .sentinel, .sentinel, .sentinel], laidTests := true, laidLooks := .later }
def FnFramesCardSaid : Prop := Claim7.holds Tryd.pinned (.plain (OpenSpec.ofChange fnFramesSpec)) fnFramesCard

/-- THE SECOND FORM's CARD OF 'laws.FnExactMedianPrint'. -/
def fnExactMedianPrintUptoCard : Claim7 := { stood := { row := fnExactMedianPrintUptoRow, standIns := [], harness := (true, "a360eaf68724d42670eb9e83e80df1a2944e1be65393c962fd23f7417afe9baf"), looks := true }, kinds := [], alts := [], laidByText := true, laidKinds := [.sentinel, .sentinel, .sentinel, .sentinel, .sentinel, .sentinel], laidTests := true, laidLooks := .later }
def FnExactMedianPrintUptoCardSaid : Prop := Claim7.holds Tryd.pinned (.plain (OpenSpec.upto fnExactMedianPrintSpec)) fnExactMedianPrintUptoCard

/-- THE SECOND FORM's CARD OF 'laws.FnExactScratchIn'. -/
def fnExactScratchInUptoCard : Claim7 := { stood := { row := fnExactScratchInUptoRow, standIns := [], harness := (true, "a360eaf68724d42670eb9e83e80df1a2944e1be65393c962fd23f7417afe9baf"), looks := true }, kinds := [], alts := [], laidByText := true, laidKinds := [.sentinel, .sentinel, .sentinel, .sentinel, .sentinel, .sentinel], laidTests := true, laidLooks := .later }
def FnExactScratchInUptoCardSaid : Prop := Claim7.holds Tryd.pinned (.plain (OpenSpec.upto fnExactScratchInSpec)) fnExactScratchInUptoCard

/-- THE SECOND FORM's CARD OF 'laws.FnExactGreatestSpot'. -/
def fnExactGreatestSpotUptoCard : Claim7 := { stood := { row := fnExactGreatestSpotUptoRow, standIns := [], harness := (true, "a360eaf68724d42670eb9e83e80df1a2944e1be65393c962fd23f7417afe9baf"), looks := true }, kinds := [], alts := [], laidByText := true, laidKinds := [.sentinel, .sentinel, .sentinel, .sentinel, .sentinel, .sentinel], laidTests := true, laidLooks := .later }
def FnExactGreatestSpotUptoCardSaid : Prop := Claim7.holds Tryd.pinned (.plain (OpenSpec.upto fnExactGreatestSpotSpec)) fnExactGreatestSpotUptoCard

/-- THE SECOND FORM's CARD OF 'laws.FnExactRepairCells'. -/
def fnExactRepairCellsUptoCard : Claim7 := { stood := { row := fnExactRepairCellsUptoRow, standIns := [], harness := (true, "a360eaf68724d42670eb9e83e80df1a2944e1be65393c962fd23f7417afe9baf"), looks := true }, kinds := [], alts := [], laidByText := true, laidKinds := [.data, .sentinel, .sentinel, .sentinel, .sentinel, .sentinel, .sentinel], laidTests := true, laidLooks := .later }
def FnExactRepairCellsUptoCardSaid : Prop := Claim7.holds Tryd.pinned (.plain (OpenSpec.upto fnExactRepairCellsSpec)) fnExactRepairCellsUptoCard

/-- THE SECOND FORM's CARD OF 'laws.FnExactRoundsFor'. -/
def fnExactRoundsForUptoCard : Claim7 := { stood := { row := fnExactRoundsForUptoRow, standIns := [], harness := (true, "a360eaf68724d42670eb9e83e80df1a2944e1be65393c962fd23f7417afe9baf"), looks := true }, kinds := [], alts := [], laidByText := true, laidKinds := [.sentinel, .sentinel, .sentinel, .sentinel, .sentinel, .sentinel], laidTests := true, laidLooks := .later }
def FnExactRoundsForUptoCardSaid : Prop := Claim7.holds Tryd.pinned (.plain (OpenSpec.upto fnExactRoundsForSpec)) fnExactRoundsForUptoCard

/-- THE SECOND FORM's CARD OF 'laws.FnExactReadMask'. -/
def fnExactReadMaskUptoCard : Claim7 := { stood := { row := fnExactReadMaskUptoRow, standIns := [], harness := (true, "a360eaf68724d42670eb9e83e80df1a2944e1be65393c962fd23f7417afe9baf"), looks := true }, kinds := [], alts := [], laidByText := true, laidKinds := [.data, .sentinel, .sentinel, .sentinel, .sentinel, .sentinel, .sentinel, .pinned], laidTests := true, laidLooks := .later }
def FnExactReadMaskUptoCardSaid : Prop := Claim7.holds Tryd.pinned (.plain (OpenSpec.upto fnExactReadMaskSpec)) fnExactReadMaskUptoCard

/-- THE SECOND FORM's CARD OF 'laws.FnExactDustIn'. -/
def fnExactDustInUptoCard : Claim7 := { stood := { row := fnExactDustInUptoRow, standIns := [], harness := (true, "a360eaf68724d42670eb9e83e80df1a2944e1be65393c962fd23f7417afe9baf"), looks := true }, kinds := [], alts := [], laidByText := true, laidKinds := [.sentinel, .sentinel, .sentinel, .sentinel, .sentinel, .sentinel], laidTests := true, laidLooks := .later }
def FnExactDustInUptoCardSaid : Prop := Claim7.holds Tryd.pinned (.plain (OpenSpec.upto fnExactDustInSpec)) fnExactDustInUptoCard

/-- THE SECOND FORM's CARD OF 'laws.FnExactCleanestCopy'. -/
def fnExactCleanestCopyUptoCard : Claim7 := { stood := { row := fnExactCleanestCopyUptoRow, standIns := [], harness := (true, "a360eaf68724d42670eb9e83e80df1a2944e1be65393c962fd23f7417afe9baf"), looks := true }, kinds := [], alts := [], laidByText := true, laidKinds := [.sentinel, .sentinel, .sentinel, .sentinel, .sentinel, .sentinel], laidTests := true, laidLooks := .later }
def FnExactCleanestCopyUptoCardSaid : Prop := Claim7.holds Tryd.pinned (.plain (OpenSpec.upto fnExactCleanestCopySpec)) fnExactCleanestCopyUptoCard

/-- THE SECOND FORM's CARD OF 'laws.FnExactBestOfCopies'. -/
def fnExactBestOfCopiesUptoCard : Claim7 := { stood := { row := fnExactBestOfCopiesUptoRow, standIns := [], harness := (true, "a360eaf68724d42670eb9e83e80df1a2944e1be65393c962fd23f7417afe9baf"), looks := true }, kinds := [], alts := [], laidByText := true, laidKinds := [.data, .sentinel, .sentinel, .sentinel, .sentinel, .sentinel, .sentinel], laidTests := true, laidLooks := .later }
def FnExactBestOfCopiesUptoCardSaid : Prop := Claim7.holds Tryd.pinned (.plain (OpenSpec.upto fnExactBestOfCopiesSpec)) fnExactBestOfCopiesUptoCard

/-- THE SECOND FORM's CARD OF 'laws.FnFrames'. -/
def fnFramesUptoCard : Claim7 := { stood := { row := fnFramesUptoRow, standIns := [], harness := (true, "a360eaf68724d42670eb9e83e80df1a2944e1be65393c962fd23f7417afe9baf"), looks := true }, kinds := [], alts := [], laidByText := true, laidKinds := [.data, .sentinel, .sentinel, .sentinel, .sentinel, .sentinel, .sentinel], laidTests := true, laidLooks := .later }
def FnFramesUptoCardSaid : Prop := Claim7.holds Tryd.pinned (.plain (OpenSpec.upto fnFramesSpec)) fnFramesUptoCard
end Rows
end Go.Proofs.YteeobpcccpinbaaDoor
