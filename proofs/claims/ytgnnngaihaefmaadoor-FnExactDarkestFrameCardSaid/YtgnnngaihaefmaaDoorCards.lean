/-
  DERIVED. GIVEN WITH THE SEED: THE CARDS: each row of YtgnnngaihaefmaaDoorRows.lean that lists a variable, with what it lists TIED to the program's text (the seventh form; the later family's looks); each row that meets fmt, with fmt's text TOLD by the authors' own Lean function (tested against real Go, not proved from fmt's source: count such statements apart). THE CARD IS WHAT COUNTS. Prove the row's statement (the work); the ties are given (YtgnnngaihaefmaaDoorTie.lean); close each card by the builder's one call (the guide's Derived/Test/ToyasCard.lean, 'card_holds'). Laid BY PROGRAM, IN A SANDBOX (cutbox-door.mjs). By AI agents, Wed Nov 11 2026. No macro, syntax, notation, axiom, sorry.
-/
import Derived.Test.YtgnnngaihaefmaaDoorRows
import GoSem.ClaimSeven
namespace Go.Proofs.YtgnnngaihaefmaaDoor
namespace Rows

/-- THE TIED CARD OF 'laws.FnExactRepairCells'. -/
def fnExactRepairCellsCard : Claim7 := { stood := { row := fnExactRepairCellsRow, standIns := [], harness := (true, "3c5732e305ab1df6483903bfc13bdb3b6183c753a5b75b4cd8ad18a576cf0948"), looks := true }, kinds := [], alts := [], laidByText := true, laidKinds := [.data, .sentinel, .sentinel, .sentinel, .sentinel, .sentinel, .sentinel], laidTests := true, laidLooks := .later }
def FnExactRepairCellsCardSaid : Prop := Claim7.holds Tryd.pinned (.plain (OpenSpec.ofChange fnExactRepairCellsSpec)) fnExactRepairCellsCard

/-- THE TIED CARD OF 'laws.FnExactDarkestFrame'. -/
def fnExactDarkestFrameCard : Claim7 := { stood := { row := fnExactDarkestFrameRow, standIns := [], harness := (true, "3c5732e305ab1df6483903bfc13bdb3b6183c753a5b75b4cd8ad18a576cf0948"), looks := true }, kinds := [], alts := [], laidByText := true, laidKinds := [.data, .sentinel, .sentinel, .sentinel, .sentinel, .sentinel, .sentinel], laidTests := true, laidLooks := .later }
def FnExactDarkestFrameCardSaid : Prop := Claim7.holds Tryd.pinned (.plain (OpenSpec.ofChange fnExactDarkestFrameSpec)) fnExactDarkestFrameCard

/-- THE TIED CARD OF 'laws.FnExactMedianPrint'. -/
def fnExactMedianPrintCard : Claim7 := { stood := { row := fnExactMedianPrintRow, standIns := [], harness := (true, "3c5732e305ab1df6483903bfc13bdb3b6183c753a5b75b4cd8ad18a576cf0948"), looks := true }, kinds := [], alts := [], laidByText := true, laidKinds := [.sentinel, .sentinel, .sentinel, .sentinel, .sentinel, .sentinel], laidTests := true, laidLooks := .later }
def FnExactMedianPrintCardSaid : Prop := Claim7.holds Tryd.pinned (.plain (OpenSpec.ofChange fnExactMedianPrintSpec)) fnExactMedianPrintCard

/-- THE SECOND FORM's CARD OF 'laws.FnExactRepairCells'. -/
def fnExactRepairCellsUptoCard : Claim7 := { stood := { row := fnExactRepairCellsUptoRow, standIns := [], harness := (true, "3c5732e305ab1df6483903bfc13bdb3b6183c753a5b75b4cd8ad18a576cf0948"), looks := true }, kinds := [], alts := [], laidByText := true, laidKinds := [.data, .sentinel, .sentinel, .sentinel, .sentinel, .sentinel, .sentinel], laidTests := true, laidLooks := .later }
def FnExactRepairCellsUptoCardSaid : Prop := Claim7.holds Tryd.pinned (.plain (OpenSpec.upto fnExactRepairCellsSpec)) fnExactRepairCellsUptoCard

/-- THE SECOND FORM's CARD OF 'laws.FnExactDarkestFrame'. -/
def fnExactDarkestFrameUptoCard : Claim7 := { stood := { row := fnExactDarkestFrameUptoRow, standIns := [], harness := (true, "3c5732e305ab1df6483903bfc13bdb3b6183c753a5b75b4cd8ad18a576cf0948"), looks := true }, kinds := [], alts := [], laidByText := true, laidKinds := [.data, .sentinel, .sentinel, .sentinel, .sentinel, .sentinel, .sentinel], laidTests := true, laidLooks := .later }
def FnExactDarkestFrameUptoCardSaid : Prop := Claim7.holds Tryd.pinned (.plain (OpenSpec.upto fnExactDarkestFrameSpec)) fnExactDarkestFrameUptoCard

/-- THE SECOND FORM's CARD OF 'laws.FnExactMedianPrint'. -/
def fnExactMedianPrintUptoCard : Claim7 := { stood := { row := fnExactMedianPrintUptoRow, standIns := [], harness := (true, "3c5732e305ab1df6483903bfc13bdb3b6183c753a5b75b4cd8ad18a576cf0948"), looks := true }, kinds := [], alts := [], laidByText := true, laidKinds := [.sentinel, .sentinel, .sentinel, .sentinel, .sentinel, .sentinel], laidTests := true, laidLooks := .later }
def FnExactMedianPrintUptoCardSaid : Prop := Claim7.holds Tryd.pinned (.plain (OpenSpec.upto fnExactMedianPrintSpec)) fnExactMedianPrintUptoCard
end Rows
end Go.Proofs.YtgnnngaihaefmaaDoor
