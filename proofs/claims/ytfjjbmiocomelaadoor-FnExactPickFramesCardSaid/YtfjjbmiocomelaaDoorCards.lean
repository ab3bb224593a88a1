/-
  DERIVED. GIVEN WITH THE SEED: THE CARDS: each row of YtfjjbmiocomelaaDoorRows.lean that lists a variable, with what it lists TIED to the program's text (the seventh form; the later family's looks); each row that meets fmt, with fmt's text TOLD by the authors' own Lean function (tested against real Go, not proved from fmt's source: count such statements apart). THE CARD IS WHAT COUNTS. Prove the row's statement (the work); the ties are given (YtfjjbmiocomelaaDoorTie.lean); close each card by the builder's one call (the guide's Derived/Test/ToyasCard.lean, 'card_holds'). Laid BY PROGRAM, IN A SANDBOX (cutbox-door.mjs). By AI agents, Wed Nov 11 2026. No macro, syntax, notation, axiom, sorry.
-/
import Derived.Test.YtfjjbmiocomelaaDoorRows
import GoSem.ClaimSeven
namespace Go.Proofs.YtfjjbmiocomelaaDoor
namespace Rows

/-- THE TIED CARD OF 'laws.FnExactSwapFrames'. -/
def fnExactSwapFramesCard : Claim7 := { stood := { row := fnExactSwapFramesRow, standIns := [], harness := (true, "447591468319b5d55cb259ea19f16d3317572b610f572dc4aac891760d5c9e0b"), looks := true }, kinds := [], alts := [], laidByText := true, laidKinds := [.sentinel, .sentinel, .sentinel, .sentinel, .sentinel, .sentinel], laidTests := true, laidLooks := .later }
def FnExactSwapFramesCardSaid : Prop := Claim7.holds Tryd.pinned (.plain (OpenSpec.ofChange fnExactSwapFramesSpec)) fnExactSwapFramesCard

/-- THE TIED CARD OF 'laws.FnExactDropFrame'. -/
def fnExactDropFrameCard : Claim7 := { stood := { row := fnExactDropFrameRow, standIns := [], harness := (true, "447591468319b5d55cb259ea19f16d3317572b610f572dc4aac891760d5c9e0b"), looks := true }, kinds := [], alts := [], laidByText := true, laidKinds := [.sentinel, .sentinel, .sentinel, .sentinel, .sentinel, .sentinel], laidTests := true, laidLooks := .later }
def FnExactDropFrameCardSaid : Prop := Claim7.holds Tryd.pinned (.plain (OpenSpec.ofChange fnExactDropFrameSpec)) fnExactDropFrameCard

/-- THE TIED CARD OF 'laws.FnExactPickFrames'. -/
def fnExactPickFramesCard : Claim7 := { stood := { row := fnExactPickFramesRow, standIns := [], harness := (true, "447591468319b5d55cb259ea19f16d3317572b610f572dc4aac891760d5c9e0b"), looks := true }, kinds := [], alts := [], laidByText := true, laidKinds := [.sentinel, .sentinel, .sentinel, .sentinel, .sentinel, .sentinel], laidTests := true, laidLooks := .later }
def FnExactPickFramesCardSaid : Prop := Claim7.holds Tryd.pinned (.plain (OpenSpec.ofChange fnExactPickFramesSpec)) fnExactPickFramesCard

/-- THE SECOND FORM's CARD OF 'laws.FnExactSwapFrames'. -/
def fnExactSwapFramesUptoCard : Claim7 := { stood := { row := fnExactSwapFramesUptoRow, standIns := [], harness := (true, "447591468319b5d55cb259ea19f16d3317572b610f572dc4aac891760d5c9e0b"), looks := true }, kinds := [], alts := [], laidByText := true, laidKinds := [.sentinel, .sentinel, .sentinel, .sentinel, .sentinel, .sentinel], laidTests := true, laidLooks := .later }
def FnExactSwapFramesUptoCardSaid : Prop := Claim7.holds Tryd.pinned (.plain (OpenSpec.upto fnExactSwapFramesSpec)) fnExactSwapFramesUptoCard

/-- THE SECOND FORM's CARD OF 'laws.FnExactDropFrame'. -/
def fnExactDropFrameUptoCard : Claim7 := { stood := { row := fnExactDropFrameUptoRow, standIns := [], harness := (true, "447591468319b5d55cb259ea19f16d3317572b610f572dc4aac891760d5c9e0b"), looks := true }, kinds := [], alts := [], laidByText := true, laidKinds := [.sentinel, .sentinel, .sentinel, .sentinel, .sentinel, .sentinel], laidTests := true, laidLooks := .later }
def FnExactDropFrameUptoCardSaid : Prop := Claim7.holds Tryd.pinned (.plain (OpenSpec.upto fnExactDropFrameSpec)) fnExactDropFrameUptoCard

/-- THE SECOND FORM's CARD OF 'laws.FnExactPickFrames'. -/
def fnExactPickFramesUptoCard : Claim7 := { stood := { row := fnExactPickFramesUptoRow, standIns := [], harness := (true, "447591468319b5d55cb259ea19f16d3317572b610f572dc4aac891760d5c9e0b"), looks := true }, kinds := [], alts := [], laidByText := true, laidKinds := [.sentinel, .sentinel, .sentinel, .sentinel, .sentinel, .sentinel], laidTests := true, laidLooks := .later }
def FnExactPickFramesUptoCardSaid : Prop := Claim7.holds Tryd.pinned (.plain (OpenSpec.upto fnExactPickFramesSpec)) fnExactPickFramesUptoCard
end Rows
end Go.Proofs.YtfjjbmiocomelaaDoor
