/-
  DERIVED. GIVEN WITH THE SEED: THE CARDS: each row of YtkmpfbjenddhjaaDoorRows.lean that lists a variable, with what it lists TIED to the program's text (the seventh form; the later family's looks); each row that meets fmt, with fmt's text TOLD by the authors' own Lean function (tested against real Go, not proved from fmt's source: count such statements apart). THE CARD IS WHAT COUNTS. Prove the row's statement (the work); the ties are given (YtkmpfbjenddhjaaDoorTie.lean); close each card by the builder's one call (the guide's Derived/Test/ToyasCard.lean, 'card_holds'). Laid BY PROGRAM, IN A SANDBOX (cutbox-door.mjs). By AI agents, Wed Nov 11 2026. No macro, syntax, notation, axiom, sorry.
-/
import Derived.Test.YtkmpfbjenddhjaaDoorRows
import GoSem.ClaimSeven
namespace Go.Proofs.YtkmpfbjenddhjaaDoor
namespace Rows

/-- THE TIED CARD OF 'laws.FnExactSwapFrames'. -/
def fnExactSwapFramesCard : Claim7 := { stood := { row := fnExactSwapFramesRow, standIns := [], harness := (true, "758f1ce7529af1c954fbd4bfcb86707aa18da7019c66e8e70a8a28fddf64419c"), looks := true }, kinds := [], alts := [], laidByText := true, laidKinds := [.sentinel, .sentinel, .sentinel, .sentinel, .sentinel, .sentinel], laidTests := true, laidLooks := .later }
def FnExactSwapFramesCardSaid : Prop := Claim7.holds Tryd.pinned (.plain (OpenSpec.ofChange fnExactSwapFramesSpec)) fnExactSwapFramesCard

/-- THE TIED CARD OF 'laws.FnExactDropFrame'. -/
def fnExactDropFrameCard : Claim7 := { stood := { row := fnExactDropFrameRow, standIns := [], harness := (true, "758f1ce7529af1c954fbd4bfcb86707aa18da7019c66e8e70a8a28fddf64419c"), looks := true }, kinds := [], alts := [], laidByText := true, laidKinds := [.sentinel, .sentinel, .sentinel, .sentinel, .sentinel, .sentinel], laidTests := true, laidLooks := .later }
def FnExactDropFrameCardSaid : Prop := Claim7.holds Tryd.pinned (.plain (OpenSpec.ofChange fnExactDropFrameSpec)) fnExactDropFrameCard

/-- THE TIED CARD OF 'laws.FnFrames'. -/
def fnFramesCard : Claim7 := { stood := { row := fnFramesRow, standIns := [], harness := (true, "758f1ce7529af1c954fbd4bfcb86707aa18da7019c66e8e70a8a28fddf64419c"), looks := true }, kinds := [], alts := [], laidByText := true, laidKinds := [.data, .sentinel, .sentinel, .sentinel, .sentinel, .sentinel, .sentinel], laidTests := true, laidLooks := .later }
def FnFramesCardSaid : Prop := Claim7.holds Tryd.pinned (.plain (OpenSpec.ofChange fnFramesSpec)) fnFramesCard

/-- THE SECOND FORM's CARD OF 'laws.FnExactSwapFrames'. -/
def fnExactSwapFramesUptoCard : Claim7 := { stood := { row := fnExactSwapFramesUptoRow, standIns := [], harness := (true, "758f1ce7529af1c954fbd4bfcb86707aa18da7019c66e8e70a8a28fddf64419c"), looks := true }, kinds := [], alts := [], laidByText := true, laidKinds := [.sentinel, .sentinel, .sentinel, .sentinel, .sentinel, .sentinel], laidTests := true, laidLooks := .later }
def FnExactSwapFramesUptoCardSaid : Prop := Claim7.holds Tryd.pinned (.plain (OpenSpec.upto fnExactSwapFramesSpec)) fnExactSwapFramesUptoCard

/-- THE SECOND FORM's CARD OF 'laws.FnExactDropFrame'. -/
def fnExactDropFrameUptoCard : Claim7 := { stood := { row := fnExactDropFrameUptoRow, standIns := [], harness := (true, "758f1ce7529af1c954fbd4bfcb86707aa18da7019c66e8e70a8a28fddf64419c"), looks := true }, kinds := [], alts := [], laidByText := true, laidKinds := [.sentinel, .sentinel, .sentinel, .sentinel, .sentinel, .sentinel], laidTests := true, laidLooks := .later }
def FnExactDropFrameUptoCardSaid : Prop := Claim7.holds Tryd.pinned (.plain (OpenSpec.upto fnExactDropFrameSpec)) fnExactDropFrameUptoCard

/-- THE SECOND FORM's CARD OF 'laws.FnFrames'. -/
def fnFramesUptoCard : Claim7 := { stood := { row := fnFramesUptoRow, standIns := [], harness := (true, "758f1ce7529af1c954fbd4bfcb86707aa18da7019c66e8e70a8a28fddf64419c"), looks := true }, kinds := [], alts := [], laidByText := true, laidKinds := [.data, .sentinel, .sentinel, .sentinel, .sentinel, .sentinel, .sentinel], laidTests := true, laidLooks := .later }
def FnFramesUptoCardSaid : Prop := Claim7.holds Tryd.pinned (.plain (OpenSpec.upto fnFramesSpec)) fnFramesUptoCard
end Rows
end Go.Proofs.YtkmpfbjenddhjaaDoor
