/-
  DERIVED. GIVEN WITH THE SEED: THE CARDS: each row of YtbghpcblkfiipaaDoorRows.lean that lists a variable, with what it lists TIED to the program's text (the seventh form; the later family's looks); each row that meets fmt, with fmt's text TOLD by the authors' own Lean function (tested against real Go, not proved from fmt's source: count such statements apart). THE CARD IS WHAT COUNTS. Prove the row's statement (the work); the ties are given (YtbghpcblkfiipaaDoorTie.lean); close each card by the builder's one call (the guide's Derived/Test/ToyasCard.lean, 'card_holds'). Laid BY PROGRAM, IN A SANDBOX (cutbox-door.mjs). By AI agents, Wed Nov 11 2026. No macro, syntax, notation, axiom, sorry.
-/
import Derived.Test.YtbghpcblkfiipaaDoorRows
import GoSem.ClaimSeven
namespace Go.Proofs.YtbghpcblkfiipaaDoor
namespace Rows

/-- THE TIED CARD OF 'laws.FnExactPlaceOf'. -/
def fnExactPlaceOfCard : Claim7 := { stood := { row := fnExactPlaceOfRow, standIns := [], harness := (true, "78f97968a50555f243f4af14c3bb1759e5e7a3b0af82d2bb68dfb291696213b0"), looks := true }, kinds := [], alts := [], laidByText := true, laidKinds := [.sentinel, .sentinel, .sentinel, .sentinel, .sentinel, .sentinel], laidTests := true, laidLooks := .later }
def FnExactPlaceOfCardSaid : Prop := Claim7.holds Tryd.pinned (.plain (OpenSpec.ofChange fnExactPlaceOfSpec)) fnExactPlaceOfCard

/-- THE TIED CARD OF 'laws.FnExactFrameAt'. -/
def fnExactFrameAtCard : Claim7 := { stood := { row := fnExactFrameAtRow, standIns := [], harness := (true, "78f97968a50555f243f4af14c3bb1759e5e7a3b0af82d2bb68dfb291696213b0"), looks := true }, kinds := [], alts := [], laidByText := true, laidKinds := [.sentinel, .sentinel, .sentinel, .sentinel, .sentinel, .sentinel], laidTests := true, laidLooks := .later }
def FnExactFrameAtCardSaid : Prop := Claim7.holds Tryd.pinned (.plain (OpenSpec.ofChange fnExactFrameAtSpec)) fnExactFrameAtCard

/-- THE TIED CARD OF 'laws.FnExactSwapFrames'. -/
def fnExactSwapFramesCard : Claim7 := { stood := { row := fnExactSwapFramesRow, standIns := [], harness := (true, "78f97968a50555f243f4af14c3bb1759e5e7a3b0af82d2bb68dfb291696213b0"), looks := true }, kinds := [], alts := [], laidByText := true, laidKinds := [.sentinel, .sentinel, .sentinel, .sentinel, .sentinel, .sentinel], laidTests := true, laidLooks := .later }
def FnExactSwapFramesCardSaid : Prop := Claim7.holds Tryd.pinned (.plain (OpenSpec.ofChange fnExactSwapFramesSpec)) fnExactSwapFramesCard

/-- THE TIED CARD OF 'laws.FnExactDropFrame'. -/
def fnExactDropFrameCard : Claim7 := { stood := { row := fnExactDropFrameRow, standIns := [], harness := (true, "78f97968a50555f243f4af14c3bb1759e5e7a3b0af82d2bb68dfb291696213b0"), looks := true }, kinds := [], alts := [], laidByText := true, laidKinds := [.sentinel, .sentinel, .sentinel, .sentinel, .sentinel, .sentinel], laidTests := true, laidLooks := .later }
def FnExactDropFrameCardSaid : Prop := Claim7.holds Tryd.pinned (.plain (OpenSpec.ofChange fnExactDropFrameSpec)) fnExactDropFrameCard

/-- THE TIED CARD OF 'laws.FnExactPickFrames'. -/
def fnExactPickFramesCard : Claim7 := { stood := { row := fnExactPickFramesRow, standIns := [], harness := (true, "78f97968a50555f243f4af14c3bb1759e5e7a3b0af82d2bb68dfb291696213b0"), looks := true }, kinds := [], alts := [], laidByText := true, laidKinds := [.sentinel, .sentinel, .sentinel, .sentinel, .sentinel, .sentinel], laidTests := true, laidLooks := .later }
def FnExactPickFramesCardSaid : Prop := Claim7.holds Tryd.pinned (.plain (OpenSpec.ofChange fnExactPickFramesSpec)) fnExactPickFramesCard

/-- THE TIED CARD OF 'laws.FnExactDarkestFrame'. -/
def fnExactDarkestFrameCard : Claim7 := { stood := { row := fnExactDarkestFrameRow, standIns := [], harness := (true, "78f97968a50555f243f4af14c3bb1759e5e7a3b0af82d2bb68dfb291696213b0"), looks := true }, kinds := [], alts := [], laidByText := true, laidKinds := [.data, .sentinel, .sentinel, .sentinel, .sentinel, .sentinel, .sentinel], laidTests := true, laidLooks := .later }
def FnExactDarkestFrameCardSaid : Prop := Claim7.holds Tryd.pinned (.plain (OpenSpec.ofChange fnExactDarkestFrameSpec)) fnExactDarkestFrameCard

/-- THE SECOND FORM's CARD OF 'laws.FnExactPlaceOf'. -/
def fnExactPlaceOfUptoCard : Claim7 := { stood := { row := fnExactPlaceOfUptoRow, standIns := [], harness := (true, "78f97968a50555f243f4af14c3bb1759e5e7a3b0af82d2bb68dfb291696213b0"), looks := true }, kinds := [], alts := [], laidByText := true, laidKinds := [.sentinel, .sentinel, .sentinel, .sentinel, .sentinel, .sentinel], laidTests := true, laidLooks := .later }
def FnExactPlaceOfUptoCardSaid : Prop := Claim7.holds Tryd.pinned (.plain (OpenSpec.upto fnExactPlaceOfSpec)) fnExactPlaceOfUptoCard

/-- THE SECOND FORM's CARD OF 'laws.FnExactFrameAt'. -/
def fnExactFrameAtUptoCard : Claim7 := { stood := { row := fnExactFrameAtUptoRow, standIns := [], harness := (true, "78f97968a50555f243f4af14c3bb1759e5e7a3b0af82d2bb68dfb291696213b0"), looks := true }, kinds := [], alts := [], laidByText := true, laidKinds := [.sentinel, .sentinel, .sentinel, .sentinel, .sentinel, .sentinel], laidTests := true, laidLooks := .later }
def FnExactFrameAtUptoCardSaid : Prop := Claim7.holds Tryd.pinned (.plain (OpenSpec.upto fnExactFrameAtSpec)) fnExactFrameAtUptoCard

/-- THE SECOND FORM's CARD OF 'laws.FnExactSwapFrames'. -/
def fnExactSwapFramesUptoCard : Claim7 := { stood := { row := fnExactSwapFramesUptoRow, standIns := [], harness := (true, "78f97968a50555f243f4af14c3bb1759e5e7a3b0af82d2bb68dfb291696213b0"), looks := true }, kinds := [], alts := [], laidByText := true, laidKinds := [.sentinel, .sentinel, .sentinel, .sentinel, .sentinel, .sentinel], laidTests := true, laidLooks := .later }
def FnExactSwapFramesUptoCardSaid : Prop := Claim7.holds Tryd.pinned (.plain (OpenSpec.upto fnExactSwapFramesSpec)) fnExactSwapFramesUptoCard

/-- THE SECOND FORM's CARD OF 'laws.FnExactDropFrame'. -/
def fnExactDropFrameUptoCard : Claim7 := { stood := { row := fnExactDropFrameUptoRow, standIns := [], harness := (true, "78f97968a50555f243f4af14c3bb1759e5e7a3b0af82d2bb68dfb291696213b0"), looks := true }, kinds := [], alts := [], laidByText := true, laidKinds := [.sentinel, .sentinel, .sentinel, .sentinel, .sentinel, .sentinel], laidTests := true, laidLooks := .later }
def FnExactDropFrameUptoCardSaid : Prop := Claim7.holds Tryd.pinned (.plain (OpenSpec.upto fnExactDropFrameSpec)) fnExactDropFrameUptoCard

/-- THE SECOND FORM's CARD OF 'laws.FnExactPickFrames'. -/
def fnExactPickFramesUptoCard : Claim7 := { stood := { row := fnExactPickFramesUptoRow, standIns := [], harness := (true, "78f97968a50555f243f4af14c3bb1759e5e7a3b0af82d2bb68dfb291696213b0"), looks := true }, kinds := [], alts := [], laidByText := true, laidKinds := [.sentinel, .sentinel, .sentinel, .sentinel, .sentinel, .sentinel], laidTests := true, laidLooks := .later }
def FnExactPickFramesUptoCardSaid : Prop := Claim7.holds Tryd.pinned (.plain (OpenSpec.upto fnExactPickFramesSpec)) fnExactPickFramesUptoCard

/-- THE SECOND FORM's CARD OF 'laws.FnExactDarkestFrame'. -/
def fnExactDarkestFrameUptoCard : Claim7 := { stood := { row := fnExactDarkestFrameUptoRow, standIns := [], harness := (true, "78f97968a50555f243f4af14c3bb1759e5e7a3b0af82d2bb68dfb291696213b0"), looks := true }, kinds := [], alts := [], laidByText := true, laidKinds := [.data, .sentinel, .sentinel, .sentinel, .sentinel, .sentinel, .sentinel], laidTests := true, laidLooks := .later }
def FnExactDarkestFrameUptoCardSaid : Prop := Claim7.holds Tryd.pinned (.plain (OpenSpec.upto fnExactDarkestFrameSpec)) fnExactDarkestFrameUptoCard
end Rows
end Go.Proofs.YtbghpcblkfiipaaDoor
