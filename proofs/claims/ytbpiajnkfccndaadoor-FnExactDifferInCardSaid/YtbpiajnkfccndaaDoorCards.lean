/-
  DERIVED. GIVEN WITH THE SEED: THE CARDS: each row of YtbpiajnkfccndaaDoorRows.lean that lists a variable, with what it lists TIED to the program's text (the seventh form; the later family's looks); each row that meets fmt, with fmt's text TOLD by the authors' own Lean function (tested against real Go, not proved from fmt's source: count such statements apart). THE CARD IS WHAT COUNTS. Prove the row's statement (the work); the ties are given (YtbpiajnkfccndaaDoorTie.lean); close each card by the builder's one call (the guide's Derived/Test/ToyasCard.lean, 'card_holds'). Laid BY PROGRAM, IN A SANDBOX (cutbox-door.mjs). By AI agents, Wed Nov 11 2026. No macro, syntax, notation, axiom, sorry.
-/
import Derived.Test.YtbpiajnkfccndaaDoorRows
import GoSem.ClaimSeven
namespace Go.Proofs.YtbpiajnkfccndaaDoor
namespace Rows

/-- THE TIED CARD OF 'laws.FnExactMaskOf'. -/
def fnExactMaskOfCard : Claim7 := { stood := { row := fnExactMaskOfRow, standIns := [], harness := (true, "72e1061e890155eb49efc12a93a21b94b2512dfdc6e0984f25968e8e95d28f7e"), looks := true }, kinds := [], alts := [], laidByText := true, laidKinds := [.sentinel, .sentinel, .sentinel, .sentinel, .sentinel, .sentinel], laidTests := true, laidLooks := .later }
def FnExactMaskOfCardSaid : Prop := Claim7.holds Tryd.pinned (.plain (OpenSpec.ofChange fnExactMaskOfSpec)) fnExactMaskOfCard

/-- THE TIED CARD OF 'laws.FnExactMirrorNegative'. -/
def fnExactMirrorNegativeCard : Claim7 := { stood := { row := fnExactMirrorNegativeRow, standIns := [], harness := (true, "72e1061e890155eb49efc12a93a21b94b2512dfdc6e0984f25968e8e95d28f7e"), looks := true }, kinds := [], alts := [], laidByText := true, laidKinds := [.sentinel, .sentinel, .sentinel, .sentinel, .sentinel, .sentinel], laidTests := true, laidLooks := .later }
def FnExactMirrorNegativeCardSaid : Prop := Claim7.holds Tryd.pinned (.plain (OpenSpec.ofChange fnExactMirrorNegativeSpec)) fnExactMirrorNegativeCard

/-- THE TIED CARD OF 'laws.FnExactTurnNegative'. -/
def fnExactTurnNegativeCard : Claim7 := { stood := { row := fnExactTurnNegativeRow, standIns := [], harness := (true, "72e1061e890155eb49efc12a93a21b94b2512dfdc6e0984f25968e8e95d28f7e"), looks := true }, kinds := [], alts := [], laidByText := true, laidKinds := [.sentinel, .sentinel, .sentinel, .sentinel, .sentinel, .sentinel], laidTests := true, laidLooks := .later }
def FnExactTurnNegativeCardSaid : Prop := Claim7.holds Tryd.pinned (.plain (OpenSpec.ofChange fnExactTurnNegativeSpec)) fnExactTurnNegativeCard

/-- THE TIED CARD OF 'laws.FnExactEnlargePart'. -/
def fnExactEnlargePartCard : Claim7 := { stood := { row := fnExactEnlargePartRow, standIns := [], harness := (true, "72e1061e890155eb49efc12a93a21b94b2512dfdc6e0984f25968e8e95d28f7e"), looks := true }, kinds := [], alts := [], laidByText := true, laidKinds := [.sentinel, .sentinel, .sentinel, .sentinel, .sentinel, .sentinel], laidTests := true, laidLooks := .later }
def FnExactEnlargePartCardSaid : Prop := Claim7.holds Tryd.pinned (.plain (OpenSpec.ofChange fnExactEnlargePartSpec)) fnExactEnlargePartCard

/-- THE TIED CARD OF 'laws.FnExactDifferIn'. -/
def fnExactDifferInCard : Claim7 := { stood := { row := fnExactDifferInRow, standIns := [], harness := (true, "72e1061e890155eb49efc12a93a21b94b2512dfdc6e0984f25968e8e95d28f7e"), looks := true }, kinds := [], alts := [], laidByText := true, laidKinds := [.sentinel, .sentinel, .sentinel, .sentinel, .sentinel, .sentinel], laidTests := true, laidLooks := .later }
def FnExactDifferInCardSaid : Prop := Claim7.holds Tryd.pinned (.plain (OpenSpec.ofChange fnExactDifferInSpec)) fnExactDifferInCard

/-- THE TIED CARD OF 'laws.FnTurnedNegatives'. -/
def fnTurnedNegativesCard : Claim7 := { stood := { row := fnTurnedNegativesRow, standIns := [], harness := (true, "72e1061e890155eb49efc12a93a21b94b2512dfdc6e0984f25968e8e95d28f7e"), looks := true }, kinds := [], alts := [], laidByText := true, laidKinds := [.sentinel, .sentinel, .sentinel, .sentinel, .sentinel, .sentinel], laidTests := true, laidLooks := .later }
def FnTurnedNegativesCardSaid : Prop := Claim7.holds Tryd.pinned (.plain (OpenSpec.ofChange fnTurnedNegativesSpec)) fnTurnedNegativesCard

/-- THE SECOND FORM's CARD OF 'laws.FnExactMaskOf'. -/
def fnExactMaskOfUptoCard : Claim7 := { stood := { row := fnExactMaskOfUptoRow, standIns := [], harness := (true, "72e1061e890155eb49efc12a93a21b94b2512dfdc6e0984f25968e8e95d28f7e"), looks := true }, kinds := [], alts := [], laidByText := true, laidKinds := [.sentinel, .sentinel, .sentinel, .sentinel, .sentinel, .sentinel], laidTests := true, laidLooks := .later }
def FnExactMaskOfUptoCardSaid : Prop := Claim7.holds Tryd.pinned (.plain (OpenSpec.upto fnExactMaskOfSpec)) fnExactMaskOfUptoCard

/-- THE SECOND FORM's CARD OF 'laws.FnExactMirrorNegative'. -/
def fnExactMirrorNegativeUptoCard : Claim7 := { stood := { row := fnExactMirrorNegativeUptoRow, standIns := [], harness := (true, "72e1061e890155eb49efc12a93a21b94b2512dfdc6e0984f25968e8e95d28f7e"), looks := true }, kinds := [], alts := [], laidByText := true, laidKinds := [.sentinel, .sentinel, .sentinel, .sentinel, .sentinel, .sentinel], laidTests := true, laidLooks := .later }
def FnExactMirrorNegativeUptoCardSaid : Prop := Claim7.holds Tryd.pinned (.plain (OpenSpec.upto fnExactMirrorNegativeSpec)) fnExactMirrorNegativeUptoCard

/-- THE SECOND FORM's CARD OF 'laws.FnExactTurnNegative'. -/
def fnExactTurnNegativeUptoCard : Claim7 := { stood := { row := fnExactTurnNegativeUptoRow, standIns := [], harness := (true, "72e1061e890155eb49efc12a93a21b94b2512dfdc6e0984f25968e8e95d28f7e"), looks := true }, kinds := [], alts := [], laidByText := true, laidKinds := [.sentinel, .sentinel, .sentinel, .sentinel, .sentinel, .sentinel], laidTests := true, laidLooks := .later }
def FnExactTurnNegativeUptoCardSaid : Prop := Claim7.holds Tryd.pinned (.plain (OpenSpec.upto fnExactTurnNegativeSpec)) fnExactTurnNegativeUptoCard

/-- THE SECOND FORM's CARD OF 'laws.FnExactEnlargePart'. -/
def fnExactEnlargePartUptoCard : Claim7 := { stood := { row := fnExactEnlargePartUptoRow, standIns := [], harness := (true, "72e1061e890155eb49efc12a93a21b94b2512dfdc6e0984f25968e8e95d28f7e"), looks := true }, kinds := [], alts := [], laidByText := true, laidKinds := [.sentinel, .sentinel, .sentinel, .sentinel, .sentinel, .sentinel], laidTests := true, laidLooks := .later }
def FnExactEnlargePartUptoCardSaid : Prop := Claim7.holds Tryd.pinned (.plain (OpenSpec.upto fnExactEnlargePartSpec)) fnExactEnlargePartUptoCard

/-- THE SECOND FORM's CARD OF 'laws.FnExactDifferIn'. -/
def fnExactDifferInUptoCard : Claim7 := { stood := { row := fnExactDifferInUptoRow, standIns := [], harness := (true, "72e1061e890155eb49efc12a93a21b94b2512dfdc6e0984f25968e8e95d28f7e"), looks := true }, kinds := [], alts := [], laidByText := true, laidKinds := [.sentinel, .sentinel, .sentinel, .sentinel, .sentinel, .sentinel], laidTests := true, laidLooks := .later }
def FnExactDifferInUptoCardSaid : Prop := Claim7.holds Tryd.pinned (.plain (OpenSpec.upto fnExactDifferInSpec)) fnExactDifferInUptoCard

/-- THE SECOND FORM's CARD OF 'laws.FnTurnedNegatives'. -/
def fnTurnedNegativesUptoCard : Claim7 := { stood := { row := fnTurnedNegativesUptoRow, standIns := [], harness := (true, "72e1061e890155eb49efc12a93a21b94b2512dfdc6e0984f25968e8e95d28f7e"), looks := true }, kinds := [], alts := [], laidByText := true, laidKinds := [.sentinel, .sentinel, .sentinel, .sentinel, .sentinel, .sentinel], laidTests := true, laidLooks := .later }
def FnTurnedNegativesUptoCardSaid : Prop := Claim7.holds Tryd.pinned (.plain (OpenSpec.upto fnTurnedNegativesSpec)) fnTurnedNegativesUptoCard
end Rows
end Go.Proofs.YtbpiajnkfccndaaDoor
