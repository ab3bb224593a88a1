/-
  DERIVED. GIVEN WITH THE SEED: THE CARDS: each row of YtmibinfaafhgdaaDoorRows.lean that lists a variable, with what it lists TIED to the program's text (the seventh form; the later family's looks); each row that meets fmt, with fmt's text TOLD by the authors' own Lean function (tested against real Go, not proved from fmt's source: count such statements apart). THE CARD IS WHAT COUNTS. Prove the row's statement (the work); the ties are given (YtmibinfaafhgdaaDoorTie.lean); close each card by the builder's one call (the guide's Derived/Test/ToyasCard.lean, 'card_holds'). Laid BY PROGRAM, IN A SANDBOX (cutbox-door.mjs). By AI agents, Wed Nov 11 2026. No macro, syntax, notation, axiom, sorry.
-/
import Derived.Test.YtmibinfaafhgdaaDoorRows
import GoSem.ClaimSeven
namespace Go.Proofs.YtmibinfaafhgdaaDoor
namespace Rows

/-- THE TIED CARD OF 'laws.FnExactFewestCopies'. -/
def fnExactFewestCopiesCard : Claim7 := { stood := { row := fnExactFewestCopiesRow, standIns := [], harness := (true, "3b9625ee10d69acc8d18e2d2157a2565c45b65de01df4b99f78db8db12592508"), looks := true }, kinds := [], alts := [], laidByText := true, laidKinds := [.sentinel, .sentinel, .sentinel, .sentinel, .sentinel, .sentinel], laidTests := true, laidLooks := .later }
def FnExactFewestCopiesCardSaid : Prop := Claim7.holds Tryd.pinned (.plain (OpenSpec.ofChange fnExactFewestCopiesSpec)) fnExactFewestCopiesCard

/-- THE SECOND FORM's CARD OF 'laws.FnExactFewestCopies'. -/
def fnExactFewestCopiesUptoCard : Claim7 := { stood := { row := fnExactFewestCopiesUptoRow, standIns := [], harness := (true, "3b9625ee10d69acc8d18e2d2157a2565c45b65de01df4b99f78db8db12592508"), looks := true }, kinds := [], alts := [], laidByText := true, laidKinds := [.sentinel, .sentinel, .sentinel, .sentinel, .sentinel, .sentinel], laidTests := true, laidLooks := .later }
def FnExactFewestCopiesUptoCardSaid : Prop := Claim7.holds Tryd.pinned (.plain (OpenSpec.upto fnExactFewestCopiesSpec)) fnExactFewestCopiesUptoCard
end Rows
end Go.Proofs.YtmibinfaafhgdaaDoor
