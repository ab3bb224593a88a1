/-
  DERIVED. GIVEN WITH THE SEED: THE CARDS: each row of YtnlcjbobfhmnmabDoorRows.lean that lists a variable, with what it lists TIED to the program's text (the seventh form; the later family's looks); each row that meets fmt, with fmt's text TOLD by the authors' own Lean function (tested against real Go, not proved from fmt's source: count such statements apart). THE CARD IS WHAT COUNTS. Prove the row's statement (the work); the ties are given (YtnlcjbobfhmnmabDoorTie.lean); close each card by the builder's one call (the guide's Derived/Test/ToyasCard.lean, 'card_holds'). Laid BY PROGRAM, IN A SANDBOX (cutbox-door.mjs). By AI agents, Wed Nov 11 2026. No macro, syntax, notation, axiom, sorry.
-/
import Derived.Test.YtnlcjbobfhmnmabDoorRows
import GoSem.ClaimSeven
namespace Go.Proofs.YtnlcjbobfhmnmabDoor
namespace Rows

/-- THE TIED CARD OF 'laws.FnExactSteepestPart'. -/
def fnExactSteepestPartCard : Claim7 := { stood := { row := fnExactSteepestPartRow, standIns := [], harness := (true, "c6300330cf85bad04177977eb988e7d8e52496c08e187c3723c857e82525bc08"), looks := true }, kinds := [], alts := [], laidByText := true, laidKinds := [.sentinel, .sentinel, .sentinel, .sentinel, .sentinel, .sentinel], laidTests := true, laidLooks := .later }
def FnExactSteepestPartCardSaid : Prop := Claim7.holds Tryd.pinned (.plain (OpenSpec.ofChange fnExactSteepestPartSpec)) fnExactSteepestPartCard

/-- THE SECOND FORM's CARD OF 'laws.FnExactSteepestPart'. -/
def fnExactSteepestPartUptoCard : Claim7 := { stood := { row := fnExactSteepestPartUptoRow, standIns := [], harness := (true, "c6300330cf85bad04177977eb988e7d8e52496c08e187c3723c857e82525bc08"), looks := true }, kinds := [], alts := [], laidByText := true, laidKinds := [.sentinel, .sentinel, .sentinel, .sentinel, .sentinel, .sentinel], laidTests := true, laidLooks := .later }
def FnExactSteepestPartUptoCardSaid : Prop := Claim7.holds Tryd.pinned (.plain (OpenSpec.upto fnExactSteepestPartSpec)) fnExactSteepestPartUptoCard
end Rows
end Go.Proofs.YtnlcjbobfhmnmabDoor
