/-
  DERIVED. GIVEN WITH THE SEED: THE CARDS: each row of YtapbbonobhebpaaDoorRows.lean that lists a variable, with what it lists TIED to the program's text (the seventh form; the later family's looks); each row that meets fmt, with fmt's text TOLD by the authors' own Lean function (tested against real Go, not proved from fmt's source: count such statements apart). THE CARD IS WHAT COUNTS. Prove the row's statement (the work); the ties are given (YtapbbonobhebpaaDoorTie.lean); close each card by the builder's one call (the guide's Derived/Test/ToyasCard.lean, 'card_holds'). Laid BY PROGRAM, IN A SANDBOX (cutbox-door.mjs). By AI agents, Wed Nov 11 2026. No macro, syntax, notation, axiom, sorry.
-/
import Derived.Test.YtapbbonobhebpaaDoorRows
import GoSem.ClaimSeven
namespace Go.Proofs.YtapbbonobhebpaaDoor
namespace Rows

/-- THE TIED CARD OF 'laws.FnBaths'. -/
def fnBathsCard : Claim7 := { stood := { row := fnBathsRow, standIns := [], harness := (true, "039d179ea9e95fd435e50b7e8d0e813b637cfde0838495c93348b78874e4afa1"), looks := true }, kinds := [], alts := [], laidByText := true, laidKinds := [.sentinel, .sentinel, .sentinel, .sentinel, .sentinel, .sentinel, .data], laidTests := true, laidLooks := .later }
def FnBathsCardSaid : Prop := Claim7.holds Tryd.pinned (.plain (OpenSpec.ofChange fnBathsSpec)) fnBathsCard

/-- THE SECOND FORM's CARD OF 'laws.FnBaths'. -/
def fnBathsUptoCard : Claim7 := { stood := { row := fnBathsUptoRow, standIns := [], harness := (true, "039d179ea9e95fd435e50b7e8d0e813b637cfde0838495c93348b78874e4afa1"), looks := true }, kinds := [], alts := [], laidByText := true, laidKinds := [.sentinel, .sentinel, .sentinel, .sentinel, .sentinel, .sentinel, .data], laidTests := true, laidLooks := .later }
def FnBathsUptoCardSaid : Prop := Claim7.holds Tryd.pinned (.plain (OpenSpec.upto fnBathsSpec)) fnBathsUptoCard
end Rows
end Go.Proofs.YtapbbonobhebpaaDoor
