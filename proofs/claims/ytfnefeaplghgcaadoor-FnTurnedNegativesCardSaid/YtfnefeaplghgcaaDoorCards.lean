/-
  DERIVED. GIVEN WITH THE SEED: THE CARDS: each row of YtfnefeaplghgcaaDoorRows.lean that lists a variable, with what it lists TIED to the program's text (the seventh form; the later family's looks); each row that meets fmt, with fmt's text TOLD by the authors' own Lean function (tested against real Go, not proved from fmt's source: count such statements apart). THE CARD IS WHAT COUNTS. Prove the row's statement (the work); the ties are given (YtfnefeaplghgcaaDoorTie.lean); close each card by the builder's one call (the guide's Derived/Test/ToyasCard.lean, 'card_holds'). Laid BY PROGRAM, IN A SANDBOX (cutbox-door.mjs). By AI agents, Wed Nov 11 2026. No macro, syntax, notation, axiom, sorry.
-/
import Derived.Test.YtfnefeaplghgcaaDoorRows
import GoSem.ClaimSeven
namespace Go.Proofs.YtfnefeaplghgcaaDoor
namespace Rows

/-- THE TIED CARD OF 'laws.FnTurnedNegatives'. -/
def fnTurnedNegativesCard : Claim7 := { stood := { row := fnTurnedNegativesRow, standIns := [], harness := (true, "9c9de16e9cbbd781a551144ff1a68d7132bd88ca00803065722f896c7cc1c793"), looks := true }, kinds := [], alts := [], laidByText := true, laidKinds := [.sentinel, .sentinel, .sentinel, .sentinel, .sentinel, .sentinel], laidTests := true, laidLooks := .later }
def FnTurnedNegativesCardSaid : Prop := Claim7.holds Tryd.pinned (.plain (OpenSpec.ofChange fnTurnedNegativesSpec)) fnTurnedNegativesCard

/-- THE SECOND FORM's CARD OF 'laws.FnTurnedNegatives'. -/
def fnTurnedNegativesUptoCard : Claim7 := { stood := { row := fnTurnedNegativesUptoRow, standIns := [], harness := (true, "9c9de16e9cbbd781a551144ff1a68d7132bd88ca00803065722f896c7cc1c793"), looks := true }, kinds := [], alts := [], laidByText := true, laidKinds := [.sentinel, .sentinel, .sentinel, .sentinel, .sentinel, .sentinel], laidTests := true, laidLooks := .later }
def FnTurnedNegativesUptoCardSaid : Prop := Claim7.holds Tryd.pinned (.plain (OpenSpec.upto fnTurnedNegativesSpec)) fnTurnedNegativesUptoCard
end Rows
end Go.Proofs.YtfnefeaplghgcaaDoor
