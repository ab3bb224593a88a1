/-
  DERIVED. GIVEN WITH THE SEED: THE CARDS: each row of YtmibinfaafhgdaaGreatDoorRows.lean that lists a variable, with what it lists TIED to the program's text (the seventh form; the later family's looks); each row that meets fmt, with fmt's text TOLD by the authors' own Lean function (tested against real Go, not proved from fmt's source: count such statements apart). THE CARD IS WHAT COUNTS. Prove the row's statement (the work); the ties are given (YtmibinfaafhgdaaGreatDoorTie.lean); close each card by the builder's one call (the guide's Derived/Test/ToyasCard.lean, 'card_holds'). Laid BY PROGRAM, IN A SANDBOX (cutbox-door.mjs). By AI agents, Wed Nov 11 2026. No macro, syntax, notation, axiom, sorry.
-/
import Derived.Test.YtmibinfaafhgdaaGreatDoorRows
import GoSem.ClaimSeven
namespace Go.Proofs.YtmibinfaafhgdaaGreatDoor
namespace Rows

/-- THE TIED CARD OF 'laws.FnDust'. -/
def fnDustCard : Claim7 := { stood := { row := fnDustRow, standIns := [], harness := (true, "60c6d071dd7d9bf9b2d1fa7a90209711436ad8a5f36b74c4e8fbed3018eaf7c0"), looks := true }, kinds := [], alts := [], laidByText := true, laidKinds := [.data, .sentinel, .sentinel, .sentinel, .sentinel, .sentinel, .sentinel], laidTests := true, laidLooks := .later }
def FnDustCardSaid : Prop := Claim7.holds Tryz.pinned (.plain (OpenSpec.ofChange fnDustSpec)) fnDustCard

/-- THE SECOND FORM's CARD OF 'laws.FnDust'. -/
def fnDustUptoCard : Claim7 := { stood := { row := fnDustUptoRow, standIns := [], harness := (true, "60c6d071dd7d9bf9b2d1fa7a90209711436ad8a5f36b74c4e8fbed3018eaf7c0"), looks := true }, kinds := [], alts := [], laidByText := true, laidKinds := [.data, .sentinel, .sentinel, .sentinel, .sentinel, .sentinel, .sentinel], laidTests := true, laidLooks := .later }
def FnDustUptoCardSaid : Prop := Claim7.holds Tryz.pinned (.plain (OpenSpec.upto fnDustSpec)) fnDustUptoCard
end Rows
end Go.Proofs.YtmibinfaafhgdaaGreatDoor
