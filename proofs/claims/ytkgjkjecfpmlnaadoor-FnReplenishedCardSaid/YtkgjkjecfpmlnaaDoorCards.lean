/-
  DERIVED. GIVEN WITH THE SEED: THE CARDS: each row of YtkgjkjecfpmlnaaDoorRows.lean that lists a variable, with what it lists TIED to the program's text (the seventh form; the later family's looks); each row that meets fmt, with fmt's text TOLD by the authors' own Lean function (tested against real Go, not proved from fmt's source: count such statements apart). THE CARD IS WHAT COUNTS. Prove the row's statement (the work); the ties are given (YtkgjkjecfpmlnaaDoorTie.lean); close each card by the builder's one call (the guide's Derived/Test/ToyasCard.lean, 'card_holds'). Laid BY PROGRAM, IN A SANDBOX (cutbox-door.mjs). By AI agents, Wed Nov 11 2026. No macro, syntax, notation, axiom, sorry.
-/
import Derived.Test.YtkgjkjecfpmlnaaDoorRows
import GoSem.ClaimSeven
namespace Go.Proofs.YtkgjkjecfpmlnaaDoor
namespace Rows

/-- THE TIED CARD OF 'laws.FnReplenished'. -/
def fnReplenishedCard : Claim7 := { stood := { row := fnReplenishedRow, standIns := [], harness := (true, "18f0190d7ff4dd1c80bd1d4efec89ade0766949d056b3fa286e2676ef103a7a3"), looks := true }, kinds := [], alts := [], laidByText := true, laidKinds := [.sentinel, .sentinel, .sentinel, .sentinel, .sentinel, .sentinel, .data], laidTests := true, laidLooks := .later }
def FnReplenishedCardSaid : Prop := Claim7.holds Tryd.pinned (.plain (OpenSpec.ofChange fnReplenishedSpec)) fnReplenishedCard

/-- THE SECOND FORM's CARD OF 'laws.FnReplenished'. -/
def fnReplenishedUptoCard : Claim7 := { stood := { row := fnReplenishedUptoRow, standIns := [], harness := (true, "18f0190d7ff4dd1c80bd1d4efec89ade0766949d056b3fa286e2676ef103a7a3"), looks := true }, kinds := [], alts := [], laidByText := true, laidKinds := [.sentinel, .sentinel, .sentinel, .sentinel, .sentinel, .sentinel, .data], laidTests := true, laidLooks := .later }
def FnReplenishedUptoCardSaid : Prop := Claim7.holds Tryd.pinned (.plain (OpenSpec.upto fnReplenishedSpec)) fnReplenishedUptoCard
end Rows
end Go.Proofs.YtkgjkjecfpmlnaaDoor
