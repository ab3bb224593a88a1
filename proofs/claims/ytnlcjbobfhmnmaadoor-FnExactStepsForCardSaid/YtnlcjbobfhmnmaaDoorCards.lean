/-
  DERIVED. GIVEN WITH THE SEED: THE CARDS: each row of YtnlcjbobfhmnmaaDoorRows.lean that lists a variable, with what it lists TIED to the program's text (the seventh form; the later family's looks); each row that meets fmt, with fmt's text TOLD by the authors' own Lean function (tested against real Go, not proved from fmt's source: count such statements apart). THE CARD IS WHAT COUNTS. Prove the row's statement (the work); the ties are given (YtnlcjbobfhmnmaaDoorTie.lean); close each card by the builder's one call (the guide's Derived/Test/ToyasCard.lean, 'card_holds'). Laid BY PROGRAM, IN A SANDBOX (cutbox-door.mjs). By AI agents, Wed Nov 11 2026. No macro, syntax, notation, axiom, sorry.
-/
import Derived.Test.YtnlcjbobfhmnmaaDoorRows
import GoSem.ClaimSeven
namespace Go.Proofs.YtnlcjbobfhmnmaaDoor
namespace Rows

/-- THE TIED CARD OF 'laws.FnExactPrintFrom'. -/
def fnExactPrintFromCard : Claim7 := { stood := { row := fnExactPrintFromRow, standIns := [], harness := (true, "1ccc20a5c41ea6f1f49beade1c9fec20d05fb25d7410acd5e9f0d9713f5d71b0"), looks := true }, kinds := [], alts := [], laidByText := true, laidKinds := [.sentinel, .sentinel, .sentinel, .sentinel, .sentinel, .sentinel, .data], laidTests := true, laidLooks := .later }
def FnExactPrintFromCardSaid : Prop := Claim7.holds Tryd.pinned (.plain (OpenSpec.ofChange fnExactPrintFromSpec)) fnExactPrintFromCard

/-- THE TIED CARD OF 'laws.FnExactStepsFor'. -/
def fnExactStepsForCard : Claim7 := { stood := { row := fnExactStepsForRow, standIns := [], harness := (true, "1ccc20a5c41ea6f1f49beade1c9fec20d05fb25d7410acd5e9f0d9713f5d71b0"), looks := true }, kinds := [], alts := [], laidByText := true, laidKinds := [.sentinel, .sentinel, .sentinel, .sentinel, .sentinel, .sentinel], laidTests := true, laidLooks := .later }
def FnExactStepsForCardSaid : Prop := Claim7.holds Tryd.pinned (.plain (OpenSpec.ofChange fnExactStepsForSpec)) fnExactStepsForCard

/-- THE SECOND FORM's CARD OF 'laws.FnExactPrintFrom'. -/
def fnExactPrintFromUptoCard : Claim7 := { stood := { row := fnExactPrintFromUptoRow, standIns := [], harness := (true, "1ccc20a5c41ea6f1f49beade1c9fec20d05fb25d7410acd5e9f0d9713f5d71b0"), looks := true }, kinds := [], alts := [], laidByText := true, laidKinds := [.sentinel, .sentinel, .sentinel, .sentinel, .sentinel, .sentinel, .data], laidTests := true, laidLooks := .later }
def FnExactPrintFromUptoCardSaid : Prop := Claim7.holds Tryd.pinned (.plain (OpenSpec.upto fnExactPrintFromSpec)) fnExactPrintFromUptoCard

/-- THE SECOND FORM's CARD OF 'laws.FnExactStepsFor'. -/
def fnExactStepsForUptoCard : Claim7 := { stood := { row := fnExactStepsForUptoRow, standIns := [], harness := (true, "1ccc20a5c41ea6f1f49beade1c9fec20d05fb25d7410acd5e9f0d9713f5d71b0"), looks := true }, kinds := [], alts := [], laidByText := true, laidKinds := [.sentinel, .sentinel, .sentinel, .sentinel, .sentinel, .sentinel], laidTests := true, laidLooks := .later }
def FnExactStepsForUptoCardSaid : Prop := Claim7.holds Tryd.pinned (.plain (OpenSpec.upto fnExactStepsForSpec)) fnExactStepsForUptoCard
end Rows
end Go.Proofs.YtnlcjbobfhmnmaaDoor
