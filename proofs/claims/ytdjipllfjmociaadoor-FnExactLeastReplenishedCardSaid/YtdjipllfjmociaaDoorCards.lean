/-
  DERIVED. GIVEN WITH THE SEED: THE CARDS: each row of YtdjipllfjmociaaDoorRows.lean that lists a variable, with what it lists TIED to the program's text (the seventh form; the later family's looks); each row that meets fmt, with fmt's text TOLD by the authors' own Lean function (tested against real Go, not proved from fmt's source: count such statements apart). THE CARD IS WHAT COUNTS. Prove the row's statement (the work); the ties are given (YtdjipllfjmociaaDoorTie.lean); close each card by the builder's one call (the guide's Derived/Test/ToyasCard.lean, 'card_holds'). Laid BY PROGRAM, IN A SANDBOX (cutbox-door.mjs). By AI agents, Wed Nov 11 2026. No macro, syntax, notation, axiom, sorry.
-/
import Derived.Test.YtdjipllfjmociaaDoorRows
import GoSem.ClaimSeven
namespace Go.Proofs.YtdjipllfjmociaaDoor
namespace Rows

/-- THE TIED CARD OF 'laws.FnExactLeastReplenished'. -/
def fnExactLeastReplenishedCard : Claim7 := { stood := { row := fnExactLeastReplenishedRow, standIns := [], harness := (true, "fdb1368e70ed8e53685530046e522c1ccc9dab193fda4aefb10a115fb3d19684"), looks := true }, kinds := [], alts := [], laidByText := true, laidKinds := [.sentinel, .sentinel, .sentinel, .sentinel, .sentinel, .sentinel, .data], laidTests := true, laidLooks := .later }
def FnExactLeastReplenishedCardSaid : Prop := Claim7.holds Tryd.pinned (.plain (OpenSpec.ofChange fnExactLeastReplenishedSpec)) fnExactLeastReplenishedCard

/-- THE TIED CARD OF 'laws.FnExactSheetsFrom'. -/
def fnExactSheetsFromCard : Claim7 := { stood := { row := fnExactSheetsFromRow, standIns := [], harness := (true, "fdb1368e70ed8e53685530046e522c1ccc9dab193fda4aefb10a115fb3d19684"), looks := true }, kinds := [], alts := [], laidByText := true, laidKinds := [.sentinel, .sentinel, .sentinel, .sentinel, .sentinel, .sentinel, .data], laidTests := true, laidLooks := .later }
def FnExactSheetsFromCardSaid : Prop := Claim7.holds Tryd.pinned (.plain (OpenSpec.ofChange fnExactSheetsFromSpec)) fnExactSheetsFromCard

/-- THE TIED CARD OF 'laws.FnExactDoActs'. -/
def fnExactDoActsCard : Claim7 := { stood := { row := fnExactDoActsRow, standIns := [], harness := (true, "fdb1368e70ed8e53685530046e522c1ccc9dab193fda4aefb10a115fb3d19684"), looks := true }, kinds := [], alts := [], laidByText := true, laidKinds := [.sentinel, .sentinel, .sentinel, .sentinel, .sentinel, .sentinel, .data], laidTests := true, laidLooks := .later }
def FnExactDoActsCardSaid : Prop := Claim7.holds Tryd.pinned (.plain (OpenSpec.ofChange fnExactDoActsSpec)) fnExactDoActsCard

/-- THE TIED CARD OF 'laws.FnExactFirstFailure'. -/
def fnExactFirstFailureCard : Claim7 := { stood := { row := fnExactFirstFailureRow, standIns := [], harness := (true, "fdb1368e70ed8e53685530046e522c1ccc9dab193fda4aefb10a115fb3d19684"), looks := true }, kinds := [], alts := [], laidByText := true, laidKinds := [.handle, .sentinel, .sentinel, .sentinel, .sentinel, .sentinel, .sentinel, .data], laidTests := true, laidLooks := .later }
def FnExactFirstFailureCardSaid : Prop := Claim7.holds Tryd.pinned (.plain (OpenSpec.ofChange fnExactFirstFailureSpec)) fnExactFirstFailureCard

/-- THE TIED CARD OF 'laws.FnBaths'. -/
def fnBathsCard : Claim7 := { stood := { row := fnBathsRow, standIns := [], harness := (true, "fdb1368e70ed8e53685530046e522c1ccc9dab193fda4aefb10a115fb3d19684"), looks := true }, kinds := [], alts := [], laidByText := true, laidKinds := [.sentinel, .sentinel, .sentinel, .sentinel, .sentinel, .sentinel, .data], laidTests := true, laidLooks := .later }
def FnBathsCardSaid : Prop := Claim7.holds Tryd.pinned (.plain (OpenSpec.ofChange fnBathsSpec)) fnBathsCard

/-- THE TIED CARD OF 'laws.FnReplenished'. -/
def fnReplenishedCard : Claim7 := { stood := { row := fnReplenishedRow, standIns := [], harness := (true, "fdb1368e70ed8e53685530046e522c1ccc9dab193fda4aefb10a115fb3d19684"), looks := true }, kinds := [], alts := [], laidByText := true, laidKinds := [.sentinel, .sentinel, .sentinel, .sentinel, .sentinel, .sentinel, .data], laidTests := true, laidLooks := .later }
def FnReplenishedCardSaid : Prop := Claim7.holds Tryd.pinned (.plain (OpenSpec.ofChange fnReplenishedSpec)) fnReplenishedCard

/-- THE SECOND FORM's CARD OF 'laws.FnExactLeastReplenished'. -/
def fnExactLeastReplenishedUptoCard : Claim7 := { stood := { row := fnExactLeastReplenishedUptoRow, standIns := [], harness := (true, "fdb1368e70ed8e53685530046e522c1ccc9dab193fda4aefb10a115fb3d19684"), looks := true }, kinds := [], alts := [], laidByText := true, laidKinds := [.sentinel, .sentinel, .sentinel, .sentinel, .sentinel, .sentinel, .data], laidTests := true, laidLooks := .later }
def FnExactLeastReplenishedUptoCardSaid : Prop := Claim7.holds Tryd.pinned (.plain (OpenSpec.upto fnExactLeastReplenishedSpec)) fnExactLeastReplenishedUptoCard

/-- THE SECOND FORM's CARD OF 'laws.FnExactSheetsFrom'. -/
def fnExactSheetsFromUptoCard : Claim7 := { stood := { row := fnExactSheetsFromUptoRow, standIns := [], harness := (true, "fdb1368e70ed8e53685530046e522c1ccc9dab193fda4aefb10a115fb3d19684"), looks := true }, kinds := [], alts := [], laidByText := true, laidKinds := [.sentinel, .sentinel, .sentinel, .sentinel, .sentinel, .sentinel, .data], laidTests := true, laidLooks := .later }
def FnExactSheetsFromUptoCardSaid : Prop := Claim7.holds Tryd.pinned (.plain (OpenSpec.upto fnExactSheetsFromSpec)) fnExactSheetsFromUptoCard

/-- THE SECOND FORM's CARD OF 'laws.FnExactDoActs'. -/
def fnExactDoActsUptoCard : Claim7 := { stood := { row := fnExactDoActsUptoRow, standIns := [], harness := (true, "fdb1368e70ed8e53685530046e522c1ccc9dab193fda4aefb10a115fb3d19684"), looks := true }, kinds := [], alts := [], laidByText := true, laidKinds := [.sentinel, .sentinel, .sentinel, .sentinel, .sentinel, .sentinel, .data], laidTests := true, laidLooks := .later }
def FnExactDoActsUptoCardSaid : Prop := Claim7.holds Tryd.pinned (.plain (OpenSpec.upto fnExactDoActsSpec)) fnExactDoActsUptoCard

/-- THE SECOND FORM's CARD OF 'laws.FnExactFirstFailure'. -/
def fnExactFirstFailureUptoCard : Claim7 := { stood := { row := fnExactFirstFailureUptoRow, standIns := [], harness := (true, "fdb1368e70ed8e53685530046e522c1ccc9dab193fda4aefb10a115fb3d19684"), looks := true }, kinds := [], alts := [], laidByText := true, laidKinds := [.handle, .sentinel, .sentinel, .sentinel, .sentinel, .sentinel, .sentinel, .data], laidTests := true, laidLooks := .later }
def FnExactFirstFailureUptoCardSaid : Prop := Claim7.holds Tryd.pinned (.plain (OpenSpec.upto fnExactFirstFailureSpec)) fnExactFirstFailureUptoCard

/-- THE SECOND FORM's CARD OF 'laws.FnBaths'. -/
def fnBathsUptoCard : Claim7 := { stood := { row := fnBathsUptoRow, standIns := [], harness := (true, "fdb1368e70ed8e53685530046e522c1ccc9dab193fda4aefb10a115fb3d19684"), looks := true }, kinds := [], alts := [], laidByText := true, laidKinds := [.sentinel, .sentinel, .sentinel, .sentinel, .sentinel, .sentinel, .data], laidTests := true, laidLooks := .later }
def FnBathsUptoCardSaid : Prop := Claim7.holds Tryd.pinned (.plain (OpenSpec.upto fnBathsSpec)) fnBathsUptoCard

/-- THE SECOND FORM's CARD OF 'laws.FnReplenished'. -/
def fnReplenishedUptoCard : Claim7 := { stood := { row := fnReplenishedUptoRow, standIns := [], harness := (true, "fdb1368e70ed8e53685530046e522c1ccc9dab193fda4aefb10a115fb3d19684"), looks := true }, kinds := [], alts := [], laidByText := true, laidKinds := [.sentinel, .sentinel, .sentinel, .sentinel, .sentinel, .sentinel, .data], laidTests := true, laidLooks := .later }
def FnReplenishedUptoCardSaid : Prop := Claim7.holds Tryd.pinned (.plain (OpenSpec.upto fnReplenishedSpec)) fnReplenishedUptoCard
end Rows
end Go.Proofs.YtdjipllfjmociaaDoor
