/-
  DERIVED. GIVEN WITH THE SEED: THE CARDS: each row of YtkeeecaicoaljaaDoorRows.lean that lists a variable, with what it lists TIED to the program's text (the seventh form; the later family's looks); each row that meets fmt, with fmt's text TOLD by the authors' own Lean function (tested against real Go, not proved from fmt's source: count such statements apart). THE CARD IS WHAT COUNTS. Prove the row's statement (the work); the ties are given (YtkeeecaicoaljaaDoorTie.lean); close each card by the builder's one call (the guide's Derived/Test/ToyasCard.lean, 'card_holds'). Laid BY PROGRAM, IN A SANDBOX (cutbox-door.mjs). By AI agents, Wed Nov 11 2026. No macro, syntax, notation, axiom, sorry.
-/
import Derived.Test.YtkeeecaicoaljaaDoorRows
import GoSem.ClaimSeven
namespace Go.Proofs.YtkeeecaicoaljaaDoor
namespace Rows

/-- THE TIED CARD OF 'laws.FnExactNewBath'. -/
def fnExactNewBathCard : Claim7 := { stood := { row := fnExactNewBathRow, standIns := [], harness := (true, "4cdb02a37bc991577fcd8b96a30fe945964073e495c2113b1c8e98f3a8767887"), looks := true }, kinds := [], alts := [], laidByText := true, laidKinds := [.sentinel, .sentinel, .sentinel, .sentinel, .sentinel, .sentinel], laidTests := true, laidLooks := .later }
def FnExactNewBathCardSaid : Prop := Claim7.holds Tryd.pinned (.plain (OpenSpec.ofChange fnExactNewBathSpec)) fnExactNewBathCard

/-- THE TIED CARD OF 'laws.FnExactStrengthOf'. -/
def fnExactStrengthOfCard : Claim7 := { stood := { row := fnExactStrengthOfRow, standIns := [], harness := (true, "4cdb02a37bc991577fcd8b96a30fe945964073e495c2113b1c8e98f3a8767887"), looks := true }, kinds := [], alts := [], laidByText := true, laidKinds := [.sentinel, .sentinel, .sentinel, .sentinel, .sentinel, .sentinel], laidTests := true, laidLooks := .later }
def FnExactStrengthOfCardSaid : Prop := Claim7.holds Tryd.pinned (.plain (OpenSpec.ofChange fnExactStrengthOfSpec)) fnExactStrengthOfCard

/-- THE TIED CARD OF 'laws.FnExactSlowerBy'. -/
def fnExactSlowerByCard : Claim7 := { stood := { row := fnExactSlowerByRow, standIns := [], harness := (true, "4cdb02a37bc991577fcd8b96a30fe945964073e495c2113b1c8e98f3a8767887"), looks := true }, kinds := [], alts := [], laidByText := true, laidKinds := [.sentinel, .sentinel, .sentinel, .sentinel, .sentinel, .sentinel, .data], laidTests := true, laidLooks := .later }
def FnExactSlowerByCardSaid : Prop := Claim7.holds Tryd.pinned (.plain (OpenSpec.ofChange fnExactSlowerBySpec)) fnExactSlowerByCard

/-- THE TIED CARD OF 'laws.FnExactDevelopTime'. -/
def fnExactDevelopTimeCard : Claim7 := { stood := { row := fnExactDevelopTimeRow, standIns := [], harness := (true, "4cdb02a37bc991577fcd8b96a30fe945964073e495c2113b1c8e98f3a8767887"), looks := true }, kinds := [], alts := [], laidByText := true, laidKinds := [.sentinel, .sentinel, .sentinel, .sentinel, .sentinel, .sentinel, .data], laidTests := true, laidLooks := .later }
def FnExactDevelopTimeCardSaid : Prop := Claim7.holds Tryd.pinned (.plain (OpenSpec.ofChange fnExactDevelopTimeSpec)) fnExactDevelopTimeCard

/-- THE TIED CARD OF 'laws.FnExactDevelopSheet'. -/
def fnExactDevelopSheetCard : Claim7 := { stood := { row := fnExactDevelopSheetRow, standIns := [], harness := (true, "4cdb02a37bc991577fcd8b96a30fe945964073e495c2113b1c8e98f3a8767887"), looks := true }, kinds := [], alts := [], laidByText := true, laidKinds := [.sentinel, .sentinel, .sentinel, .sentinel, .sentinel, .sentinel, .data], laidTests := true, laidLooks := .later }
def FnExactDevelopSheetCardSaid : Prop := Claim7.holds Tryd.pinned (.plain (OpenSpec.ofChange fnExactDevelopSheetSpec)) fnExactDevelopSheetCard

/-- THE TIED CARD OF 'laws.FnExactRestBath'. -/
def fnExactRestBathCard : Claim7 := { stood := { row := fnExactRestBathRow, standIns := [], harness := (true, "4cdb02a37bc991577fcd8b96a30fe945964073e495c2113b1c8e98f3a8767887"), looks := true }, kinds := [], alts := [], laidByText := true, laidKinds := [.sentinel, .sentinel, .sentinel, .sentinel, .sentinel, .sentinel, .data], laidTests := true, laidLooks := .later }
def FnExactRestBathCardSaid : Prop := Claim7.holds Tryd.pinned (.plain (OpenSpec.ofChange fnExactRestBathSpec)) fnExactRestBathCard

/-- THE TIED CARD OF 'laws.FnExactReplenish'. -/
def fnExactReplenishCard : Claim7 := { stood := { row := fnExactReplenishRow, standIns := [], harness := (true, "4cdb02a37bc991577fcd8b96a30fe945964073e495c2113b1c8e98f3a8767887"), looks := true }, kinds := [], alts := [], laidByText := true, laidKinds := [.sentinel, .sentinel, .sentinel, .sentinel, .sentinel, .sentinel, .data], laidTests := true, laidLooks := .later }
def FnExactReplenishCardSaid : Prop := Claim7.holds Tryd.pinned (.plain (OpenSpec.ofChange fnExactReplenishSpec)) fnExactReplenishCard

/-- THE TIED CARD OF 'laws.FnExactReplenishFor'. -/
def fnExactReplenishForCard : Claim7 := { stood := { row := fnExactReplenishForRow, standIns := [], harness := (true, "4cdb02a37bc991577fcd8b96a30fe945964073e495c2113b1c8e98f3a8767887"), looks := true }, kinds := [], alts := [], laidByText := true, laidKinds := [.sentinel, .sentinel, .sentinel, .sentinel, .sentinel, .sentinel], laidTests := true, laidLooks := .later }
def FnExactReplenishForCardSaid : Prop := Claim7.holds Tryd.pinned (.plain (OpenSpec.ofChange fnExactReplenishForSpec)) fnExactReplenishForCard

/-- THE TIED CARD OF 'laws.FnExactMixBaths'. -/
def fnExactMixBathsCard : Claim7 := { stood := { row := fnExactMixBathsRow, standIns := [], harness := (true, "4cdb02a37bc991577fcd8b96a30fe945964073e495c2113b1c8e98f3a8767887"), looks := true }, kinds := [], alts := [], laidByText := true, laidKinds := [.sentinel, .sentinel, .sentinel, .sentinel, .sentinel, .sentinel], laidTests := true, laidLooks := .later }
def FnExactMixBathsCardSaid : Prop := Claim7.holds Tryd.pinned (.plain (OpenSpec.ofChange fnExactMixBathsSpec)) fnExactMixBathsCard

/-- THE TIED CARD OF 'laws.FnExactSheetsLeft'. -/
def fnExactSheetsLeftCard : Claim7 := { stood := { row := fnExactSheetsLeftRow, standIns := [], harness := (true, "4cdb02a37bc991577fcd8b96a30fe945964073e495c2113b1c8e98f3a8767887"), looks := true }, kinds := [], alts := [], laidByText := true, laidKinds := [.sentinel, .sentinel, .sentinel, .sentinel, .sentinel, .sentinel, .data], laidTests := true, laidLooks := .later }
def FnExactSheetsLeftCardSaid : Prop := Claim7.holds Tryd.pinned (.plain (OpenSpec.ofChange fnExactSheetsLeftSpec)) fnExactSheetsLeftCard

/-- THE SECOND FORM's CARD OF 'laws.FnExactNewBath'. -/
def fnExactNewBathUptoCard : Claim7 := { stood := { row := fnExactNewBathUptoRow, standIns := [], harness := (true, "4cdb02a37bc991577fcd8b96a30fe945964073e495c2113b1c8e98f3a8767887"), looks := true }, kinds := [], alts := [], laidByText := true, laidKinds := [.sentinel, .sentinel, .sentinel, .sentinel, .sentinel, .sentinel], laidTests := true, laidLooks := .later }
def FnExactNewBathUptoCardSaid : Prop := Claim7.holds Tryd.pinned (.plain (OpenSpec.upto fnExactNewBathSpec)) fnExactNewBathUptoCard

/-- THE SECOND FORM's CARD OF 'laws.FnExactStrengthOf'. -/
def fnExactStrengthOfUptoCard : Claim7 := { stood := { row := fnExactStrengthOfUptoRow, standIns := [], harness := (true, "4cdb02a37bc991577fcd8b96a30fe945964073e495c2113b1c8e98f3a8767887"), looks := true }, kinds := [], alts := [], laidByText := true, laidKinds := [.sentinel, .sentinel, .sentinel, .sentinel, .sentinel, .sentinel], laidTests := true, laidLooks := .later }
def FnExactStrengthOfUptoCardSaid : Prop := Claim7.holds Tryd.pinned (.plain (OpenSpec.upto fnExactStrengthOfSpec)) fnExactStrengthOfUptoCard

/-- THE SECOND FORM's CARD OF 'laws.FnExactSlowerBy'. -/
def fnExactSlowerByUptoCard : Claim7 := { stood := { row := fnExactSlowerByUptoRow, standIns := [], harness := (true, "4cdb02a37bc991577fcd8b96a30fe945964073e495c2113b1c8e98f3a8767887"), looks := true }, kinds := [], alts := [], laidByText := true, laidKinds := [.sentinel, .sentinel, .sentinel, .sentinel, .sentinel, .sentinel, .data], laidTests := true, laidLooks := .later }
def FnExactSlowerByUptoCardSaid : Prop := Claim7.holds Tryd.pinned (.plain (OpenSpec.upto fnExactSlowerBySpec)) fnExactSlowerByUptoCard

/-- THE SECOND FORM's CARD OF 'laws.FnExactDevelopTime'. -/
def fnExactDevelopTimeUptoCard : Claim7 := { stood := { row := fnExactDevelopTimeUptoRow, standIns := [], harness := (true, "4cdb02a37bc991577fcd8b96a30fe945964073e495c2113b1c8e98f3a8767887"), looks := true }, kinds := [], alts := [], laidByText := true, laidKinds := [.sentinel, .sentinel, .sentinel, .sentinel, .sentinel, .sentinel, .data], laidTests := true, laidLooks := .later }
def FnExactDevelopTimeUptoCardSaid : Prop := Claim7.holds Tryd.pinned (.plain (OpenSpec.upto fnExactDevelopTimeSpec)) fnExactDevelopTimeUptoCard

/-- THE SECOND FORM's CARD OF 'laws.FnExactDevelopSheet'. -/
def fnExactDevelopSheetUptoCard : Claim7 := { stood := { row := fnExactDevelopSheetUptoRow, standIns := [], harness := (true, "4cdb02a37bc991577fcd8b96a30fe945964073e495c2113b1c8e98f3a8767887"), looks := true }, kinds := [], alts := [], laidByText := true, laidKinds := [.sentinel, .sentinel, .sentinel, .sentinel, .sentinel, .sentinel, .data], laidTests := true, laidLooks := .later }
def FnExactDevelopSheetUptoCardSaid : Prop := Claim7.holds Tryd.pinned (.plain (OpenSpec.upto fnExactDevelopSheetSpec)) fnExactDevelopSheetUptoCard

/-- THE SECOND FORM's CARD OF 'laws.FnExactRestBath'. -/
def fnExactRestBathUptoCard : Claim7 := { stood := { row := fnExactRestBathUptoRow, standIns := [], harness := (true, "4cdb02a37bc991577fcd8b96a30fe945964073e495c2113b1c8e98f3a8767887"), looks := true }, kinds := [], alts := [], laidByText := true, laidKinds := [.sentinel, .sentinel, .sentinel, .sentinel, .sentinel, .sentinel, .data], laidTests := true, laidLooks := .later }
def FnExactRestBathUptoCardSaid : Prop := Claim7.holds Tryd.pinned (.plain (OpenSpec.upto fnExactRestBathSpec)) fnExactRestBathUptoCard

/-- THE SECOND FORM's CARD OF 'laws.FnExactReplenish'. -/
def fnExactReplenishUptoCard : Claim7 := { stood := { row := fnExactReplenishUptoRow, standIns := [], harness := (true, "4cdb02a37bc991577fcd8b96a30fe945964073e495c2113b1c8e98f3a8767887"), looks := true }, kinds := [], alts := [], laidByText := true, laidKinds := [.sentinel, .sentinel, .sentinel, .sentinel, .sentinel, .sentinel, .data], laidTests := true, laidLooks := .later }
def FnExactReplenishUptoCardSaid : Prop := Claim7.holds Tryd.pinned (.plain (OpenSpec.upto fnExactReplenishSpec)) fnExactReplenishUptoCard

/-- THE SECOND FORM's CARD OF 'laws.FnExactReplenishFor'. -/
def fnExactReplenishForUptoCard : Claim7 := { stood := { row := fnExactReplenishForUptoRow, standIns := [], harness := (true, "4cdb02a37bc991577fcd8b96a30fe945964073e495c2113b1c8e98f3a8767887"), looks := true }, kinds := [], alts := [], laidByText := true, laidKinds := [.sentinel, .sentinel, .sentinel, .sentinel, .sentinel, .sentinel], laidTests := true, laidLooks := .later }
def FnExactReplenishForUptoCardSaid : Prop := Claim7.holds Tryd.pinned (.plain (OpenSpec.upto fnExactReplenishForSpec)) fnExactReplenishForUptoCard

/-- THE SECOND FORM's CARD OF 'laws.FnExactMixBaths'. -/
def fnExactMixBathsUptoCard : Claim7 := { stood := { row := fnExactMixBathsUptoRow, standIns := [], harness := (true, "4cdb02a37bc991577fcd8b96a30fe945964073e495c2113b1c8e98f3a8767887"), looks := true }, kinds := [], alts := [], laidByText := true, laidKinds := [.sentinel, .sentinel, .sentinel, .sentinel, .sentinel, .sentinel], laidTests := true, laidLooks := .later }
def FnExactMixBathsUptoCardSaid : Prop := Claim7.holds Tryd.pinned (.plain (OpenSpec.upto fnExactMixBathsSpec)) fnExactMixBathsUptoCard

/-- THE SECOND FORM's CARD OF 'laws.FnExactSheetsLeft'. -/
def fnExactSheetsLeftUptoCard : Claim7 := { stood := { row := fnExactSheetsLeftUptoRow, standIns := [], harness := (true, "4cdb02a37bc991577fcd8b96a30fe945964073e495c2113b1c8e98f3a8767887"), looks := true }, kinds := [], alts := [], laidByText := true, laidKinds := [.sentinel, .sentinel, .sentinel, .sentinel, .sentinel, .sentinel, .data], laidTests := true, laidLooks := .later }
def FnExactSheetsLeftUptoCardSaid : Prop := Claim7.holds Tryd.pinned (.plain (OpenSpec.upto fnExactSheetsLeftSpec)) fnExactSheetsLeftUptoCard
end Rows
end Go.Proofs.YtkeeecaicoaljaaDoor
