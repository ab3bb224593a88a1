/-
  DERIVED. GIVEN WITH THE SEED: THE CARDS: each row of YtmjoccgdpchjbaaDoorRows.lean that lists a variable, with what it lists TIED to the program's text (the seventh form; the later family's looks); each row that meets fmt, with fmt's text TOLD by the authors' own Lean function (tested against real Go, not proved from fmt's source: count such statements apart). THE CARD IS WHAT COUNTS. Prove the row's statement (the work); the ties are given (YtmjoccgdpchjbaaDoorTie.lean); close each card by the builder's one call (the guide's Derived/Test/ToyasCard.lean, 'card_holds'). Laid BY PROGRAM, IN A SANDBOX (cutbox-door.mjs). By AI agents, Wed Nov 11 2026. No macro, syntax, notation, axiom, sorry.
-/
import Derived.Test.YtmjoccgdpchjbaaDoorRows
import GoSem.ClaimSeven
namespace Go.Proofs.YtmjoccgdpchjbaaDoor
namespace Rows

/-- THE TIED CARD OF 'laws.FnExactCodeName'. -/
def fnExactCodeNameCard : Claim7 := { stood := { row := fnExactCodeNameRow, standIns := [], harness := (true, "c8cbff2678913f3e68d7519b7184aabf0e5f07976d02bb70325f56ecb9df9833"), looks := true }, kinds := [], alts := [], laidByText := true, laidKinds := [.data], laidTests := true, laidLooks := .later }
def FnExactCodeNameCardSaid : Prop := Claim7.holds Tryd.pinned (.plain (OpenSpec.ofChange fnExactCodeNameSpec)) fnExactCodeNameCard

/-- THE TIED CARD OF 'laws.FnExactShutterName'. -/
def fnExactShutterNameCard : Claim7 := { stood := { row := fnExactShutterNameRow, standIns := [], harness := (true, "c8cbff2678913f3e68d7519b7184aabf0e5f07976d02bb70325f56ecb9df9833"), looks := true }, kinds := [], alts := [], laidByText := true, laidKinds := [.data, .data], laidTests := true, laidLooks := .later }
def FnExactShutterNameCardSaid : Prop := Claim7.holds Tryd.pinned (.plain (OpenSpec.ofChange fnExactShutterNameSpec)) fnExactShutterNameCard

/-- THE TIED CARD OF 'laws.FnExactApertureName'. -/
def fnExactApertureNameCard : Claim7 := { stood := { row := fnExactApertureNameRow, standIns := [], harness := (true, "c8cbff2678913f3e68d7519b7184aabf0e5f07976d02bb70325f56ecb9df9833"), looks := true }, kinds := [], alts := [], laidByText := true, laidKinds := [.data, .data], laidTests := true, laidLooks := .later }
def FnExactApertureNameCardSaid : Prop := Claim7.holds Tryd.pinned (.plain (OpenSpec.ofChange fnExactApertureNameSpec)) fnExactApertureNameCard

/-- THE TIED CARD OF 'laws.FnExactValueOf'. -/
def fnExactValueOfCard : Claim7 := { stood := { row := fnExactValueOfRow, standIns := [], harness := (true, "c8cbff2678913f3e68d7519b7184aabf0e5f07976d02bb70325f56ecb9df9833"), looks := true }, kinds := [], alts := [], laidByText := true, laidKinds := [.sentinel, .sentinel, .sentinel, .sentinel, .sentinel, .sentinel], laidTests := true, laidLooks := .later }
def FnExactValueOfCardSaid : Prop := Claim7.holds Tryd.pinned (.plain (OpenSpec.ofChange fnExactValueOfSpec)) fnExactValueOfCard

/-- THE TIED CARD OF 'laws.FnExactMoreLight'. -/
def fnExactMoreLightCard : Claim7 := { stood := { row := fnExactMoreLightRow, standIns := [], harness := (true, "c8cbff2678913f3e68d7519b7184aabf0e5f07976d02bb70325f56ecb9df9833"), looks := true }, kinds := [], alts := [], laidByText := true, laidKinds := [.sentinel, .sentinel, .sentinel, .sentinel, .sentinel, .sentinel], laidTests := true, laidLooks := .later }
def FnExactMoreLightCardSaid : Prop := Claim7.holds Tryd.pinned (.plain (OpenSpec.ofChange fnExactMoreLightSpec)) fnExactMoreLightCard

/-- THE TIED CARD OF 'laws.FnExactBracketOf'. -/
def fnExactBracketOfCard : Claim7 := { stood := { row := fnExactBracketOfRow, standIns := [], harness := (true, "c8cbff2678913f3e68d7519b7184aabf0e5f07976d02bb70325f56ecb9df9833"), looks := true }, kinds := [], alts := [], laidByText := true, laidKinds := [.sentinel, .sentinel, .sentinel, .sentinel, .sentinel, .sentinel], laidTests := true, laidLooks := .later }
def FnExactBracketOfCardSaid : Prop := Claim7.holds Tryd.pinned (.plain (OpenSpec.ofChange fnExactBracketOfSpec)) fnExactBracketOfCard

/-- THE TIED CARD OF 'laws.FnExactFactorThirds'. -/
def fnExactFactorThirdsCard : Claim7 := { stood := { row := fnExactFactorThirdsRow, standIns := [], harness := (true, "c8cbff2678913f3e68d7519b7184aabf0e5f07976d02bb70325f56ecb9df9833"), looks := true }, kinds := [], alts := [], laidByText := true, laidKinds := [.sentinel, .sentinel, .sentinel, .sentinel, .sentinel, .sentinel, .data], laidTests := true, laidLooks := .later }
def FnExactFactorThirdsCardSaid : Prop := Claim7.holds Tryd.pinned (.plain (OpenSpec.ofChange fnExactFactorThirdsSpec)) fnExactFactorThirdsCard

/-- THE TIED CARD OF 'laws.FnExactWithFilters'. -/
def fnExactWithFiltersCard : Claim7 := { stood := { row := fnExactWithFiltersRow, standIns := [], harness := (true, "c8cbff2678913f3e68d7519b7184aabf0e5f07976d02bb70325f56ecb9df9833"), looks := true }, kinds := [], alts := [], laidByText := true, laidKinds := [.sentinel, .sentinel, .sentinel, .sentinel, .sentinel, .sentinel, .data], laidTests := true, laidLooks := .later }
def FnExactWithFiltersCardSaid : Prop := Claim7.holds Tryd.pinned (.plain (OpenSpec.ofChange fnExactWithFiltersSpec)) fnExactWithFiltersCard

/-- THE TIED CARD OF 'laws.FnExactExtraFor'. -/
def fnExactExtraForCard : Claim7 := { stood := { row := fnExactExtraForRow, standIns := [], harness := (true, "c8cbff2678913f3e68d7519b7184aabf0e5f07976d02bb70325f56ecb9df9833"), looks := true }, kinds := [], alts := [], laidByText := true, laidKinds := [.sentinel, .sentinel, .sentinel, .sentinel, .sentinel, .sentinel], laidTests := true, laidLooks := .later }
def FnExactExtraForCardSaid : Prop := Claim7.holds Tryd.pinned (.plain (OpenSpec.ofChange fnExactExtraForSpec)) fnExactExtraForCard

/-- THE TIED CARD OF 'laws.FnExactCorrectedFor'. -/
def fnExactCorrectedForCard : Claim7 := { stood := { row := fnExactCorrectedForRow, standIns := [], harness := (true, "c8cbff2678913f3e68d7519b7184aabf0e5f07976d02bb70325f56ecb9df9833"), looks := true }, kinds := [], alts := [], laidByText := true, laidKinds := [.sentinel, .sentinel, .sentinel, .sentinel, .sentinel, .sentinel], laidTests := true, laidLooks := .later }
def FnExactCorrectedForCardSaid : Prop := Claim7.holds Tryd.pinned (.plain (OpenSpec.ofChange fnExactCorrectedForSpec)) fnExactCorrectedForCard

/-- THE SECOND FORM's CARD OF 'laws.FnExactCodeName'. -/
def fnExactCodeNameUptoCard : Claim7 := { stood := { row := fnExactCodeNameUptoRow, standIns := [], harness := (true, "c8cbff2678913f3e68d7519b7184aabf0e5f07976d02bb70325f56ecb9df9833"), looks := true }, kinds := [], alts := [], laidByText := true, laidKinds := [.data], laidTests := true, laidLooks := .later }
def FnExactCodeNameUptoCardSaid : Prop := Claim7.holds Tryd.pinned (.plain (OpenSpec.upto fnExactCodeNameSpec)) fnExactCodeNameUptoCard

/-- THE SECOND FORM's CARD OF 'laws.FnExactShutterName'. -/
def fnExactShutterNameUptoCard : Claim7 := { stood := { row := fnExactShutterNameUptoRow, standIns := [], harness := (true, "c8cbff2678913f3e68d7519b7184aabf0e5f07976d02bb70325f56ecb9df9833"), looks := true }, kinds := [], alts := [], laidByText := true, laidKinds := [.data, .data], laidTests := true, laidLooks := .later }
def FnExactShutterNameUptoCardSaid : Prop := Claim7.holds Tryd.pinned (.plain (OpenSpec.upto fnExactShutterNameSpec)) fnExactShutterNameUptoCard

/-- THE SECOND FORM's CARD OF 'laws.FnExactApertureName'. -/
def fnExactApertureNameUptoCard : Claim7 := { stood := { row := fnExactApertureNameUptoRow, standIns := [], harness := (true, "c8cbff2678913f3e68d7519b7184aabf0e5f07976d02bb70325f56ecb9df9833"), looks := true }, kinds := [], alts := [], laidByText := true, laidKinds := [.data, .data], laidTests := true, laidLooks := .later }
def FnExactApertureNameUptoCardSaid : Prop := Claim7.holds Tryd.pinned (.plain (OpenSpec.upto fnExactApertureNameSpec)) fnExactApertureNameUptoCard

/-- THE SECOND FORM's CARD OF 'laws.FnExactValueOf'. -/
def fnExactValueOfUptoCard : Claim7 := { stood := { row := fnExactValueOfUptoRow, standIns := [], harness := (true, "c8cbff2678913f3e68d7519b7184aabf0e5f07976d02bb70325f56ecb9df9833"), looks := true }, kinds := [], alts := [], laidByText := true, laidKinds := [.sentinel, .sentinel, .sentinel, .sentinel, .sentinel, .sentinel], laidTests := true, laidLooks := .later }
def FnExactValueOfUptoCardSaid : Prop := Claim7.holds Tryd.pinned (.plain (OpenSpec.upto fnExactValueOfSpec)) fnExactValueOfUptoCard

/-- THE SECOND FORM's CARD OF 'laws.FnExactMoreLight'. -/
def fnExactMoreLightUptoCard : Claim7 := { stood := { row := fnExactMoreLightUptoRow, standIns := [], harness := (true, "c8cbff2678913f3e68d7519b7184aabf0e5f07976d02bb70325f56ecb9df9833"), looks := true }, kinds := [], alts := [], laidByText := true, laidKinds := [.sentinel, .sentinel, .sentinel, .sentinel, .sentinel, .sentinel], laidTests := true, laidLooks := .later }
def FnExactMoreLightUptoCardSaid : Prop := Claim7.holds Tryd.pinned (.plain (OpenSpec.upto fnExactMoreLightSpec)) fnExactMoreLightUptoCard

/-- THE SECOND FORM's CARD OF 'laws.FnExactBracketOf'. -/
def fnExactBracketOfUptoCard : Claim7 := { stood := { row := fnExactBracketOfUptoRow, standIns := [], harness := (true, "c8cbff2678913f3e68d7519b7184aabf0e5f07976d02bb70325f56ecb9df9833"), looks := true }, kinds := [], alts := [], laidByText := true, laidKinds := [.sentinel, .sentinel, .sentinel, .sentinel, .sentinel, .sentinel], laidTests := true, laidLooks := .later }
def FnExactBracketOfUptoCardSaid : Prop := Claim7.holds Tryd.pinned (.plain (OpenSpec.upto fnExactBracketOfSpec)) fnExactBracketOfUptoCard

/-- THE SECOND FORM's CARD OF 'laws.FnExactFactorThirds'. -/
def fnExactFactorThirdsUptoCard : Claim7 := { stood := { row := fnExactFactorThirdsUptoRow, standIns := [], harness := (true, "c8cbff2678913f3e68d7519b7184aabf0e5f07976d02bb70325f56ecb9df9833"), looks := true }, kinds := [], alts := [], laidByText := true, laidKinds := [.sentinel, .sentinel, .sentinel, .sentinel, .sentinel, .sentinel, .data], laidTests := true, laidLooks := .later }
def FnExactFactorThirdsUptoCardSaid : Prop := Claim7.holds Tryd.pinned (.plain (OpenSpec.upto fnExactFactorThirdsSpec)) fnExactFactorThirdsUptoCard

/-- THE SECOND FORM's CARD OF 'laws.FnExactWithFilters'. -/
def fnExactWithFiltersUptoCard : Claim7 := { stood := { row := fnExactWithFiltersUptoRow, standIns := [], harness := (true, "c8cbff2678913f3e68d7519b7184aabf0e5f07976d02bb70325f56ecb9df9833"), looks := true }, kinds := [], alts := [], laidByText := true, laidKinds := [.sentinel, .sentinel, .sentinel, .sentinel, .sentinel, .sentinel, .data], laidTests := true, laidLooks := .later }
def FnExactWithFiltersUptoCardSaid : Prop := Claim7.holds Tryd.pinned (.plain (OpenSpec.upto fnExactWithFiltersSpec)) fnExactWithFiltersUptoCard

/-- THE SECOND FORM's CARD OF 'laws.FnExactExtraFor'. -/
def fnExactExtraForUptoCard : Claim7 := { stood := { row := fnExactExtraForUptoRow, standIns := [], harness := (true, "c8cbff2678913f3e68d7519b7184aabf0e5f07976d02bb70325f56ecb9df9833"), looks := true }, kinds := [], alts := [], laidByText := true, laidKinds := [.sentinel, .sentinel, .sentinel, .sentinel, .sentinel, .sentinel], laidTests := true, laidLooks := .later }
def FnExactExtraForUptoCardSaid : Prop := Claim7.holds Tryd.pinned (.plain (OpenSpec.upto fnExactExtraForSpec)) fnExactExtraForUptoCard

/-- THE SECOND FORM's CARD OF 'laws.FnExactCorrectedFor'. -/
def fnExactCorrectedForUptoCard : Claim7 := { stood := { row := fnExactCorrectedForUptoRow, standIns := [], harness := (true, "c8cbff2678913f3e68d7519b7184aabf0e5f07976d02bb70325f56ecb9df9833"), looks := true }, kinds := [], alts := [], laidByText := true, laidKinds := [.sentinel, .sentinel, .sentinel, .sentinel, .sentinel, .sentinel], laidTests := true, laidLooks := .later }
def FnExactCorrectedForUptoCardSaid : Prop := Claim7.holds Tryd.pinned (.plain (OpenSpec.upto fnExactCorrectedForSpec)) fnExactCorrectedForUptoCard
end Rows
end Go.Proofs.YtmjoccgdpchjbaaDoor
