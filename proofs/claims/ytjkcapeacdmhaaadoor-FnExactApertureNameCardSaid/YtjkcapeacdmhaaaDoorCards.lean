/-
  DERIVED. GIVEN WITH THE SEED: THE CARDS: each row of YtjkcapeacdmhaaaDoorRows.lean that lists a variable, with what it lists TIED to the program's text (the seventh form; the later family's looks); each row that meets fmt, with fmt's text TOLD by the authors' own Lean function (tested against real Go, not proved from fmt's source: count such statements apart). THE CARD IS WHAT COUNTS. Prove the row's statement (the work); the ties are given (YtjkcapeacdmhaaaDoorTie.lean); close each card by the builder's one call (the guide's Derived/Test/ToyasCard.lean, 'card_holds'). Laid BY PROGRAM, IN A SANDBOX (cutbox-door.mjs). By AI agents, Wed Nov 11 2026. No macro, syntax, notation, axiom, sorry.
-/
import Derived.Test.YtjkcapeacdmhaaaDoorRows
import GoSem.ClaimSeven
namespace Go.Proofs.YtjkcapeacdmhaaaDoor
namespace Rows

/-- THE TIED CARD OF 'laws.FnSettings'. -/
def fnSettingsCard : Claim7 := { stood := { row := fnSettingsRow, standIns := [], harness := (true, "81805f949e6d85047043e369912c719b9885d4df94dd883e1816c4611a96ccc0"), looks := true }, kinds := [], alts := [], laidByText := true, laidKinds := [.data, .data, .data, .sentinel, .sentinel, .sentinel, .sentinel, .sentinel, .data, .data, .data], laidTests := true, laidLooks := .later }
def FnSettingsCardSaid : Prop := Claim7.holds Tryd.pinned (.plain (OpenSpec.ofChange fnSettingsSpec)) fnSettingsCard

/-- THE TIED CARD OF 'laws.FnLong'. -/
def fnLongCard : Claim7 := { stood := { row := fnLongRow, standIns := [], harness := (true, "81805f949e6d85047043e369912c719b9885d4df94dd883e1816c4611a96ccc0"), looks := true }, kinds := [], alts := [], laidByText := true, laidKinds := [.sentinel, .sentinel, .sentinel, .sentinel, .sentinel, .data], laidTests := true, laidLooks := .later }
def FnLongCardSaid : Prop := Claim7.holds Tryd.pinned (.plain (OpenSpec.ofChange fnLongSpec)) fnLongCard

/-- THE TIED CARD OF 'laws.FnTimes'. -/
def fnTimesCard : Claim7 := { stood := { row := fnTimesRow, standIns := [], harness := (true, "81805f949e6d85047043e369912c719b9885d4df94dd883e1816c4611a96ccc0"), looks := true }, kinds := [], alts := [], laidByText := true, laidKinds := [.sentinel, .sentinel, .sentinel, .sentinel, .sentinel, .data], laidTests := true, laidLooks := .later }
def FnTimesCardSaid : Prop := Claim7.holds Tryd.pinned (.plain (OpenSpec.ofChange fnTimesSpec)) fnTimesCard

/-- THE TIED CARD OF 'laws.FnExactCodeName'. -/
def fnExactCodeNameCard : Claim7 := { stood := { row := fnExactCodeNameRow, standIns := [], harness := (true, "81805f949e6d85047043e369912c719b9885d4df94dd883e1816c4611a96ccc0"), looks := true }, kinds := [], alts := [], laidByText := true, laidKinds := [.data], laidTests := true, laidLooks := .later }
def FnExactCodeNameCardSaid : Prop := Claim7.holds Tryd.pinned (.plain (OpenSpec.ofChange fnExactCodeNameSpec)) fnExactCodeNameCard

/-- THE TIED CARD OF 'laws.FnExactShutterName'. -/
def fnExactShutterNameCard : Claim7 := { stood := { row := fnExactShutterNameRow, standIns := [], harness := (true, "81805f949e6d85047043e369912c719b9885d4df94dd883e1816c4611a96ccc0"), looks := true }, kinds := [], alts := [], laidByText := true, laidKinds := [.data, .data], laidTests := true, laidLooks := .later }
def FnExactShutterNameCardSaid : Prop := Claim7.holds Tryd.pinned (.plain (OpenSpec.ofChange fnExactShutterNameSpec)) fnExactShutterNameCard

/-- THE TIED CARD OF 'laws.FnExactApertureName'. -/
def fnExactApertureNameCard : Claim7 := { stood := { row := fnExactApertureNameRow, standIns := [], harness := (true, "81805f949e6d85047043e369912c719b9885d4df94dd883e1816c4611a96ccc0"), looks := true }, kinds := [], alts := [], laidByText := true, laidKinds := [.data, .data], laidTests := true, laidLooks := .later }
def FnExactApertureNameCardSaid : Prop := Claim7.holds Tryd.pinned (.plain (OpenSpec.ofChange fnExactApertureNameSpec)) fnExactApertureNameCard

/-- THE TIED CARD OF 'laws.FnExactValueOf'. -/
def fnExactValueOfCard : Claim7 := { stood := { row := fnExactValueOfRow, standIns := [], harness := (true, "81805f949e6d85047043e369912c719b9885d4df94dd883e1816c4611a96ccc0"), looks := true }, kinds := [], alts := [], laidByText := true, laidKinds := [.sentinel, .sentinel, .sentinel, .sentinel, .sentinel], laidTests := true, laidLooks := .later }
def FnExactValueOfCardSaid : Prop := Claim7.holds Tryd.pinned (.plain (OpenSpec.ofChange fnExactValueOfSpec)) fnExactValueOfCard

/-- THE TIED CARD OF 'laws.FnExactMoreLight'. -/
def fnExactMoreLightCard : Claim7 := { stood := { row := fnExactMoreLightRow, standIns := [], harness := (true, "81805f949e6d85047043e369912c719b9885d4df94dd883e1816c4611a96ccc0"), looks := true }, kinds := [], alts := [], laidByText := true, laidKinds := [.sentinel, .sentinel, .sentinel, .sentinel, .sentinel], laidTests := true, laidLooks := .later }
def FnExactMoreLightCardSaid : Prop := Claim7.holds Tryd.pinned (.plain (OpenSpec.ofChange fnExactMoreLightSpec)) fnExactMoreLightCard

/-- THE TIED CARD OF 'laws.FnExactSettingsFor'. -/
def fnExactSettingsForCard : Claim7 := { stood := { row := fnExactSettingsForRow, standIns := [], harness := (true, "81805f949e6d85047043e369912c719b9885d4df94dd883e1816c4611a96ccc0"), looks := true }, kinds := [], alts := [], laidByText := true, laidKinds := [.sentinel, .sentinel, .sentinel, .sentinel, .sentinel], laidTests := true, laidLooks := .later }
def FnExactSettingsForCardSaid : Prop := Claim7.holds Tryd.pinned (.plain (OpenSpec.ofChange fnExactSettingsForSpec)) fnExactSettingsForCard

/-- THE TIED CARD OF 'laws.FnExactNearestSettings'. -/
def fnExactNearestSettingsCard : Claim7 := { stood := { row := fnExactNearestSettingsRow, standIns := [], harness := (true, "81805f949e6d85047043e369912c719b9885d4df94dd883e1816c4611a96ccc0"), looks := true }, kinds := [], alts := [], laidByText := true, laidKinds := [.sentinel, .sentinel, .sentinel, .sentinel, .sentinel], laidTests := true, laidLooks := .later }
def FnExactNearestSettingsCardSaid : Prop := Claim7.holds Tryd.pinned (.plain (OpenSpec.ofChange fnExactNearestSettingsSpec)) fnExactNearestSettingsCard

/-- THE TIED CARD OF 'laws.FnExactBracketOf'. -/
def fnExactBracketOfCard : Claim7 := { stood := { row := fnExactBracketOfRow, standIns := [], harness := (true, "81805f949e6d85047043e369912c719b9885d4df94dd883e1816c4611a96ccc0"), looks := true }, kinds := [], alts := [], laidByText := true, laidKinds := [.sentinel, .sentinel, .sentinel, .sentinel, .sentinel], laidTests := true, laidLooks := .later }
def FnExactBracketOfCardSaid : Prop := Claim7.holds Tryd.pinned (.plain (OpenSpec.ofChange fnExactBracketOfSpec)) fnExactBracketOfCard

/-- THE SECOND FORM's CARD OF 'laws.FnSettings'. -/
def fnSettingsUptoCard : Claim7 := { stood := { row := fnSettingsUptoRow, standIns := [], harness := (true, "81805f949e6d85047043e369912c719b9885d4df94dd883e1816c4611a96ccc0"), looks := true }, kinds := [], alts := [], laidByText := true, laidKinds := [.data, .data, .data, .sentinel, .sentinel, .sentinel, .sentinel, .sentinel, .data, .data, .data], laidTests := true, laidLooks := .later }
def FnSettingsUptoCardSaid : Prop := Claim7.holds Tryd.pinned (.plain (OpenSpec.upto fnSettingsSpec)) fnSettingsUptoCard

/-- THE SECOND FORM's CARD OF 'laws.FnLong'. -/
def fnLongUptoCard : Claim7 := { stood := { row := fnLongUptoRow, standIns := [], harness := (true, "81805f949e6d85047043e369912c719b9885d4df94dd883e1816c4611a96ccc0"), looks := true }, kinds := [], alts := [], laidByText := true, laidKinds := [.sentinel, .sentinel, .sentinel, .sentinel, .sentinel, .data], laidTests := true, laidLooks := .later }
def FnLongUptoCardSaid : Prop := Claim7.holds Tryd.pinned (.plain (OpenSpec.upto fnLongSpec)) fnLongUptoCard

/-- THE SECOND FORM's CARD OF 'laws.FnTimes'. -/
def fnTimesUptoCard : Claim7 := { stood := { row := fnTimesUptoRow, standIns := [], harness := (true, "81805f949e6d85047043e369912c719b9885d4df94dd883e1816c4611a96ccc0"), looks := true }, kinds := [], alts := [], laidByText := true, laidKinds := [.sentinel, .sentinel, .sentinel, .sentinel, .sentinel, .data], laidTests := true, laidLooks := .later }
def FnTimesUptoCardSaid : Prop := Claim7.holds Tryd.pinned (.plain (OpenSpec.upto fnTimesSpec)) fnTimesUptoCard

/-- THE SECOND FORM's CARD OF 'laws.FnExactCodeName'. -/
def fnExactCodeNameUptoCard : Claim7 := { stood := { row := fnExactCodeNameUptoRow, standIns := [], harness := (true, "81805f949e6d85047043e369912c719b9885d4df94dd883e1816c4611a96ccc0"), looks := true }, kinds := [], alts := [], laidByText := true, laidKinds := [.data], laidTests := true, laidLooks := .later }
def FnExactCodeNameUptoCardSaid : Prop := Claim7.holds Tryd.pinned (.plain (OpenSpec.upto fnExactCodeNameSpec)) fnExactCodeNameUptoCard

/-- THE SECOND FORM's CARD OF 'laws.FnExactShutterName'. -/
def fnExactShutterNameUptoCard : Claim7 := { stood := { row := fnExactShutterNameUptoRow, standIns := [], harness := (true, "81805f949e6d85047043e369912c719b9885d4df94dd883e1816c4611a96ccc0"), looks := true }, kinds := [], alts := [], laidByText := true, laidKinds := [.data, .data], laidTests := true, laidLooks := .later }
def FnExactShutterNameUptoCardSaid : Prop := Claim7.holds Tryd.pinned (.plain (OpenSpec.upto fnExactShutterNameSpec)) fnExactShutterNameUptoCard

/-- THE SECOND FORM's CARD OF 'laws.FnExactApertureName'. -/
def fnExactApertureNameUptoCard : Claim7 := { stood := { row := fnExactApertureNameUptoRow, standIns := [], harness := (true, "81805f949e6d85047043e369912c719b9885d4df94dd883e1816c4611a96ccc0"), looks := true }, kinds := [], alts := [], laidByText := true, laidKinds := [.data, .data], laidTests := true, laidLooks := .later }
def FnExactApertureNameUptoCardSaid : Prop := Claim7.holds Tryd.pinned (.plain (OpenSpec.upto fnExactApertureNameSpec)) fnExactApertureNameUptoCard

/-- THE SECOND FORM's CARD OF 'laws.FnExactValueOf'. -/
def fnExactValueOfUptoCard : Claim7 := { stood := { row := fnExactValueOfUptoRow, standIns := [], harness := (true, "81805f949e6d85047043e369912c719b9885d4df94dd883e1816c4611a96ccc0"), looks := true }, kinds := [], alts := [], laidByText := true, laidKinds := [.sentinel, .sentinel, .sentinel, .sentinel, .sentinel], laidTests := true, laidLooks := .later }
def FnExactValueOfUptoCardSaid : Prop := Claim7.holds Tryd.pinned (.plain (OpenSpec.upto fnExactValueOfSpec)) fnExactValueOfUptoCard

/-- THE SECOND FORM's CARD OF 'laws.FnExactMoreLight'. -/
def fnExactMoreLightUptoCard : Claim7 := { stood := { row := fnExactMoreLightUptoRow, standIns := [], harness := (true, "81805f949e6d85047043e369912c719b9885d4df94dd883e1816c4611a96ccc0"), looks := true }, kinds := [], alts := [], laidByText := true, laidKinds := [.sentinel, .sentinel, .sentinel, .sentinel, .sentinel], laidTests := true, laidLooks := .later }
def FnExactMoreLightUptoCardSaid : Prop := Claim7.holds Tryd.pinned (.plain (OpenSpec.upto fnExactMoreLightSpec)) fnExactMoreLightUptoCard

/-- THE SECOND FORM's CARD OF 'laws.FnExactSettingsFor'. -/
def fnExactSettingsForUptoCard : Claim7 := { stood := { row := fnExactSettingsForUptoRow, standIns := [], harness := (true, "81805f949e6d85047043e369912c719b9885d4df94dd883e1816c4611a96ccc0"), looks := true }, kinds := [], alts := [], laidByText := true, laidKinds := [.sentinel, .sentinel, .sentinel, .sentinel, .sentinel], laidTests := true, laidLooks := .later }
def FnExactSettingsForUptoCardSaid : Prop := Claim7.holds Tryd.pinned (.plain (OpenSpec.upto fnExactSettingsForSpec)) fnExactSettingsForUptoCard

/-- THE SECOND FORM's CARD OF 'laws.FnExactNearestSettings'. -/
def fnExactNearestSettingsUptoCard : Claim7 := { stood := { row := fnExactNearestSettingsUptoRow, standIns := [], harness := (true, "81805f949e6d85047043e369912c719b9885d4df94dd883e1816c4611a96ccc0"), looks := true }, kinds := [], alts := [], laidByText := true, laidKinds := [.sentinel, .sentinel, .sentinel, .sentinel, .sentinel], laidTests := true, laidLooks := .later }
def FnExactNearestSettingsUptoCardSaid : Prop := Claim7.holds Tryd.pinned (.plain (OpenSpec.upto fnExactNearestSettingsSpec)) fnExactNearestSettingsUptoCard

/-- THE SECOND FORM's CARD OF 'laws.FnExactBracketOf'. -/
def fnExactBracketOfUptoCard : Claim7 := { stood := { row := fnExactBracketOfUptoRow, standIns := [], harness := (true, "81805f949e6d85047043e369912c719b9885d4df94dd883e1816c4611a96ccc0"), looks := true }, kinds := [], alts := [], laidByText := true, laidKinds := [.sentinel, .sentinel, .sentinel, .sentinel, .sentinel], laidTests := true, laidLooks := .later }
def FnExactBracketOfUptoCardSaid : Prop := Claim7.holds Tryd.pinned (.plain (OpenSpec.upto fnExactBracketOfSpec)) fnExactBracketOfUptoCard
end Rows
end Go.Proofs.YtjkcapeacdmhaaaDoor
