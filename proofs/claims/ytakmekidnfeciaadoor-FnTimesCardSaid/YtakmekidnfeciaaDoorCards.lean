/-
  DERIVED. GIVEN WITH THE SEED: THE CARDS: each row of YtakmekidnfeciaaDoorRows.lean that lists a variable, with what it lists TIED to the program's text (the seventh form; the later family's looks); each row that meets fmt, with fmt's text TOLD by the authors' own Lean function (tested against real Go, not proved from fmt's source: count such statements apart). THE CARD IS WHAT COUNTS. Prove the row's statement (the work); the ties are given (YtakmekidnfeciaaDoorTie.lean); close each card by the builder's one call (the guide's Derived/Test/ToyasCard.lean, 'card_holds'). Laid BY PROGRAM, IN A SANDBOX (cutbox-door.mjs). By AI agents, Wed Nov 11 2026. No macro, syntax, notation, axiom, sorry.
-/
import Derived.Test.YtakmekidnfeciaaDoorRows
import GoSem.ClaimSeven
namespace Go.Proofs.YtakmekidnfeciaaDoor
namespace Rows

/-- THE TIED CARD OF 'laws.FnExactMeteredFor'. -/
def fnExactMeteredForCard : Claim7 := { stood := { row := fnExactMeteredForRow, standIns := [], harness := (true, "7d8ff91d2a6d5cb92fadae28c4e616ecec254fa9868527b8758d75d1dec1a713"), looks := true }, kinds := [], alts := [], laidByText := true, laidKinds := [.sentinel, .sentinel, .sentinel, .sentinel, .sentinel, .sentinel], laidTests := true, laidLooks := .later }
def FnExactMeteredForCardSaid : Prop := Claim7.holds Tryd.pinned (.plain (OpenSpec.ofChange fnExactMeteredForSpec)) fnExactMeteredForCard

/-- THE TIED CARD OF 'laws.FnExactTimeOf'. -/
def fnExactTimeOfCard : Claim7 := { stood := { row := fnExactTimeOfRow, standIns := [], harness := (true, "7d8ff91d2a6d5cb92fadae28c4e616ecec254fa9868527b8758d75d1dec1a713"), looks := true }, kinds := [], alts := [], laidByText := true, laidKinds := [.sentinel, .sentinel, .sentinel, .sentinel, .sentinel, .sentinel, .data], laidTests := true, laidLooks := .later }
def FnExactTimeOfCardSaid : Prop := Claim7.holds Tryd.pinned (.plain (OpenSpec.ofChange fnExactTimeOfSpec)) fnExactTimeOfCard

/-- THE TIED CARD OF 'laws.FnExactThirdsIn'. -/
def fnExactThirdsInCard : Claim7 := { stood := { row := fnExactThirdsInRow, standIns := [], harness := (true, "7d8ff91d2a6d5cb92fadae28c4e616ecec254fa9868527b8758d75d1dec1a713"), looks := true }, kinds := [], alts := [], laidByText := true, laidKinds := [.sentinel, .sentinel, .sentinel, .sentinel, .sentinel, .sentinel, .data], laidTests := true, laidLooks := .later }
def FnExactThirdsInCardSaid : Prop := Claim7.holds Tryd.pinned (.plain (OpenSpec.ofChange fnExactThirdsInSpec)) fnExactThirdsInCard

/-- THE TIED CARD OF 'laws.FnExactNearestThirds'. -/
def fnExactNearestThirdsCard : Claim7 := { stood := { row := fnExactNearestThirdsRow, standIns := [], harness := (true, "7d8ff91d2a6d5cb92fadae28c4e616ecec254fa9868527b8758d75d1dec1a713"), looks := true }, kinds := [], alts := [], laidByText := true, laidKinds := [.sentinel, .sentinel, .sentinel, .sentinel, .sentinel, .sentinel, .data], laidTests := true, laidLooks := .later }
def FnExactNearestThirdsCardSaid : Prop := Claim7.holds Tryd.pinned (.plain (OpenSpec.ofChange fnExactNearestThirdsSpec)) fnExactNearestThirdsCard

/-- THE TIED CARD OF 'laws.FnExactTimesOf'. -/
def fnExactTimesOfCard : Claim7 := { stood := { row := fnExactTimesOfRow, standIns := [], harness := (true, "7d8ff91d2a6d5cb92fadae28c4e616ecec254fa9868527b8758d75d1dec1a713"), looks := true }, kinds := [], alts := [], laidByText := true, laidKinds := [.sentinel, .sentinel, .sentinel, .sentinel, .sentinel, .sentinel, .data], laidTests := true, laidLooks := .later }
def FnExactTimesOfCardSaid : Prop := Claim7.holds Tryd.pinned (.plain (OpenSpec.ofChange fnExactTimesOfSpec)) fnExactTimesOfCard

/-- THE TIED CARD OF 'laws.FnExactEnlargedBy'. -/
def fnExactEnlargedByCard : Claim7 := { stood := { row := fnExactEnlargedByRow, standIns := [], harness := (true, "7d8ff91d2a6d5cb92fadae28c4e616ecec254fa9868527b8758d75d1dec1a713"), looks := true }, kinds := [], alts := [], laidByText := true, laidKinds := [.sentinel, .sentinel, .sentinel, .sentinel, .sentinel, .sentinel, .data], laidTests := true, laidLooks := .later }
def FnExactEnlargedByCardSaid : Prop := Claim7.holds Tryd.pinned (.plain (OpenSpec.ofChange fnExactEnlargedBySpec)) fnExactEnlargedByCard

/-- THE TIED CARD OF 'laws.FnExactSettingText'. -/
def fnExactSettingTextCard : Claim7 := { stood := { row := fnExactSettingTextRow, standIns := [], harness := (true, "7d8ff91d2a6d5cb92fadae28c4e616ecec254fa9868527b8758d75d1dec1a713"), looks := true }, kinds := [], alts := [], laidByText := true, laidKinds := [.data, .data, .data, .data, .data, .data], laidTests := true, laidLooks := .later }
def FnExactSettingTextCardSaid : Prop := Claim7.holds Tryd.pinned (.plain (OpenSpec.ofChange fnExactSettingTextSpec)) fnExactSettingTextCard

/-- THE TIED CARD OF 'laws.FnExactReadSetting'. -/
def fnExactReadSettingCard : Claim7 := { stood := { row := fnExactReadSettingRow, standIns := [], harness := (true, "7d8ff91d2a6d5cb92fadae28c4e616ecec254fa9868527b8758d75d1dec1a713"), looks := true }, kinds := [], alts := [], laidByText := true, laidKinds := [.data, .data, .data, .sentinel, .sentinel, .sentinel, .sentinel, .sentinel, .sentinel, .data, .data, .data], laidTests := true, laidLooks := .later }
def FnExactReadSettingCardSaid : Prop := Claim7.holds Tryd.pinned (.plain (OpenSpec.ofChange fnExactReadSettingSpec)) fnExactReadSettingCard

/-- THE TIED CARD OF 'laws.FnLong'. -/
def fnLongCard : Claim7 := { stood := { row := fnLongRow, standIns := [], harness := (true, "7d8ff91d2a6d5cb92fadae28c4e616ecec254fa9868527b8758d75d1dec1a713"), looks := true }, kinds := [], alts := [], laidByText := true, laidKinds := [.sentinel, .sentinel, .sentinel, .sentinel, .sentinel, .sentinel, .data], laidTests := true, laidLooks := .later }
def FnLongCardSaid : Prop := Claim7.holds Tryd.pinned (.plain (OpenSpec.ofChange fnLongSpec)) fnLongCard

/-- THE TIED CARD OF 'laws.FnTimes'. -/
def fnTimesCard : Claim7 := { stood := { row := fnTimesRow, standIns := [], harness := (true, "7d8ff91d2a6d5cb92fadae28c4e616ecec254fa9868527b8758d75d1dec1a713"), looks := true }, kinds := [], alts := [], laidByText := true, laidKinds := [.sentinel, .sentinel, .sentinel, .sentinel, .sentinel, .sentinel, .data], laidTests := true, laidLooks := .later }
def FnTimesCardSaid : Prop := Claim7.holds Tryd.pinned (.plain (OpenSpec.ofChange fnTimesSpec)) fnTimesCard

/-- THE SECOND FORM's CARD OF 'laws.FnExactMeteredFor'. -/
def fnExactMeteredForUptoCard : Claim7 := { stood := { row := fnExactMeteredForUptoRow, standIns := [], harness := (true, "7d8ff91d2a6d5cb92fadae28c4e616ecec254fa9868527b8758d75d1dec1a713"), looks := true }, kinds := [], alts := [], laidByText := true, laidKinds := [.sentinel, .sentinel, .sentinel, .sentinel, .sentinel, .sentinel], laidTests := true, laidLooks := .later }
def FnExactMeteredForUptoCardSaid : Prop := Claim7.holds Tryd.pinned (.plain (OpenSpec.upto fnExactMeteredForSpec)) fnExactMeteredForUptoCard

/-- THE SECOND FORM's CARD OF 'laws.FnExactTimeOf'. -/
def fnExactTimeOfUptoCard : Claim7 := { stood := { row := fnExactTimeOfUptoRow, standIns := [], harness := (true, "7d8ff91d2a6d5cb92fadae28c4e616ecec254fa9868527b8758d75d1dec1a713"), looks := true }, kinds := [], alts := [], laidByText := true, laidKinds := [.sentinel, .sentinel, .sentinel, .sentinel, .sentinel, .sentinel, .data], laidTests := true, laidLooks := .later }
def FnExactTimeOfUptoCardSaid : Prop := Claim7.holds Tryd.pinned (.plain (OpenSpec.upto fnExactTimeOfSpec)) fnExactTimeOfUptoCard

/-- THE SECOND FORM's CARD OF 'laws.FnExactThirdsIn'. -/
def fnExactThirdsInUptoCard : Claim7 := { stood := { row := fnExactThirdsInUptoRow, standIns := [], harness := (true, "7d8ff91d2a6d5cb92fadae28c4e616ecec254fa9868527b8758d75d1dec1a713"), looks := true }, kinds := [], alts := [], laidByText := true, laidKinds := [.sentinel, .sentinel, .sentinel, .sentinel, .sentinel, .sentinel, .data], laidTests := true, laidLooks := .later }
def FnExactThirdsInUptoCardSaid : Prop := Claim7.holds Tryd.pinned (.plain (OpenSpec.upto fnExactThirdsInSpec)) fnExactThirdsInUptoCard

/-- THE SECOND FORM's CARD OF 'laws.FnExactNearestThirds'. -/
def fnExactNearestThirdsUptoCard : Claim7 := { stood := { row := fnExactNearestThirdsUptoRow, standIns := [], harness := (true, "7d8ff91d2a6d5cb92fadae28c4e616ecec254fa9868527b8758d75d1dec1a713"), looks := true }, kinds := [], alts := [], laidByText := true, laidKinds := [.sentinel, .sentinel, .sentinel, .sentinel, .sentinel, .sentinel, .data], laidTests := true, laidLooks := .later }
def FnExactNearestThirdsUptoCardSaid : Prop := Claim7.holds Tryd.pinned (.plain (OpenSpec.upto fnExactNearestThirdsSpec)) fnExactNearestThirdsUptoCard

/-- THE SECOND FORM's CARD OF 'laws.FnExactTimesOf'. -/
def fnExactTimesOfUptoCard : Claim7 := { stood := { row := fnExactTimesOfUptoRow, standIns := [], harness := (true, "7d8ff91d2a6d5cb92fadae28c4e616ecec254fa9868527b8758d75d1dec1a713"), looks := true }, kinds := [], alts := [], laidByText := true, laidKinds := [.sentinel, .sentinel, .sentinel, .sentinel, .sentinel, .sentinel, .data], laidTests := true, laidLooks := .later }
def FnExactTimesOfUptoCardSaid : Prop := Claim7.holds Tryd.pinned (.plain (OpenSpec.upto fnExactTimesOfSpec)) fnExactTimesOfUptoCard

/-- THE SECOND FORM's CARD OF 'laws.FnExactEnlargedBy'. -/
def fnExactEnlargedByUptoCard : Claim7 := { stood := { row := fnExactEnlargedByUptoRow, standIns := [], harness := (true, "7d8ff91d2a6d5cb92fadae28c4e616ecec254fa9868527b8758d75d1dec1a713"), looks := true }, kinds := [], alts := [], laidByText := true, laidKinds := [.sentinel, .sentinel, .sentinel, .sentinel, .sentinel, .sentinel, .data], laidTests := true, laidLooks := .later }
def FnExactEnlargedByUptoCardSaid : Prop := Claim7.holds Tryd.pinned (.plain (OpenSpec.upto fnExactEnlargedBySpec)) fnExactEnlargedByUptoCard

/-- THE SECOND FORM's CARD OF 'laws.FnExactSettingText'. -/
def fnExactSettingTextUptoCard : Claim7 := { stood := { row := fnExactSettingTextUptoRow, standIns := [], harness := (true, "7d8ff91d2a6d5cb92fadae28c4e616ecec254fa9868527b8758d75d1dec1a713"), looks := true }, kinds := [], alts := [], laidByText := true, laidKinds := [.data, .data, .data, .data, .data, .data], laidTests := true, laidLooks := .later }
def FnExactSettingTextUptoCardSaid : Prop := Claim7.holds Tryd.pinned (.plain (OpenSpec.upto fnExactSettingTextSpec)) fnExactSettingTextUptoCard

/-- THE SECOND FORM's CARD OF 'laws.FnExactReadSetting'. -/
def fnExactReadSettingUptoCard : Claim7 := { stood := { row := fnExactReadSettingUptoRow, standIns := [], harness := (true, "7d8ff91d2a6d5cb92fadae28c4e616ecec254fa9868527b8758d75d1dec1a713"), looks := true }, kinds := [], alts := [], laidByText := true, laidKinds := [.data, .data, .data, .sentinel, .sentinel, .sentinel, .sentinel, .sentinel, .sentinel, .data, .data, .data], laidTests := true, laidLooks := .later }
def FnExactReadSettingUptoCardSaid : Prop := Claim7.holds Tryd.pinned (.plain (OpenSpec.upto fnExactReadSettingSpec)) fnExactReadSettingUptoCard

/-- THE SECOND FORM's CARD OF 'laws.FnLong'. -/
def fnLongUptoCard : Claim7 := { stood := { row := fnLongUptoRow, standIns := [], harness := (true, "7d8ff91d2a6d5cb92fadae28c4e616ecec254fa9868527b8758d75d1dec1a713"), looks := true }, kinds := [], alts := [], laidByText := true, laidKinds := [.sentinel, .sentinel, .sentinel, .sentinel, .sentinel, .sentinel, .data], laidTests := true, laidLooks := .later }
def FnLongUptoCardSaid : Prop := Claim7.holds Tryd.pinned (.plain (OpenSpec.upto fnLongSpec)) fnLongUptoCard

/-- THE SECOND FORM's CARD OF 'laws.FnTimes'. -/
def fnTimesUptoCard : Claim7 := { stood := { row := fnTimesUptoRow, standIns := [], harness := (true, "7d8ff91d2a6d5cb92fadae28c4e616ecec254fa9868527b8758d75d1dec1a713"), looks := true }, kinds := [], alts := [], laidByText := true, laidKinds := [.sentinel, .sentinel, .sentinel, .sentinel, .sentinel, .sentinel, .data], laidTests := true, laidLooks := .later }
def FnTimesUptoCardSaid : Prop := Claim7.holds Tryd.pinned (.plain (OpenSpec.upto fnTimesSpec)) fnTimesUptoCard
end Rows
end Go.Proofs.YtakmekidnfeciaaDoor
