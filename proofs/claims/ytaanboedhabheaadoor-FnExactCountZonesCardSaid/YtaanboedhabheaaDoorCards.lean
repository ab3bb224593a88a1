/-
  DERIVED. GIVEN WITH THE SEED: THE CARDS: each row of YtaanboedhabheaaDoorRows.lean that lists a variable, with what it lists TIED to the program's text (the seventh form; the later family's looks); each row that meets fmt, with fmt's text TOLD by the authors' own Lean function (tested against real Go, not proved from fmt's source: count such statements apart). THE CARD IS WHAT COUNTS. Prove the row's statement (the work); the ties are given (YtaanboedhabheaaDoorTie.lean); close each card by the builder's one call (the guide's Derived/Test/ToyasCard.lean, 'card_holds'). Laid BY PROGRAM, IN A SANDBOX (cutbox-door.mjs). By AI agents, Wed Nov 11 2026. No macro, syntax, notation, axiom, sorry.
-/
import Derived.Test.YtaanboedhabheaaDoorRows
import GoSem.ClaimSeven
namespace Go.Proofs.YtaanboedhabheaaDoor
namespace Rows

/-- THE TIED CARD OF 'laws.FnExactReadingAt'. -/
def fnExactReadingAtCard : Claim7 := { stood := { row := fnExactReadingAtRow, standIns := [], harness := (true, "ead27f8a84d350d31ddfec1575beb0a07c7252d3ec7b4ae36c37c8dbc14398b1"), looks := true }, kinds := [], alts := [], laidByText := true, laidKinds := [.sentinel, .sentinel, .sentinel, .sentinel, .sentinel, .sentinel], laidTests := true, laidLooks := .later }
def FnExactReadingAtCardSaid : Prop := Claim7.holds Tryd.pinned (.plain (OpenSpec.ofChange fnExactReadingAtSpec)) fnExactReadingAtCard

/-- THE TIED CARD OF 'laws.FnExactMeanReading'. -/
def fnExactMeanReadingCard : Claim7 := { stood := { row := fnExactMeanReadingRow, standIns := [], harness := (true, "ead27f8a84d350d31ddfec1575beb0a07c7252d3ec7b4ae36c37c8dbc14398b1"), looks := true }, kinds := [], alts := [], laidByText := true, laidKinds := [.sentinel, .sentinel, .sentinel, .sentinel, .sentinel, .sentinel], laidTests := true, laidLooks := .later }
def FnExactMeanReadingCardSaid : Prop := Claim7.holds Tryd.pinned (.plain (OpenSpec.ofChange fnExactMeanReadingSpec)) fnExactMeanReadingCard

/-- THE TIED CARD OF 'laws.FnExactFieldMean'. -/
def fnExactFieldMeanCard : Claim7 := { stood := { row := fnExactFieldMeanRow, standIns := [], harness := (true, "ead27f8a84d350d31ddfec1575beb0a07c7252d3ec7b4ae36c37c8dbc14398b1"), looks := true }, kinds := [], alts := [], laidByText := true, laidKinds := [.sentinel, .sentinel, .sentinel, .sentinel, .sentinel, .sentinel], laidTests := true, laidLooks := .later }
def FnExactFieldMeanCardSaid : Prop := Claim7.holds Tryd.pinned (.plain (OpenSpec.ofChange fnExactFieldMeanSpec)) fnExactFieldMeanCard

/-- THE TIED CARD OF 'laws.FnExactZoneOf'. -/
def fnExactZoneOfCard : Claim7 := { stood := { row := fnExactZoneOfRow, standIns := [], harness := (true, "ead27f8a84d350d31ddfec1575beb0a07c7252d3ec7b4ae36c37c8dbc14398b1"), looks := true }, kinds := [], alts := [], laidByText := true, laidKinds := [.sentinel, .sentinel, .sentinel, .sentinel, .sentinel, .sentinel], laidTests := true, laidLooks := .later }
def FnExactZoneOfCardSaid : Prop := Claim7.holds Tryd.pinned (.plain (OpenSpec.ofChange fnExactZoneOfSpec)) fnExactZoneOfCard

/-- THE TIED CARD OF 'laws.FnExactZonesOf'. -/
def fnExactZonesOfCard : Claim7 := { stood := { row := fnExactZonesOfRow, standIns := [], harness := (true, "ead27f8a84d350d31ddfec1575beb0a07c7252d3ec7b4ae36c37c8dbc14398b1"), looks := true }, kinds := [], alts := [], laidByText := true, laidKinds := [.sentinel, .sentinel, .sentinel, .sentinel, .sentinel, .sentinel], laidTests := true, laidLooks := .later }
def FnExactZonesOfCardSaid : Prop := Claim7.holds Tryd.pinned (.plain (OpenSpec.ofChange fnExactZonesOfSpec)) fnExactZonesOfCard

/-- THE TIED CARD OF 'laws.FnExactCountZones'. -/
def fnExactCountZonesCard : Claim7 := { stood := { row := fnExactCountZonesRow, standIns := [], harness := (true, "ead27f8a84d350d31ddfec1575beb0a07c7252d3ec7b4ae36c37c8dbc14398b1"), looks := true }, kinds := [], alts := [], laidByText := true, laidKinds := [.sentinel, .sentinel, .sentinel, .sentinel, .sentinel, .sentinel], laidTests := true, laidLooks := .later }
def FnExactCountZonesCardSaid : Prop := Claim7.holds Tryd.pinned (.plain (OpenSpec.ofChange fnExactCountZonesSpec)) fnExactCountZonesCard

/-- THE TIED CARD OF 'laws.FnExactOffScale'. -/
def fnExactOffScaleCard : Claim7 := { stood := { row := fnExactOffScaleRow, standIns := [], harness := (true, "ead27f8a84d350d31ddfec1575beb0a07c7252d3ec7b4ae36c37c8dbc14398b1"), looks := true }, kinds := [], alts := [], laidByText := true, laidKinds := [.sentinel, .sentinel, .sentinel, .sentinel, .sentinel, .sentinel], laidTests := true, laidLooks := .later }
def FnExactOffScaleCardSaid : Prop := Claim7.holds Tryd.pinned (.plain (OpenSpec.ofChange fnExactOffScaleSpec)) fnExactOffScaleCard

/-- THE TIED CARD OF 'laws.FnExactPlaceFor'. -/
def fnExactPlaceForCard : Claim7 := { stood := { row := fnExactPlaceForRow, standIns := [], harness := (true, "ead27f8a84d350d31ddfec1575beb0a07c7252d3ec7b4ae36c37c8dbc14398b1"), looks := true }, kinds := [], alts := [], laidByText := true, laidKinds := [.sentinel, .sentinel, .sentinel, .sentinel, .sentinel, .sentinel], laidTests := true, laidLooks := .later }
def FnExactPlaceForCardSaid : Prop := Claim7.holds Tryd.pinned (.plain (OpenSpec.ofChange fnExactPlaceForSpec)) fnExactPlaceForCard

/-- THE TIED CARD OF 'laws.FnExactSamePlacing'. -/
def fnExactSamePlacingCard : Claim7 := { stood := { row := fnExactSamePlacingRow, standIns := [], harness := (true, "ead27f8a84d350d31ddfec1575beb0a07c7252d3ec7b4ae36c37c8dbc14398b1"), looks := true }, kinds := [], alts := [], laidByText := true, laidKinds := [.sentinel, .sentinel, .sentinel, .sentinel, .sentinel, .sentinel], laidTests := true, laidLooks := .later }
def FnExactSamePlacingCardSaid : Prop := Claim7.holds Tryd.pinned (.plain (OpenSpec.ofChange fnExactSamePlacingSpec)) fnExactSamePlacingCard

/-- THE TIED CARD OF 'laws.FnExactSettingFor'. -/
def fnExactSettingForCard : Claim7 := { stood := { row := fnExactSettingForRow, standIns := [], harness := (true, "ead27f8a84d350d31ddfec1575beb0a07c7252d3ec7b4ae36c37c8dbc14398b1"), looks := true }, kinds := [], alts := [], laidByText := true, laidKinds := [.sentinel, .sentinel, .sentinel, .sentinel, .sentinel, .sentinel], laidTests := true, laidLooks := .later }
def FnExactSettingForCardSaid : Prop := Claim7.holds Tryd.pinned (.plain (OpenSpec.ofChange fnExactSettingForSpec)) fnExactSettingForCard

/-- THE TIED CARD OF 'laws.FnExactDevelopBy'. -/
def fnExactDevelopByCard : Claim7 := { stood := { row := fnExactDevelopByRow, standIns := [], harness := (true, "ead27f8a84d350d31ddfec1575beb0a07c7252d3ec7b4ae36c37c8dbc14398b1"), looks := true }, kinds := [], alts := [], laidByText := true, laidKinds := [.sentinel, .sentinel, .sentinel, .sentinel, .sentinel, .sentinel], laidTests := true, laidLooks := .later }
def FnExactDevelopByCardSaid : Prop := Claim7.holds Tryd.pinned (.plain (OpenSpec.ofChange fnExactDevelopBySpec)) fnExactDevelopByCard

/-- THE TIED CARD OF 'laws.FnExactBrighterField'. -/
def fnExactBrighterFieldCard : Claim7 := { stood := { row := fnExactBrighterFieldRow, standIns := [], harness := (true, "ead27f8a84d350d31ddfec1575beb0a07c7252d3ec7b4ae36c37c8dbc14398b1"), looks := true }, kinds := [], alts := [], laidByText := true, laidKinds := [.sentinel, .sentinel, .sentinel, .sentinel, .sentinel, .sentinel], laidTests := true, laidLooks := .later }
def FnExactBrighterFieldCardSaid : Prop := Claim7.holds Tryd.pinned (.plain (OpenSpec.ofChange fnExactBrighterFieldSpec)) fnExactBrighterFieldCard

/-- THE SECOND FORM's CARD OF 'laws.FnExactReadingAt'. -/
def fnExactReadingAtUptoCard : Claim7 := { stood := { row := fnExactReadingAtUptoRow, standIns := [], harness := (true, "ead27f8a84d350d31ddfec1575beb0a07c7252d3ec7b4ae36c37c8dbc14398b1"), looks := true }, kinds := [], alts := [], laidByText := true, laidKinds := [.sentinel, .sentinel, .sentinel, .sentinel, .sentinel, .sentinel], laidTests := true, laidLooks := .later }
def FnExactReadingAtUptoCardSaid : Prop := Claim7.holds Tryd.pinned (.plain (OpenSpec.upto fnExactReadingAtSpec)) fnExactReadingAtUptoCard

/-- THE SECOND FORM's CARD OF 'laws.FnExactMeanReading'. -/
def fnExactMeanReadingUptoCard : Claim7 := { stood := { row := fnExactMeanReadingUptoRow, standIns := [], harness := (true, "ead27f8a84d350d31ddfec1575beb0a07c7252d3ec7b4ae36c37c8dbc14398b1"), looks := true }, kinds := [], alts := [], laidByText := true, laidKinds := [.sentinel, .sentinel, .sentinel, .sentinel, .sentinel, .sentinel], laidTests := true, laidLooks := .later }
def FnExactMeanReadingUptoCardSaid : Prop := Claim7.holds Tryd.pinned (.plain (OpenSpec.upto fnExactMeanReadingSpec)) fnExactMeanReadingUptoCard

/-- THE SECOND FORM's CARD OF 'laws.FnExactFieldMean'. -/
def fnExactFieldMeanUptoCard : Claim7 := { stood := { row := fnExactFieldMeanUptoRow, standIns := [], harness := (true, "ead27f8a84d350d31ddfec1575beb0a07c7252d3ec7b4ae36c37c8dbc14398b1"), looks := true }, kinds := [], alts := [], laidByText := true, laidKinds := [.sentinel, .sentinel, .sentinel, .sentinel, .sentinel, .sentinel], laidTests := true, laidLooks := .later }
def FnExactFieldMeanUptoCardSaid : Prop := Claim7.holds Tryd.pinned (.plain (OpenSpec.upto fnExactFieldMeanSpec)) fnExactFieldMeanUptoCard

/-- THE SECOND FORM's CARD OF 'laws.FnExactZoneOf'. -/
def fnExactZoneOfUptoCard : Claim7 := { stood := { row := fnExactZoneOfUptoRow, standIns := [], harness := (true, "ead27f8a84d350d31ddfec1575beb0a07c7252d3ec7b4ae36c37c8dbc14398b1"), looks := true }, kinds := [], alts := [], laidByText := true, laidKinds := [.sentinel, .sentinel, .sentinel, .sentinel, .sentinel, .sentinel], laidTests := true, laidLooks := .later }
def FnExactZoneOfUptoCardSaid : Prop := Claim7.holds Tryd.pinned (.plain (OpenSpec.upto fnExactZoneOfSpec)) fnExactZoneOfUptoCard

/-- THE SECOND FORM's CARD OF 'laws.FnExactZonesOf'. -/
def fnExactZonesOfUptoCard : Claim7 := { stood := { row := fnExactZonesOfUptoRow, standIns := [], harness := (true, "ead27f8a84d350d31ddfec1575beb0a07c7252d3ec7b4ae36c37c8dbc14398b1"), looks := true }, kinds := [], alts := [], laidByText := true, laidKinds := [.sentinel, .sentinel, .sentinel, .sentinel, .sentinel, .sentinel], laidTests := true, laidLooks := .later }
def FnExactZonesOfUptoCardSaid : Prop := Claim7.holds Tryd.pinned (.plain (OpenSpec.upto fnExactZonesOfSpec)) fnExactZonesOfUptoCard

/-- THE SECOND FORM's CARD OF 'laws.FnExactCountZones'. -/
def fnExactCountZonesUptoCard : Claim7 := { stood := { row := fnExactCountZonesUptoRow, standIns := [], harness := (true, "ead27f8a84d350d31ddfec1575beb0a07c7252d3ec7b4ae36c37c8dbc14398b1"), looks := true }, kinds := [], alts := [], laidByText := true, laidKinds := [.sentinel, .sentinel, .sentinel, .sentinel, .sentinel, .sentinel], laidTests := true, laidLooks := .later }
def FnExactCountZonesUptoCardSaid : Prop := Claim7.holds Tryd.pinned (.plain (OpenSpec.upto fnExactCountZonesSpec)) fnExactCountZonesUptoCard

/-- THE SECOND FORM's CARD OF 'laws.FnExactOffScale'. -/
def fnExactOffScaleUptoCard : Claim7 := { stood := { row := fnExactOffScaleUptoRow, standIns := [], harness := (true, "ead27f8a84d350d31ddfec1575beb0a07c7252d3ec7b4ae36c37c8dbc14398b1"), looks := true }, kinds := [], alts := [], laidByText := true, laidKinds := [.sentinel, .sentinel, .sentinel, .sentinel, .sentinel, .sentinel], laidTests := true, laidLooks := .later }
def FnExactOffScaleUptoCardSaid : Prop := Claim7.holds Tryd.pinned (.plain (OpenSpec.upto fnExactOffScaleSpec)) fnExactOffScaleUptoCard

/-- THE SECOND FORM's CARD OF 'laws.FnExactPlaceFor'. -/
def fnExactPlaceForUptoCard : Claim7 := { stood := { row := fnExactPlaceForUptoRow, standIns := [], harness := (true, "ead27f8a84d350d31ddfec1575beb0a07c7252d3ec7b4ae36c37c8dbc14398b1"), looks := true }, kinds := [], alts := [], laidByText := true, laidKinds := [.sentinel, .sentinel, .sentinel, .sentinel, .sentinel, .sentinel], laidTests := true, laidLooks := .later }
def FnExactPlaceForUptoCardSaid : Prop := Claim7.holds Tryd.pinned (.plain (OpenSpec.upto fnExactPlaceForSpec)) fnExactPlaceForUptoCard

/-- THE SECOND FORM's CARD OF 'laws.FnExactSamePlacing'. -/
def fnExactSamePlacingUptoCard : Claim7 := { stood := { row := fnExactSamePlacingUptoRow, standIns := [], harness := (true, "ead27f8a84d350d31ddfec1575beb0a07c7252d3ec7b4ae36c37c8dbc14398b1"), looks := true }, kinds := [], alts := [], laidByText := true, laidKinds := [.sentinel, .sentinel, .sentinel, .sentinel, .sentinel, .sentinel], laidTests := true, laidLooks := .later }
def FnExactSamePlacingUptoCardSaid : Prop := Claim7.holds Tryd.pinned (.plain (OpenSpec.upto fnExactSamePlacingSpec)) fnExactSamePlacingUptoCard

/-- THE SECOND FORM's CARD OF 'laws.FnExactSettingFor'. -/
def fnExactSettingForUptoCard : Claim7 := { stood := { row := fnExactSettingForUptoRow, standIns := [], harness := (true, "ead27f8a84d350d31ddfec1575beb0a07c7252d3ec7b4ae36c37c8dbc14398b1"), looks := true }, kinds := [], alts := [], laidByText := true, laidKinds := [.sentinel, .sentinel, .sentinel, .sentinel, .sentinel, .sentinel], laidTests := true, laidLooks := .later }
def FnExactSettingForUptoCardSaid : Prop := Claim7.holds Tryd.pinned (.plain (OpenSpec.upto fnExactSettingForSpec)) fnExactSettingForUptoCard

/-- THE SECOND FORM's CARD OF 'laws.FnExactDevelopBy'. -/
def fnExactDevelopByUptoCard : Claim7 := { stood := { row := fnExactDevelopByUptoRow, standIns := [], harness := (true, "ead27f8a84d350d31ddfec1575beb0a07c7252d3ec7b4ae36c37c8dbc14398b1"), looks := true }, kinds := [], alts := [], laidByText := true, laidKinds := [.sentinel, .sentinel, .sentinel, .sentinel, .sentinel, .sentinel], laidTests := true, laidLooks := .later }
def FnExactDevelopByUptoCardSaid : Prop := Claim7.holds Tryd.pinned (.plain (OpenSpec.upto fnExactDevelopBySpec)) fnExactDevelopByUptoCard

/-- THE SECOND FORM's CARD OF 'laws.FnExactBrighterField'. -/
def fnExactBrighterFieldUptoCard : Claim7 := { stood := { row := fnExactBrighterFieldUptoRow, standIns := [], harness := (true, "ead27f8a84d350d31ddfec1575beb0a07c7252d3ec7b4ae36c37c8dbc14398b1"), looks := true }, kinds := [], alts := [], laidByText := true, laidKinds := [.sentinel, .sentinel, .sentinel, .sentinel, .sentinel, .sentinel], laidTests := true, laidLooks := .later }
def FnExactBrighterFieldUptoCardSaid : Prop := Claim7.holds Tryd.pinned (.plain (OpenSpec.upto fnExactBrighterFieldSpec)) fnExactBrighterFieldUptoCard
end Rows
end Go.Proofs.YtaanboedhabheaaDoor
