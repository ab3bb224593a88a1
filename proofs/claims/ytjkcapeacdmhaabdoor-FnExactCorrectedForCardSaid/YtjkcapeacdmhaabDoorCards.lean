/-
  DERIVED. GIVEN WITH THE SEED: THE CARDS: each row of YtjkcapeacdmhaabDoorRows.lean that lists a variable, with what it lists TIED to the program's text (the seventh form; the later family's looks); each row that meets fmt, with fmt's text TOLD by the authors' own Lean function (tested against real Go, not proved from fmt's source: count such statements apart). THE CARD IS WHAT COUNTS. Prove the row's statement (the work); the ties are given (YtjkcapeacdmhaabDoorTie.lean); close each card by the builder's one call (the guide's Derived/Test/ToyasCard.lean, 'card_holds'). Laid BY PROGRAM, IN A SANDBOX (cutbox-door.mjs). By AI agents, Wed Nov 11 2026. No macro, syntax, notation, axiom, sorry.
-/
import Derived.Test.YtjkcapeacdmhaabDoorRows
import GoSem.ClaimSeven
namespace Go.Proofs.YtjkcapeacdmhaabDoor
namespace Rows

/-- THE TIED CARD OF 'laws.FnExactFactorThirds'. -/
def fnExactFactorThirdsCard : Claim7 := { stood := { row := fnExactFactorThirdsRow, standIns := [], harness := (true, "2b53940b2afe10d04e79b67a41681506c45d324aeb036d46b23774e18c84e143"), looks := true }, kinds := [], alts := [], laidByText := true, laidKinds := [.sentinel, .sentinel, .sentinel, .sentinel, .sentinel, .data], laidTests := true, laidLooks := .later }
def FnExactFactorThirdsCardSaid : Prop := Claim7.holds Tryd.pinned (.plain (OpenSpec.ofChange fnExactFactorThirdsSpec)) fnExactFactorThirdsCard

/-- THE TIED CARD OF 'laws.FnExactWithFilters'. -/
def fnExactWithFiltersCard : Claim7 := { stood := { row := fnExactWithFiltersRow, standIns := [], harness := (true, "2b53940b2afe10d04e79b67a41681506c45d324aeb036d46b23774e18c84e143"), looks := true }, kinds := [], alts := [], laidByText := true, laidKinds := [.sentinel, .sentinel, .sentinel, .sentinel, .sentinel, .data], laidTests := true, laidLooks := .later }
def FnExactWithFiltersCardSaid : Prop := Claim7.holds Tryd.pinned (.plain (OpenSpec.ofChange fnExactWithFiltersSpec)) fnExactWithFiltersCard

/-- THE TIED CARD OF 'laws.FnExactExtraFor'. -/
def fnExactExtraForCard : Claim7 := { stood := { row := fnExactExtraForRow, standIns := [], harness := (true, "2b53940b2afe10d04e79b67a41681506c45d324aeb036d46b23774e18c84e143"), looks := true }, kinds := [], alts := [], laidByText := true, laidKinds := [.sentinel, .sentinel, .sentinel, .sentinel, .sentinel], laidTests := true, laidLooks := .later }
def FnExactExtraForCardSaid : Prop := Claim7.holds Tryd.pinned (.plain (OpenSpec.ofChange fnExactExtraForSpec)) fnExactExtraForCard

/-- THE TIED CARD OF 'laws.FnExactCorrectedFor'. -/
def fnExactCorrectedForCard : Claim7 := { stood := { row := fnExactCorrectedForRow, standIns := [], harness := (true, "2b53940b2afe10d04e79b67a41681506c45d324aeb036d46b23774e18c84e143"), looks := true }, kinds := [], alts := [], laidByText := true, laidKinds := [.sentinel, .sentinel, .sentinel, .sentinel, .sentinel], laidTests := true, laidLooks := .later }
def FnExactCorrectedForCardSaid : Prop := Claim7.holds Tryd.pinned (.plain (OpenSpec.ofChange fnExactCorrectedForSpec)) fnExactCorrectedForCard

/-- THE TIED CARD OF 'laws.FnExactMeteredFor'. -/
def fnExactMeteredForCard : Claim7 := { stood := { row := fnExactMeteredForRow, standIns := [], harness := (true, "2b53940b2afe10d04e79b67a41681506c45d324aeb036d46b23774e18c84e143"), looks := true }, kinds := [], alts := [], laidByText := true, laidKinds := [.sentinel, .sentinel, .sentinel, .sentinel, .sentinel], laidTests := true, laidLooks := .later }
def FnExactMeteredForCardSaid : Prop := Claim7.holds Tryd.pinned (.plain (OpenSpec.ofChange fnExactMeteredForSpec)) fnExactMeteredForCard

/-- THE TIED CARD OF 'laws.FnExactTimeOf'. -/
def fnExactTimeOfCard : Claim7 := { stood := { row := fnExactTimeOfRow, standIns := [], harness := (true, "2b53940b2afe10d04e79b67a41681506c45d324aeb036d46b23774e18c84e143"), looks := true }, kinds := [], alts := [], laidByText := true, laidKinds := [.sentinel, .sentinel, .sentinel, .sentinel, .sentinel, .data], laidTests := true, laidLooks := .later }
def FnExactTimeOfCardSaid : Prop := Claim7.holds Tryd.pinned (.plain (OpenSpec.ofChange fnExactTimeOfSpec)) fnExactTimeOfCard

/-- THE TIED CARD OF 'laws.FnExactThirdsIn'. -/
def fnExactThirdsInCard : Claim7 := { stood := { row := fnExactThirdsInRow, standIns := [], harness := (true, "2b53940b2afe10d04e79b67a41681506c45d324aeb036d46b23774e18c84e143"), looks := true }, kinds := [], alts := [], laidByText := true, laidKinds := [.sentinel, .sentinel, .sentinel, .sentinel, .sentinel, .data], laidTests := true, laidLooks := .later }
def FnExactThirdsInCardSaid : Prop := Claim7.holds Tryd.pinned (.plain (OpenSpec.ofChange fnExactThirdsInSpec)) fnExactThirdsInCard

/-- THE TIED CARD OF 'laws.FnExactNearestThirds'. -/
def fnExactNearestThirdsCard : Claim7 := { stood := { row := fnExactNearestThirdsRow, standIns := [], harness := (true, "2b53940b2afe10d04e79b67a41681506c45d324aeb036d46b23774e18c84e143"), looks := true }, kinds := [], alts := [], laidByText := true, laidKinds := [.sentinel, .sentinel, .sentinel, .sentinel, .sentinel, .data], laidTests := true, laidLooks := .later }
def FnExactNearestThirdsCardSaid : Prop := Claim7.holds Tryd.pinned (.plain (OpenSpec.ofChange fnExactNearestThirdsSpec)) fnExactNearestThirdsCard

/-- THE TIED CARD OF 'laws.FnExactTimesOf'. -/
def fnExactTimesOfCard : Claim7 := { stood := { row := fnExactTimesOfRow, standIns := [], harness := (true, "2b53940b2afe10d04e79b67a41681506c45d324aeb036d46b23774e18c84e143"), looks := true }, kinds := [], alts := [], laidByText := true, laidKinds := [.sentinel, .sentinel, .sentinel, .sentinel, .sentinel, .data], laidTests := true, laidLooks := .later }
def FnExactTimesOfCardSaid : Prop := Claim7.holds Tryd.pinned (.plain (OpenSpec.ofChange fnExactTimesOfSpec)) fnExactTimesOfCard

/-- THE TIED CARD OF 'laws.FnExactEnlargedBy'. -/
def fnExactEnlargedByCard : Claim7 := { stood := { row := fnExactEnlargedByRow, standIns := [], harness := (true, "2b53940b2afe10d04e79b67a41681506c45d324aeb036d46b23774e18c84e143"), looks := true }, kinds := [], alts := [], laidByText := true, laidKinds := [.sentinel, .sentinel, .sentinel, .sentinel, .sentinel, .data], laidTests := true, laidLooks := .later }
def FnExactEnlargedByCardSaid : Prop := Claim7.holds Tryd.pinned (.plain (OpenSpec.ofChange fnExactEnlargedBySpec)) fnExactEnlargedByCard

/-- THE TIED CARD OF 'laws.FnExactSettingText'. -/
def fnExactSettingTextCard : Claim7 := { stood := { row := fnExactSettingTextRow, standIns := [], harness := (true, "2b53940b2afe10d04e79b67a41681506c45d324aeb036d46b23774e18c84e143"), looks := true }, kinds := [], alts := [], laidByText := true, laidKinds := [.data, .data, .data, .data, .data, .data], laidTests := true, laidLooks := .later }
def FnExactSettingTextCardSaid : Prop := Claim7.holds Tryd.pinned (.plain (OpenSpec.ofChange fnExactSettingTextSpec)) fnExactSettingTextCard

/-- THE SECOND FORM's CARD OF 'laws.FnExactFactorThirds'. -/
def fnExactFactorThirdsUptoCard : Claim7 := { stood := { row := fnExactFactorThirdsUptoRow, standIns := [], harness := (true, "2b53940b2afe10d04e79b67a41681506c45d324aeb036d46b23774e18c84e143"), looks := true }, kinds := [], alts := [], laidByText := true, laidKinds := [.sentinel, .sentinel, .sentinel, .sentinel, .sentinel, .data], laidTests := true, laidLooks := .later }
def FnExactFactorThirdsUptoCardSaid : Prop := Claim7.holds Tryd.pinned (.plain (OpenSpec.upto fnExactFactorThirdsSpec)) fnExactFactorThirdsUptoCard

/-- THE SECOND FORM's CARD OF 'laws.FnExactWithFilters'. -/
def fnExactWithFiltersUptoCard : Claim7 := { stood := { row := fnExactWithFiltersUptoRow, standIns := [], harness := (true, "2b53940b2afe10d04e79b67a41681506c45d324aeb036d46b23774e18c84e143"), looks := true }, kinds := [], alts := [], laidByText := true, laidKinds := [.sentinel, .sentinel, .sentinel, .sentinel, .sentinel, .data], laidTests := true, laidLooks := .later }
def FnExactWithFiltersUptoCardSaid : Prop := Claim7.holds Tryd.pinned (.plain (OpenSpec.upto fnExactWithFiltersSpec)) fnExactWithFiltersUptoCard

/-- THE SECOND FORM's CARD OF 'laws.FnExactExtraFor'. -/
def fnExactExtraForUptoCard : Claim7 := { stood := { row := fnExactExtraForUptoRow, standIns := [], harness := (true, "2b53940b2afe10d04e79b67a41681506c45d324aeb036d46b23774e18c84e143"), looks := true }, kinds := [], alts := [], laidByText := true, laidKinds := [.sentinel, .sentinel, .sentinel, .sentinel, .sentinel], laidTests := true, laidLooks := .later }
def FnExactExtraForUptoCardSaid : Prop := Claim7.holds Tryd.pinned (.plain (OpenSpec.upto fnExactExtraForSpec)) fnExactExtraForUptoCard

/-- THE SECOND FORM's CARD OF 'laws.FnExactCorrectedFor'. -/
def fnExactCorrectedForUptoCard : Claim7 := { stood := { row := fnExactCorrectedForUptoRow, standIns := [], harness := (true, "2b53940b2afe10d04e79b67a41681506c45d324aeb036d46b23774e18c84e143"), looks := true }, kinds := [], alts := [], laidByText := true, laidKinds := [.sentinel, .sentinel, .sentinel, .sentinel, .sentinel], laidTests := true, laidLooks := .later }
def FnExactCorrectedForUptoCardSaid : Prop := Claim7.holds Tryd.pinned (.plain (OpenSpec.upto fnExactCorrectedForSpec)) fnExactCorrectedForUptoCard

/-- THE SECOND FORM's CARD OF 'laws.FnExactMeteredFor'. -/
def fnExactMeteredForUptoCard : Claim7 := { stood := { row := fnExactMeteredForUptoRow, standIns := [], harness := (true, "2b53940b2afe10d04e79b67a41681506c45d324aeb036d46b23774e18c84e143"), looks := true }, kinds := [], alts := [], laidByText := true, laidKinds := [.sentinel, .sentinel, .sentinel, .sentinel, .sentinel], laidTests := true, laidLooks := .later }
def FnExactMeteredForUptoCardSaid : Prop := Claim7.holds Tryd.pinned (.plain (OpenSpec.upto fnExactMeteredForSpec)) fnExactMeteredForUptoCard

/-- THE SECOND FORM's CARD OF 'laws.FnExactTimeOf'. -/
def fnExactTimeOfUptoCard : Claim7 := { stood := { row := fnExactTimeOfUptoRow, standIns := [], harness := (true, "2b53940b2afe10d04e79b67a41681506c45d324aeb036d46b23774e18c84e143"), looks := true }, kinds := [], alts := [], laidByText := true, laidKinds := [.sentinel, .sentinel, .sentinel, .sentinel, .sentinel, .data], laidTests := true, laidLooks := .later }
def FnExactTimeOfUptoCardSaid : Prop := Claim7.holds Tryd.pinned (.plain (OpenSpec.upto fnExactTimeOfSpec)) fnExactTimeOfUptoCard

/-- THE SECOND FORM's CARD OF 'laws.FnExactThirdsIn'. -/
def fnExactThirdsInUptoCard : Claim7 := { stood := { row := fnExactThirdsInUptoRow, standIns := [], harness := (true, "2b53940b2afe10d04e79b67a41681506c45d324aeb036d46b23774e18c84e143"), looks := true }, kinds := [], alts := [], laidByText := true, laidKinds := [.sentinel, .sentinel, .sentinel, .sentinel, .sentinel, .data], laidTests := true, laidLooks := .later }
def FnExactThirdsInUptoCardSaid : Prop := Claim7.holds Tryd.pinned (.plain (OpenSpec.upto fnExactThirdsInSpec)) fnExactThirdsInUptoCard

/-- THE SECOND FORM's CARD OF 'laws.FnExactNearestThirds'. -/
def fnExactNearestThirdsUptoCard : Claim7 := { stood := { row := fnExactNearestThirdsUptoRow, standIns := [], harness := (true, "2b53940b2afe10d04e79b67a41681506c45d324aeb036d46b23774e18c84e143"), looks := true }, kinds := [], alts := [], laidByText := true, laidKinds := [.sentinel, .sentinel, .sentinel, .sentinel, .sentinel, .data], laidTests := true, laidLooks := .later }
def FnExactNearestThirdsUptoCardSaid : Prop := Claim7.holds Tryd.pinned (.plain (OpenSpec.upto fnExactNearestThirdsSpec)) fnExactNearestThirdsUptoCard

/-- THE SECOND FORM's CARD OF 'laws.FnExactTimesOf'. -/
def fnExactTimesOfUptoCard : Claim7 := { stood := { row := fnExactTimesOfUptoRow, standIns := [], harness := (true, "2b53940b2afe10d04e79b67a41681506c45d324aeb036d46b23774e18c84e143"), looks := true }, kinds := [], alts := [], laidByText := true, laidKinds := [.sentinel, .sentinel, .sentinel, .sentinel, .sentinel, .data], laidTests := true, laidLooks := .later }
def FnExactTimesOfUptoCardSaid : Prop := Claim7.holds Tryd.pinned (.plain (OpenSpec.upto fnExactTimesOfSpec)) fnExactTimesOfUptoCard

/-- THE SECOND FORM's CARD OF 'laws.FnExactEnlargedBy'. -/
def fnExactEnlargedByUptoCard : Claim7 := { stood := { row := fnExactEnlargedByUptoRow, standIns := [], harness := (true, "2b53940b2afe10d04e79b67a41681506c45d324aeb036d46b23774e18c84e143"), looks := true }, kinds := [], alts := [], laidByText := true, laidKinds := [.sentinel, .sentinel, .sentinel, .sentinel, .sentinel, .data], laidTests := true, laidLooks := .later }
def FnExactEnlargedByUptoCardSaid : Prop := Claim7.holds Tryd.pinned (.plain (OpenSpec.upto fnExactEnlargedBySpec)) fnExactEnlargedByUptoCard

/-- THE SECOND FORM's CARD OF 'laws.FnExactSettingText'. -/
def fnExactSettingTextUptoCard : Claim7 := { stood := { row := fnExactSettingTextUptoRow, standIns := [], harness := (true, "2b53940b2afe10d04e79b67a41681506c45d324aeb036d46b23774e18c84e143"), looks := true }, kinds := [], alts := [], laidByText := true, laidKinds := [.data, .data, .data, .data, .data, .data], laidTests := true, laidLooks := .later }
def FnExactSettingTextUptoCardSaid : Prop := Claim7.holds Tryd.pinned (.plain (OpenSpec.upto fnExactSettingTextSpec)) fnExactSettingTextUptoCard
end Rows
end Go.Proofs.YtjkcapeacdmhaabDoor
