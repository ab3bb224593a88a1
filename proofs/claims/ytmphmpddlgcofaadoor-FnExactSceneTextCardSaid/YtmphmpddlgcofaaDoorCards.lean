/-
  DERIVED. GIVEN WITH THE SEED: THE CARDS: each row of YtmphmpddlgcofaaDoorRows.lean that lists a variable, with what it lists TIED to the program's text (the seventh form; the later family's looks); each row that meets fmt, with fmt's text TOLD by the authors' own Lean function (tested against real Go, not proved from fmt's source: count such statements apart). THE CARD IS WHAT COUNTS. Prove the row's statement (the work); the ties are given (YtmphmpddlgcofaaDoorTie.lean); close each card by the builder's one call (the guide's Derived/Test/ToyasCard.lean, 'card_holds'). Laid BY PROGRAM, IN A SANDBOX (cutbox-door.mjs). By AI agents, Wed Nov 11 2026. No macro, syntax, notation, axiom, sorry.
-/
import Derived.Test.YtmphmpddlgcofaaDoorRows
import GoSem.ClaimSeven
namespace Go.Proofs.YtmphmpddlgcofaaDoor
namespace Rows

/-- THE TIED CARD OF 'laws.FnExactBestPlacement'. -/
def fnExactBestPlacementCard : Claim7 := { stood := { row := fnExactBestPlacementRow, standIns := [], harness := (true, "3d86cdaac620a5f25d736d9190cc17251e55947b404be889bd3c8031fabdd052"), looks := true }, kinds := [], alts := [], laidByText := true, laidKinds := [.sentinel, .sentinel, .sentinel, .sentinel, .sentinel, .sentinel], laidTests := true, laidLooks := .later }
def FnExactBestPlacementCardSaid : Prop := Claim7.holds Tryd.pinned (.plain (OpenSpec.ofChange fnExactBestPlacementSpec)) fnExactBestPlacementCard

/-- THE TIED CARD OF 'laws.FnExactAlikeFields'. -/
def fnExactAlikeFieldsCard : Claim7 := { stood := { row := fnExactAlikeFieldsRow, standIns := [], harness := (true, "3d86cdaac620a5f25d736d9190cc17251e55947b404be889bd3c8031fabdd052"), looks := true }, kinds := [], alts := [], laidByText := true, laidKinds := [.data, .sentinel, .sentinel, .sentinel, .sentinel, .sentinel, .sentinel], laidTests := true, laidLooks := .later }
def FnExactAlikeFieldsCardSaid : Prop := Claim7.holds Tryd.pinned (.plain (OpenSpec.ofChange fnExactAlikeFieldsSpec)) fnExactAlikeFieldsCard

/-- THE TIED CARD OF 'laws.FnExactSceneText'. -/
def fnExactSceneTextCard : Claim7 := { stood := { row := fnExactSceneTextRow, standIns := [], harness := (true, "3d86cdaac620a5f25d736d9190cc17251e55947b404be889bd3c8031fabdd052"), looks := true }, kinds := [], alts := [], laidByText := true, laidKinds := [.data, .data, .data], laidTests := true, laidLooks := .later }
def FnExactSceneTextCardSaid : Prop := Claim7.holds Tryd.pinned (.plain (OpenSpec.ofChange fnExactSceneTextSpec)) fnExactSceneTextCard

/-- THE TIED CARD OF 'laws.FnExactReadScene'. -/
def fnExactReadSceneCard : Claim7 := { stood := { row := fnExactReadSceneRow, standIns := [], harness := (true, "3d86cdaac620a5f25d736d9190cc17251e55947b404be889bd3c8031fabdd052"), looks := true }, kinds := [], alts := [], laidByText := true, laidKinds := [.data, .data, .data, .data, .sentinel, .sentinel, .sentinel, .sentinel, .sentinel, .sentinel, .pinned], laidTests := true, laidLooks := .later }
def FnExactReadSceneCardSaid : Prop := Claim7.holds Tryd.pinned (.plain (OpenSpec.ofChange fnExactReadSceneSpec)) fnExactReadSceneCard

/-- THE TIED CARD OF 'laws.FnContrast'. -/
def fnContrastCard : Claim7 := { stood := { row := fnContrastRow, standIns := [], harness := (true, "3d86cdaac620a5f25d736d9190cc17251e55947b404be889bd3c8031fabdd052"), looks := true }, kinds := [], alts := [], laidByText := true, laidKinds := [.sentinel, .sentinel, .sentinel, .sentinel, .sentinel, .sentinel], laidTests := true, laidLooks := .later }
def FnContrastCardSaid : Prop := Claim7.holds Tryd.pinned (.plain (OpenSpec.ofChange fnContrastSpec)) fnContrastCard

/-- THE TIED CARD OF 'laws.FnZones'. -/
def fnZonesCard : Claim7 := { stood := { row := fnZonesRow, standIns := [], harness := (true, "3d86cdaac620a5f25d736d9190cc17251e55947b404be889bd3c8031fabdd052"), looks := true }, kinds := [], alts := [], laidByText := true, laidKinds := [.sentinel, .sentinel, .sentinel, .sentinel, .sentinel, .sentinel], laidTests := true, laidLooks := .later }
def FnZonesCardSaid : Prop := Claim7.holds Tryd.pinned (.plain (OpenSpec.ofChange fnZonesSpec)) fnZonesCard

/-- THE TIED CARD OF 'laws.FnEverySetting'. -/
def fnEverySettingCard : Claim7 := { stood := { row := fnEverySettingRow, standIns := [], harness := (true, "3d86cdaac620a5f25d736d9190cc17251e55947b404be889bd3c8031fabdd052"), looks := true }, kinds := [], alts := [], laidByText := true, laidKinds := [.sentinel, .sentinel, .sentinel, .sentinel, .sentinel, .sentinel], laidTests := true, laidLooks := .later }
def FnEverySettingCardSaid : Prop := Claim7.holds Tryd.pinned (.plain (OpenSpec.ofChange fnEverySettingSpec)) fnEverySettingCard

/-- THE SECOND FORM's CARD OF 'laws.FnExactBestPlacement'. -/
def fnExactBestPlacementUptoCard : Claim7 := { stood := { row := fnExactBestPlacementUptoRow, standIns := [], harness := (true, "3d86cdaac620a5f25d736d9190cc17251e55947b404be889bd3c8031fabdd052"), looks := true }, kinds := [], alts := [], laidByText := true, laidKinds := [.sentinel, .sentinel, .sentinel, .sentinel, .sentinel, .sentinel], laidTests := true, laidLooks := .later }
def FnExactBestPlacementUptoCardSaid : Prop := Claim7.holds Tryd.pinned (.plain (OpenSpec.upto fnExactBestPlacementSpec)) fnExactBestPlacementUptoCard

/-- THE SECOND FORM's CARD OF 'laws.FnExactAlikeFields'. -/
def fnExactAlikeFieldsUptoCard : Claim7 := { stood := { row := fnExactAlikeFieldsUptoRow, standIns := [], harness := (true, "3d86cdaac620a5f25d736d9190cc17251e55947b404be889bd3c8031fabdd052"), looks := true }, kinds := [], alts := [], laidByText := true, laidKinds := [.data, .sentinel, .sentinel, .sentinel, .sentinel, .sentinel, .sentinel], laidTests := true, laidLooks := .later }
def FnExactAlikeFieldsUptoCardSaid : Prop := Claim7.holds Tryd.pinned (.plain (OpenSpec.upto fnExactAlikeFieldsSpec)) fnExactAlikeFieldsUptoCard

/-- THE SECOND FORM's CARD OF 'laws.FnExactSceneText'. -/
def fnExactSceneTextUptoCard : Claim7 := { stood := { row := fnExactSceneTextUptoRow, standIns := [], harness := (true, "3d86cdaac620a5f25d736d9190cc17251e55947b404be889bd3c8031fabdd052"), looks := true }, kinds := [], alts := [], laidByText := true, laidKinds := [.data, .data, .data], laidTests := true, laidLooks := .later }
def FnExactSceneTextUptoCardSaid : Prop := Claim7.holds Tryd.pinned (.plain (OpenSpec.upto fnExactSceneTextSpec)) fnExactSceneTextUptoCard

/-- THE SECOND FORM's CARD OF 'laws.FnExactReadScene'. -/
def fnExactReadSceneUptoCard : Claim7 := { stood := { row := fnExactReadSceneUptoRow, standIns := [], harness := (true, "3d86cdaac620a5f25d736d9190cc17251e55947b404be889bd3c8031fabdd052"), looks := true }, kinds := [], alts := [], laidByText := true, laidKinds := [.data, .data, .data, .data, .sentinel, .sentinel, .sentinel, .sentinel, .sentinel, .sentinel, .pinned], laidTests := true, laidLooks := .later }
def FnExactReadSceneUptoCardSaid : Prop := Claim7.holds Tryd.pinned (.plain (OpenSpec.upto fnExactReadSceneSpec)) fnExactReadSceneUptoCard

/-- THE SECOND FORM's CARD OF 'laws.FnContrast'. -/
def fnContrastUptoCard : Claim7 := { stood := { row := fnContrastUptoRow, standIns := [], harness := (true, "3d86cdaac620a5f25d736d9190cc17251e55947b404be889bd3c8031fabdd052"), looks := true }, kinds := [], alts := [], laidByText := true, laidKinds := [.sentinel, .sentinel, .sentinel, .sentinel, .sentinel, .sentinel], laidTests := true, laidLooks := .later }
def FnContrastUptoCardSaid : Prop := Claim7.holds Tryd.pinned (.plain (OpenSpec.upto fnContrastSpec)) fnContrastUptoCard

/-- THE SECOND FORM's CARD OF 'laws.FnZones'. -/
def fnZonesUptoCard : Claim7 := { stood := { row := fnZonesUptoRow, standIns := [], harness := (true, "3d86cdaac620a5f25d736d9190cc17251e55947b404be889bd3c8031fabdd052"), looks := true }, kinds := [], alts := [], laidByText := true, laidKinds := [.sentinel, .sentinel, .sentinel, .sentinel, .sentinel, .sentinel], laidTests := true, laidLooks := .later }
def FnZonesUptoCardSaid : Prop := Claim7.holds Tryd.pinned (.plain (OpenSpec.upto fnZonesSpec)) fnZonesUptoCard

/-- THE SECOND FORM's CARD OF 'laws.FnEverySetting'. -/
def fnEverySettingUptoCard : Claim7 := { stood := { row := fnEverySettingUptoRow, standIns := [], harness := (true, "3d86cdaac620a5f25d736d9190cc17251e55947b404be889bd3c8031fabdd052"), looks := true }, kinds := [], alts := [], laidByText := true, laidKinds := [.sentinel, .sentinel, .sentinel, .sentinel, .sentinel, .sentinel], laidTests := true, laidLooks := .later }
def FnEverySettingUptoCardSaid : Prop := Claim7.holds Tryd.pinned (.plain (OpenSpec.upto fnEverySettingSpec)) fnEverySettingUptoCard
end Rows
end Go.Proofs.YtmphmpddlgcofaaDoor
