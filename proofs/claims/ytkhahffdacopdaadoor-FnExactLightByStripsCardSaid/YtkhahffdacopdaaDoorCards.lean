/-
  DERIVED. GIVEN WITH THE SEED: THE CARDS: each row of YtkhahffdacopdaaDoorRows.lean that lists a variable, with what it lists TIED to the program's text (the seventh form; the later family's looks); each row that meets fmt, with fmt's text TOLD by the authors' own Lean function (tested against real Go, not proved from fmt's source: count such statements apart). THE CARD IS WHAT COUNTS. Prove the row's statement (the work); the ties are given (YtkhahffdacopdaaDoorTie.lean); close each card by the builder's one call (the guide's Derived/Test/ToyasCard.lean, 'card_holds'). Laid BY PROGRAM, IN A SANDBOX (cutbox-door.mjs). By AI agents, Wed Nov 11 2026. No macro, syntax, notation, axiom, sorry.
-/
import Derived.Test.YtkhahffdacopdaaDoorRows
import GoSem.ClaimSeven
namespace Go.Proofs.YtkhahffdacopdaaDoor
namespace Rows

/-- THE TIED CARD OF 'laws.FnExactLightsOf'. -/
def fnExactLightsOfCard : Claim7 := { stood := { row := fnExactLightsOfRow, standIns := [], harness := (true, "d3e30a363a2e989dcbdbdc79babed5f6933f7ede354cac44307e1673936b95c4"), looks := true }, kinds := [], alts := [], laidByText := true, laidKinds := [.sentinel, .sentinel, .sentinel, .sentinel, .sentinel, .sentinel], laidTests := true, laidLooks := .later }
def FnExactLightsOfCardSaid : Prop := Claim7.holds Tryd.pinned (.plain (OpenSpec.ofChange fnExactLightsOfSpec)) fnExactLightsOfCard

/-- THE TIED CARD OF 'laws.FnExactCoveredLights'. -/
def fnExactCoveredLightsCard : Claim7 := { stood := { row := fnExactCoveredLightsRow, standIns := [], harness := (true, "d3e30a363a2e989dcbdbdc79babed5f6933f7ede354cac44307e1673936b95c4"), looks := true }, kinds := [], alts := [], laidByText := true, laidKinds := [.sentinel, .sentinel, .sentinel, .sentinel, .sentinel, .sentinel, .data], laidTests := true, laidLooks := .later }
def FnExactCoveredLightsCardSaid : Prop := Claim7.holds Tryd.pinned (.plain (OpenSpec.ofChange fnExactCoveredLightsSpec)) fnExactCoveredLightsCard

/-- THE TIED CARD OF 'laws.FnExactBandsOf'. -/
def fnExactBandsOfCard : Claim7 := { stood := { row := fnExactBandsOfRow, standIns := [], harness := (true, "d3e30a363a2e989dcbdbdc79babed5f6933f7ede354cac44307e1673936b95c4"), looks := true }, kinds := [], alts := [], laidByText := true, laidKinds := [.sentinel, .sentinel, .sentinel, .sentinel, .sentinel, .sentinel], laidTests := true, laidLooks := .later }
def FnExactBandsOfCardSaid : Prop := Claim7.holds Tryd.pinned (.plain (OpenSpec.ofChange fnExactBandsOfSpec)) fnExactBandsOfCard

/-- THE TIED CARD OF 'laws.FnExactCoveredBands'. -/
def fnExactCoveredBandsCard : Claim7 := { stood := { row := fnExactCoveredBandsRow, standIns := [], harness := (true, "d3e30a363a2e989dcbdbdc79babed5f6933f7ede354cac44307e1673936b95c4"), looks := true }, kinds := [], alts := [], laidByText := true, laidKinds := [.sentinel, .sentinel, .sentinel, .sentinel, .sentinel, .sentinel, .data], laidTests := true, laidLooks := .later }
def FnExactCoveredBandsCardSaid : Prop := Claim7.holds Tryd.pinned (.plain (OpenSpec.ofChange fnExactCoveredBandsSpec)) fnExactCoveredBandsCard

/-- THE TIED CARD OF 'laws.FnExactNearestBand'. -/
def fnExactNearestBandCard : Claim7 := { stood := { row := fnExactNearestBandRow, standIns := [], harness := (true, "d3e30a363a2e989dcbdbdc79babed5f6933f7ede354cac44307e1673936b95c4"), looks := true }, kinds := [], alts := [], laidByText := true, laidKinds := [.sentinel, .sentinel, .sentinel, .sentinel, .sentinel, .sentinel], laidTests := true, laidLooks := .later }
def FnExactNearestBandCardSaid : Prop := Claim7.holds Tryd.pinned (.plain (OpenSpec.ofChange fnExactNearestBandSpec)) fnExactNearestBandCard

/-- THE TIED CARD OF 'laws.FnExactFirstBand'. -/
def fnExactFirstBandCard : Claim7 := { stood := { row := fnExactFirstBandRow, standIns := [], harness := (true, "d3e30a363a2e989dcbdbdc79babed5f6933f7ede354cac44307e1673936b95c4"), looks := true }, kinds := [], alts := [], laidByText := true, laidKinds := [.sentinel, .sentinel, .sentinel, .sentinel, .sentinel, .sentinel], laidTests := true, laidLooks := .later }
def FnExactFirstBandCardSaid : Prop := Claim7.holds Tryd.pinned (.plain (OpenSpec.ofChange fnExactFirstBandSpec)) fnExactFirstBandCard

/-- THE TIED CARD OF 'laws.FnExactFinerStrip'. -/
def fnExactFinerStripCard : Claim7 := { stood := { row := fnExactFinerStripRow, standIns := [], harness := (true, "d3e30a363a2e989dcbdbdc79babed5f6933f7ede354cac44307e1673936b95c4"), looks := true }, kinds := [], alts := [], laidByText := true, laidKinds := [.sentinel, .sentinel, .sentinel, .sentinel, .sentinel, .sentinel], laidTests := true, laidLooks := .later }
def FnExactFinerStripCardSaid : Prop := Claim7.holds Tryd.pinned (.plain (OpenSpec.ofChange fnExactFinerStripSpec)) fnExactFinerStripCard

/-- THE TIED CARD OF 'laws.FnExactLightByStrips'. -/
def fnExactLightByStripsCard : Claim7 := { stood := { row := fnExactLightByStripsRow, standIns := [], harness := (true, "d3e30a363a2e989dcbdbdc79babed5f6933f7ede354cac44307e1673936b95c4"), looks := true }, kinds := [], alts := [], laidByText := true, laidKinds := [.sentinel, .sentinel, .sentinel, .sentinel, .sentinel, .sentinel], laidTests := true, laidLooks := .later }
def FnExactLightByStripsCardSaid : Prop := Claim7.holds Tryd.pinned (.plain (OpenSpec.ofChange fnExactLightByStripsSpec)) fnExactLightByStripsCard

/-- THE TIED CARD OF 'laws.FnExactScaleOf'. -/
def fnExactScaleOfCard : Claim7 := { stood := { row := fnExactScaleOfRow, standIns := [], harness := (true, "d3e30a363a2e989dcbdbdc79babed5f6933f7ede354cac44307e1673936b95c4"), looks := true }, kinds := [], alts := [], laidByText := true, laidKinds := [.sentinel, .sentinel, .sentinel, .sentinel, .sentinel, .sentinel], laidTests := true, laidLooks := .later }
def FnExactScaleOfCardSaid : Prop := Claim7.holds Tryd.pinned (.plain (OpenSpec.ofChange fnExactScaleOfSpec)) fnExactScaleOfCard

/-- THE TIED CARD OF 'laws.FnExactConvertLight'. -/
def fnExactConvertLightCard : Claim7 := { stood := { row := fnExactConvertLightRow, standIns := [], harness := (true, "d3e30a363a2e989dcbdbdc79babed5f6933f7ede354cac44307e1673936b95c4"), looks := true }, kinds := [], alts := [], laidByText := true, laidKinds := [.sentinel, .sentinel, .sentinel, .sentinel, .sentinel, .sentinel], laidTests := true, laidLooks := .later }
def FnExactConvertLightCardSaid : Prop := Claim7.holds Tryd.pinned (.plain (OpenSpec.ofChange fnExactConvertLightSpec)) fnExactConvertLightCard

/-- THE TIED CARD OF 'laws.FnExactConvertTable'. -/
def fnExactConvertTableCard : Claim7 := { stood := { row := fnExactConvertTableRow, standIns := [], harness := (true, "d3e30a363a2e989dcbdbdc79babed5f6933f7ede354cac44307e1673936b95c4"), looks := true }, kinds := [], alts := [], laidByText := true, laidKinds := [.sentinel, .sentinel, .sentinel, .sentinel, .sentinel, .sentinel], laidTests := true, laidLooks := .later }
def FnExactConvertTableCardSaid : Prop := Claim7.holds Tryd.pinned (.plain (OpenSpec.ofChange fnExactConvertTableSpec)) fnExactConvertTableCard

/-- THE SECOND FORM's CARD OF 'laws.FnExactLightsOf'. -/
def fnExactLightsOfUptoCard : Claim7 := { stood := { row := fnExactLightsOfUptoRow, standIns := [], harness := (true, "d3e30a363a2e989dcbdbdc79babed5f6933f7ede354cac44307e1673936b95c4"), looks := true }, kinds := [], alts := [], laidByText := true, laidKinds := [.sentinel, .sentinel, .sentinel, .sentinel, .sentinel, .sentinel], laidTests := true, laidLooks := .later }
def FnExactLightsOfUptoCardSaid : Prop := Claim7.holds Tryd.pinned (.plain (OpenSpec.upto fnExactLightsOfSpec)) fnExactLightsOfUptoCard

/-- THE SECOND FORM's CARD OF 'laws.FnExactCoveredLights'. -/
def fnExactCoveredLightsUptoCard : Claim7 := { stood := { row := fnExactCoveredLightsUptoRow, standIns := [], harness := (true, "d3e30a363a2e989dcbdbdc79babed5f6933f7ede354cac44307e1673936b95c4"), looks := true }, kinds := [], alts := [], laidByText := true, laidKinds := [.sentinel, .sentinel, .sentinel, .sentinel, .sentinel, .sentinel, .data], laidTests := true, laidLooks := .later }
def FnExactCoveredLightsUptoCardSaid : Prop := Claim7.holds Tryd.pinned (.plain (OpenSpec.upto fnExactCoveredLightsSpec)) fnExactCoveredLightsUptoCard

/-- THE SECOND FORM's CARD OF 'laws.FnExactBandsOf'. -/
def fnExactBandsOfUptoCard : Claim7 := { stood := { row := fnExactBandsOfUptoRow, standIns := [], harness := (true, "d3e30a363a2e989dcbdbdc79babed5f6933f7ede354cac44307e1673936b95c4"), looks := true }, kinds := [], alts := [], laidByText := true, laidKinds := [.sentinel, .sentinel, .sentinel, .sentinel, .sentinel, .sentinel], laidTests := true, laidLooks := .later }
def FnExactBandsOfUptoCardSaid : Prop := Claim7.holds Tryd.pinned (.plain (OpenSpec.upto fnExactBandsOfSpec)) fnExactBandsOfUptoCard

/-- THE SECOND FORM's CARD OF 'laws.FnExactCoveredBands'. -/
def fnExactCoveredBandsUptoCard : Claim7 := { stood := { row := fnExactCoveredBandsUptoRow, standIns := [], harness := (true, "d3e30a363a2e989dcbdbdc79babed5f6933f7ede354cac44307e1673936b95c4"), looks := true }, kinds := [], alts := [], laidByText := true, laidKinds := [.sentinel, .sentinel, .sentinel, .sentinel, .sentinel, .sentinel, .data], laidTests := true, laidLooks := .later }
def FnExactCoveredBandsUptoCardSaid : Prop := Claim7.holds Tryd.pinned (.plain (OpenSpec.upto fnExactCoveredBandsSpec)) fnExactCoveredBandsUptoCard

/-- THE SECOND FORM's CARD OF 'laws.FnExactNearestBand'. -/
def fnExactNearestBandUptoCard : Claim7 := { stood := { row := fnExactNearestBandUptoRow, standIns := [], harness := (true, "d3e30a363a2e989dcbdbdc79babed5f6933f7ede354cac44307e1673936b95c4"), looks := true }, kinds := [], alts := [], laidByText := true, laidKinds := [.sentinel, .sentinel, .sentinel, .sentinel, .sentinel, .sentinel], laidTests := true, laidLooks := .later }
def FnExactNearestBandUptoCardSaid : Prop := Claim7.holds Tryd.pinned (.plain (OpenSpec.upto fnExactNearestBandSpec)) fnExactNearestBandUptoCard

/-- THE SECOND FORM's CARD OF 'laws.FnExactFirstBand'. -/
def fnExactFirstBandUptoCard : Claim7 := { stood := { row := fnExactFirstBandUptoRow, standIns := [], harness := (true, "d3e30a363a2e989dcbdbdc79babed5f6933f7ede354cac44307e1673936b95c4"), looks := true }, kinds := [], alts := [], laidByText := true, laidKinds := [.sentinel, .sentinel, .sentinel, .sentinel, .sentinel, .sentinel], laidTests := true, laidLooks := .later }
def FnExactFirstBandUptoCardSaid : Prop := Claim7.holds Tryd.pinned (.plain (OpenSpec.upto fnExactFirstBandSpec)) fnExactFirstBandUptoCard

/-- THE SECOND FORM's CARD OF 'laws.FnExactFinerStrip'. -/
def fnExactFinerStripUptoCard : Claim7 := { stood := { row := fnExactFinerStripUptoRow, standIns := [], harness := (true, "d3e30a363a2e989dcbdbdc79babed5f6933f7ede354cac44307e1673936b95c4"), looks := true }, kinds := [], alts := [], laidByText := true, laidKinds := [.sentinel, .sentinel, .sentinel, .sentinel, .sentinel, .sentinel], laidTests := true, laidLooks := .later }
def FnExactFinerStripUptoCardSaid : Prop := Claim7.holds Tryd.pinned (.plain (OpenSpec.upto fnExactFinerStripSpec)) fnExactFinerStripUptoCard

/-- THE SECOND FORM's CARD OF 'laws.FnExactLightByStrips'. -/
def fnExactLightByStripsUptoCard : Claim7 := { stood := { row := fnExactLightByStripsUptoRow, standIns := [], harness := (true, "d3e30a363a2e989dcbdbdc79babed5f6933f7ede354cac44307e1673936b95c4"), looks := true }, kinds := [], alts := [], laidByText := true, laidKinds := [.sentinel, .sentinel, .sentinel, .sentinel, .sentinel, .sentinel], laidTests := true, laidLooks := .later }
def FnExactLightByStripsUptoCardSaid : Prop := Claim7.holds Tryd.pinned (.plain (OpenSpec.upto fnExactLightByStripsSpec)) fnExactLightByStripsUptoCard

/-- THE SECOND FORM's CARD OF 'laws.FnExactScaleOf'. -/
def fnExactScaleOfUptoCard : Claim7 := { stood := { row := fnExactScaleOfUptoRow, standIns := [], harness := (true, "d3e30a363a2e989dcbdbdc79babed5f6933f7ede354cac44307e1673936b95c4"), looks := true }, kinds := [], alts := [], laidByText := true, laidKinds := [.sentinel, .sentinel, .sentinel, .sentinel, .sentinel, .sentinel], laidTests := true, laidLooks := .later }
def FnExactScaleOfUptoCardSaid : Prop := Claim7.holds Tryd.pinned (.plain (OpenSpec.upto fnExactScaleOfSpec)) fnExactScaleOfUptoCard

/-- THE SECOND FORM's CARD OF 'laws.FnExactConvertLight'. -/
def fnExactConvertLightUptoCard : Claim7 := { stood := { row := fnExactConvertLightUptoRow, standIns := [], harness := (true, "d3e30a363a2e989dcbdbdc79babed5f6933f7ede354cac44307e1673936b95c4"), looks := true }, kinds := [], alts := [], laidByText := true, laidKinds := [.sentinel, .sentinel, .sentinel, .sentinel, .sentinel, .sentinel], laidTests := true, laidLooks := .later }
def FnExactConvertLightUptoCardSaid : Prop := Claim7.holds Tryd.pinned (.plain (OpenSpec.upto fnExactConvertLightSpec)) fnExactConvertLightUptoCard

/-- THE SECOND FORM's CARD OF 'laws.FnExactConvertTable'. -/
def fnExactConvertTableUptoCard : Claim7 := { stood := { row := fnExactConvertTableUptoRow, standIns := [], harness := (true, "d3e30a363a2e989dcbdbdc79babed5f6933f7ede354cac44307e1673936b95c4"), looks := true }, kinds := [], alts := [], laidByText := true, laidKinds := [.sentinel, .sentinel, .sentinel, .sentinel, .sentinel, .sentinel], laidTests := true, laidLooks := .later }
def FnExactConvertTableUptoCardSaid : Prop := Claim7.holds Tryd.pinned (.plain (OpenSpec.upto fnExactConvertTableSpec)) fnExactConvertTableUptoCard
end Rows
end Go.Proofs.YtkhahffdacopdaaDoor
