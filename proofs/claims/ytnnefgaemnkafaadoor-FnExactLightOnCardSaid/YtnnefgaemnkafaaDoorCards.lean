/-
  DERIVED. GIVEN WITH THE SEED: THE CARDS: each row of YtnnefgaemnkafaaDoorRows.lean that lists a variable, with what it lists TIED to the program's text (the seventh form; the later family's looks); each row that meets fmt, with fmt's text TOLD by the authors' own Lean function (tested against real Go, not proved from fmt's source: count such statements apart). THE CARD IS WHAT COUNTS. Prove the row's statement (the work); the ties are given (YtnnefgaemnkafaaDoorTie.lean); close each card by the builder's one call (the guide's Derived/Test/ToyasCard.lean, 'card_holds'). Laid BY PROGRAM, IN A SANDBOX (cutbox-door.mjs). By AI agents, Wed Nov 11 2026. No macro, syntax, notation, axiom, sorry.
-/
import Derived.Test.YtnnefgaemnkafaaDoorRows
import GoSem.ClaimSeven
namespace Go.Proofs.YtnnefgaemnkafaaDoor
namespace Rows

/-- THE TIED CARD OF 'laws.FnExactDodgeSteps'. -/
def fnExactDodgeStepsCard : Claim7 := { stood := { row := fnExactDodgeStepsRow, standIns := [], harness := (true, "687b609e05af3e4999a6f81e7f4d329efe104afe30cec0087339a4255f412f0b"), looks := true }, kinds := [], alts := [], laidByText := true, laidKinds := [.sentinel, .sentinel, .sentinel, .sentinel, .sentinel, .sentinel], laidTests := true, laidLooks := .later }
def FnExactDodgeStepsCardSaid : Prop := Claim7.holds Tryd.pinned (.plain (OpenSpec.ofChange fnExactDodgeStepsSpec)) fnExactDodgeStepsCard

/-- THE TIED CARD OF 'laws.FnExactBurnSteps'. -/
def fnExactBurnStepsCard : Claim7 := { stood := { row := fnExactBurnStepsRow, standIns := [], harness := (true, "687b609e05af3e4999a6f81e7f4d329efe104afe30cec0087339a4255f412f0b"), looks := true }, kinds := [], alts := [], laidByText := true, laidKinds := [.sentinel, .sentinel, .sentinel, .sentinel, .sentinel, .sentinel], laidTests := true, laidLooks := .later }
def FnExactBurnStepsCardSaid : Prop := Claim7.holds Tryd.pinned (.plain (OpenSpec.ofChange fnExactBurnStepsSpec)) fnExactBurnStepsCard

/-- THE TIED CARD OF 'laws.FnExactShorterSteps'. -/
def fnExactShorterStepsCard : Claim7 := { stood := { row := fnExactShorterStepsRow, standIns := [], harness := (true, "687b609e05af3e4999a6f81e7f4d329efe104afe30cec0087339a4255f412f0b"), looks := true }, kinds := [], alts := [], laidByText := true, laidKinds := [.sentinel, .sentinel, .sentinel, .sentinel, .sentinel, .sentinel], laidTests := true, laidLooks := .later }
def FnExactShorterStepsCardSaid : Prop := Claim7.holds Tryd.pinned (.plain (OpenSpec.ofChange fnExactShorterStepsSpec)) fnExactShorterStepsCard

/-- THE TIED CARD OF 'laws.FnExactMirrorSteps'. -/
def fnExactMirrorStepsCard : Claim7 := { stood := { row := fnExactMirrorStepsRow, standIns := [], harness := (true, "687b609e05af3e4999a6f81e7f4d329efe104afe30cec0087339a4255f412f0b"), looks := true }, kinds := [], alts := [], laidByText := true, laidKinds := [.sentinel, .sentinel, .sentinel, .sentinel, .sentinel, .sentinel], laidTests := true, laidLooks := .later }
def FnExactMirrorStepsCardSaid : Prop := Claim7.holds Tryd.pinned (.plain (OpenSpec.ofChange fnExactMirrorStepsSpec)) fnExactMirrorStepsCard

/-- THE TIED CARD OF 'laws.FnExactLightOn'. -/
def fnExactLightOnCard : Claim7 := { stood := { row := fnExactLightOnRow, standIns := [], harness := (true, "687b609e05af3e4999a6f81e7f4d329efe104afe30cec0087339a4255f412f0b"), looks := true }, kinds := [], alts := [], laidByText := true, laidKinds := [.sentinel, .sentinel, .sentinel, .sentinel, .sentinel, .sentinel, .data], laidTests := true, laidLooks := .later }
def FnExactLightOnCardSaid : Prop := Claim7.holds Tryd.pinned (.plain (OpenSpec.ofChange fnExactLightOnSpec)) fnExactLightOnCard

/-- THE TIED CARD OF 'laws.FnExactPrintFrom'. -/
def fnExactPrintFromCard : Claim7 := { stood := { row := fnExactPrintFromRow, standIns := [], harness := (true, "687b609e05af3e4999a6f81e7f4d329efe104afe30cec0087339a4255f412f0b"), looks := true }, kinds := [], alts := [], laidByText := true, laidKinds := [.sentinel, .sentinel, .sentinel, .sentinel, .sentinel, .sentinel, .data], laidTests := true, laidLooks := .later }
def FnExactPrintFromCardSaid : Prop := Claim7.holds Tryd.pinned (.plain (OpenSpec.ofChange fnExactPrintFromSpec)) fnExactPrintFromCard

/-- THE TIED CARD OF 'laws.FnExactStepsFor'. -/
def fnExactStepsForCard : Claim7 := { stood := { row := fnExactStepsForRow, standIns := [], harness := (true, "687b609e05af3e4999a6f81e7f4d329efe104afe30cec0087339a4255f412f0b"), looks := true }, kinds := [], alts := [], laidByText := true, laidKinds := [.sentinel, .sentinel, .sentinel, .sentinel, .sentinel, .sentinel], laidTests := true, laidLooks := .later }
def FnExactStepsForCardSaid : Prop := Claim7.holds Tryd.pinned (.plain (OpenSpec.ofChange fnExactStepsForSpec)) fnExactStepsForCard

/-- THE SECOND FORM's CARD OF 'laws.FnExactDodgeSteps'. -/
def fnExactDodgeStepsUptoCard : Claim7 := { stood := { row := fnExactDodgeStepsUptoRow, standIns := [], harness := (true, "687b609e05af3e4999a6f81e7f4d329efe104afe30cec0087339a4255f412f0b"), looks := true }, kinds := [], alts := [], laidByText := true, laidKinds := [.sentinel, .sentinel, .sentinel, .sentinel, .sentinel, .sentinel], laidTests := true, laidLooks := .later }
def FnExactDodgeStepsUptoCardSaid : Prop := Claim7.holds Tryd.pinned (.plain (OpenSpec.upto fnExactDodgeStepsSpec)) fnExactDodgeStepsUptoCard

/-- THE SECOND FORM's CARD OF 'laws.FnExactBurnSteps'. -/
def fnExactBurnStepsUptoCard : Claim7 := { stood := { row := fnExactBurnStepsUptoRow, standIns := [], harness := (true, "687b609e05af3e4999a6f81e7f4d329efe104afe30cec0087339a4255f412f0b"), looks := true }, kinds := [], alts := [], laidByText := true, laidKinds := [.sentinel, .sentinel, .sentinel, .sentinel, .sentinel, .sentinel], laidTests := true, laidLooks := .later }
def FnExactBurnStepsUptoCardSaid : Prop := Claim7.holds Tryd.pinned (.plain (OpenSpec.upto fnExactBurnStepsSpec)) fnExactBurnStepsUptoCard

/-- THE SECOND FORM's CARD OF 'laws.FnExactShorterSteps'. -/
def fnExactShorterStepsUptoCard : Claim7 := { stood := { row := fnExactShorterStepsUptoRow, standIns := [], harness := (true, "687b609e05af3e4999a6f81e7f4d329efe104afe30cec0087339a4255f412f0b"), looks := true }, kinds := [], alts := [], laidByText := true, laidKinds := [.sentinel, .sentinel, .sentinel, .sentinel, .sentinel, .sentinel], laidTests := true, laidLooks := .later }
def FnExactShorterStepsUptoCardSaid : Prop := Claim7.holds Tryd.pinned (.plain (OpenSpec.upto fnExactShorterStepsSpec)) fnExactShorterStepsUptoCard

/-- THE SECOND FORM's CARD OF 'laws.FnExactMirrorSteps'. -/
def fnExactMirrorStepsUptoCard : Claim7 := { stood := { row := fnExactMirrorStepsUptoRow, standIns := [], harness := (true, "687b609e05af3e4999a6f81e7f4d329efe104afe30cec0087339a4255f412f0b"), looks := true }, kinds := [], alts := [], laidByText := true, laidKinds := [.sentinel, .sentinel, .sentinel, .sentinel, .sentinel, .sentinel], laidTests := true, laidLooks := .later }
def FnExactMirrorStepsUptoCardSaid : Prop := Claim7.holds Tryd.pinned (.plain (OpenSpec.upto fnExactMirrorStepsSpec)) fnExactMirrorStepsUptoCard

/-- THE SECOND FORM's CARD OF 'laws.FnExactLightOn'. -/
def fnExactLightOnUptoCard : Claim7 := { stood := { row := fnExactLightOnUptoRow, standIns := [], harness := (true, "687b609e05af3e4999a6f81e7f4d329efe104afe30cec0087339a4255f412f0b"), looks := true }, kinds := [], alts := [], laidByText := true, laidKinds := [.sentinel, .sentinel, .sentinel, .sentinel, .sentinel, .sentinel, .data], laidTests := true, laidLooks := .later }
def FnExactLightOnUptoCardSaid : Prop := Claim7.holds Tryd.pinned (.plain (OpenSpec.upto fnExactLightOnSpec)) fnExactLightOnUptoCard

/-- THE SECOND FORM's CARD OF 'laws.FnExactPrintFrom'. -/
def fnExactPrintFromUptoCard : Claim7 := { stood := { row := fnExactPrintFromUptoRow, standIns := [], harness := (true, "687b609e05af3e4999a6f81e7f4d329efe104afe30cec0087339a4255f412f0b"), looks := true }, kinds := [], alts := [], laidByText := true, laidKinds := [.sentinel, .sentinel, .sentinel, .sentinel, .sentinel, .sentinel, .data], laidTests := true, laidLooks := .later }
def FnExactPrintFromUptoCardSaid : Prop := Claim7.holds Tryd.pinned (.plain (OpenSpec.upto fnExactPrintFromSpec)) fnExactPrintFromUptoCard

/-- THE SECOND FORM's CARD OF 'laws.FnExactStepsFor'. -/
def fnExactStepsForUptoCard : Claim7 := { stood := { row := fnExactStepsForUptoRow, standIns := [], harness := (true, "687b609e05af3e4999a6f81e7f4d329efe104afe30cec0087339a4255f412f0b"), looks := true }, kinds := [], alts := [], laidByText := true, laidKinds := [.sentinel, .sentinel, .sentinel, .sentinel, .sentinel, .sentinel], laidTests := true, laidLooks := .later }
def FnExactStepsForUptoCardSaid : Prop := Claim7.holds Tryd.pinned (.plain (OpenSpec.upto fnExactStepsForSpec)) fnExactStepsForUptoCard
end Rows
end Go.Proofs.YtnnefgaemnkafaaDoor
