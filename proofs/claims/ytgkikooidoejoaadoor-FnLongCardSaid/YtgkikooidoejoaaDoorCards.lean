/-
  DERIVED. GIVEN WITH THE SEED: THE CARDS: each row of YtgkikooidoejoaaDoorRows.lean that lists a variable, with what it lists TIED to the program's text (the seventh form; the later family's looks); each row that meets fmt, with fmt's text TOLD by the authors' own Lean function (tested against real Go, not proved from fmt's source: count such statements apart). THE CARD IS WHAT COUNTS. Prove the row's statement (the work); the ties are given (YtgkikooidoejoaaDoorTie.lean); close each card by the builder's one call (the guide's Derived/Test/ToyasCard.lean, 'card_holds'). Laid BY PROGRAM, IN A SANDBOX (cutbox-door.mjs). By AI agents, Wed Nov 11 2026. No macro, syntax, notation, axiom, sorry.
-/
import Derived.Test.YtgkikooidoejoaaDoorRows
import GoSem.ClaimSeven
namespace Go.Proofs.YtgkikooidoejoaaDoor
namespace Rows

/-- THE TIED CARD OF 'laws.FnSettings'. -/
def fnSettingsCard : Claim7 := { stood := { row := fnSettingsRow, standIns := [], harness := (true, "532e69fe7e5d1478988943ba577a3c6bcbae82b1e8feeb67e5a5f005579e4951"), looks := true }, kinds := [], alts := [], laidByText := true, laidKinds := [.data, .data, .data, .sentinel, .sentinel, .sentinel, .sentinel, .sentinel, .data, .data, .data], laidTests := true, laidLooks := .later }
def FnSettingsCardSaid : Prop := Claim7.holds Tryd.pinned (.plain (OpenSpec.ofChange fnSettingsSpec)) fnSettingsCard

/-- THE TIED CARD OF 'laws.FnLong'. -/
def fnLongCard : Claim7 := { stood := { row := fnLongRow, standIns := [], harness := (true, "532e69fe7e5d1478988943ba577a3c6bcbae82b1e8feeb67e5a5f005579e4951"), looks := true }, kinds := [], alts := [], laidByText := true, laidKinds := [.sentinel, .sentinel, .sentinel, .sentinel, .sentinel, .data], laidTests := true, laidLooks := .later }
def FnLongCardSaid : Prop := Claim7.holds Tryd.pinned (.plain (OpenSpec.ofChange fnLongSpec)) fnLongCard

/-- THE TIED CARD OF 'laws.FnTimes'. -/
def fnTimesCard : Claim7 := { stood := { row := fnTimesRow, standIns := [], harness := (true, "532e69fe7e5d1478988943ba577a3c6bcbae82b1e8feeb67e5a5f005579e4951"), looks := true }, kinds := [], alts := [], laidByText := true, laidKinds := [.sentinel, .sentinel, .sentinel, .sentinel, .sentinel, .data], laidTests := true, laidLooks := .later }
def FnTimesCardSaid : Prop := Claim7.holds Tryd.pinned (.plain (OpenSpec.ofChange fnTimesSpec)) fnTimesCard

/-- THE TIED CARD OF 'laws.FnExactSettingsFor'. -/
def fnExactSettingsForCard : Claim7 := { stood := { row := fnExactSettingsForRow, standIns := [], harness := (true, "532e69fe7e5d1478988943ba577a3c6bcbae82b1e8feeb67e5a5f005579e4951"), looks := true }, kinds := [], alts := [], laidByText := true, laidKinds := [.sentinel, .sentinel, .sentinel, .sentinel, .sentinel], laidTests := true, laidLooks := .later }
def FnExactSettingsForCardSaid : Prop := Claim7.holds Tryd.pinned (.plain (OpenSpec.ofChange fnExactSettingsForSpec)) fnExactSettingsForCard

/-- THE TIED CARD OF 'laws.FnExactNearestSettings'. -/
def fnExactNearestSettingsCard : Claim7 := { stood := { row := fnExactNearestSettingsRow, standIns := [], harness := (true, "532e69fe7e5d1478988943ba577a3c6bcbae82b1e8feeb67e5a5f005579e4951"), looks := true }, kinds := [], alts := [], laidByText := true, laidKinds := [.sentinel, .sentinel, .sentinel, .sentinel, .sentinel], laidTests := true, laidLooks := .later }
def FnExactNearestSettingsCardSaid : Prop := Claim7.holds Tryd.pinned (.plain (OpenSpec.ofChange fnExactNearestSettingsSpec)) fnExactNearestSettingsCard

/-- THE TIED CARD OF 'laws.FnExactBracketOf'. -/
def fnExactBracketOfCard : Claim7 := { stood := { row := fnExactBracketOfRow, standIns := [], harness := (true, "532e69fe7e5d1478988943ba577a3c6bcbae82b1e8feeb67e5a5f005579e4951"), looks := true }, kinds := [], alts := [], laidByText := true, laidKinds := [.sentinel, .sentinel, .sentinel, .sentinel, .sentinel], laidTests := true, laidLooks := .later }
def FnExactBracketOfCardSaid : Prop := Claim7.holds Tryd.pinned (.plain (OpenSpec.ofChange fnExactBracketOfSpec)) fnExactBracketOfCard

/-- THE TIED CARD OF 'laws.FnExactMeteredFor'. -/
def fnExactMeteredForCard : Claim7 := { stood := { row := fnExactMeteredForRow, standIns := [], harness := (true, "532e69fe7e5d1478988943ba577a3c6bcbae82b1e8feeb67e5a5f005579e4951"), looks := true }, kinds := [], alts := [], laidByText := true, laidKinds := [.sentinel, .sentinel, .sentinel, .sentinel, .sentinel], laidTests := true, laidLooks := .later }
def FnExactMeteredForCardSaid : Prop := Claim7.holds Tryd.pinned (.plain (OpenSpec.ofChange fnExactMeteredForSpec)) fnExactMeteredForCard

/-- THE TIED CARD OF 'laws.FnExactSettingText'. -/
def fnExactSettingTextCard : Claim7 := { stood := { row := fnExactSettingTextRow, standIns := [], harness := (true, "532e69fe7e5d1478988943ba577a3c6bcbae82b1e8feeb67e5a5f005579e4951"), looks := true }, kinds := [], alts := [], laidByText := true, laidKinds := [.data, .data, .data, .data, .data, .data], laidTests := true, laidLooks := .later }
def FnExactSettingTextCardSaid : Prop := Claim7.holds Tryd.pinned (.plain (OpenSpec.ofChange fnExactSettingTextSpec)) fnExactSettingTextCard

/-- THE TIED CARD OF 'laws.FnExactReadSetting'. -/
def fnExactReadSettingCard : Claim7 := { stood := { row := fnExactReadSettingRow, standIns := [], harness := (true, "532e69fe7e5d1478988943ba577a3c6bcbae82b1e8feeb67e5a5f005579e4951"), looks := true }, kinds := [], alts := [], laidByText := true, laidKinds := [.data, .data, .data, .sentinel, .sentinel, .sentinel, .sentinel, .sentinel, .data, .data, .data], laidTests := true, laidLooks := .later }
def FnExactReadSettingCardSaid : Prop := Claim7.holds Tryd.pinned (.plain (OpenSpec.ofChange fnExactReadSettingSpec)) fnExactReadSettingCard

/-- THE SECOND FORM's CARD OF 'laws.FnSettings'. -/
def fnSettingsUptoCard : Claim7 := { stood := { row := fnSettingsUptoRow, standIns := [], harness := (true, "532e69fe7e5d1478988943ba577a3c6bcbae82b1e8feeb67e5a5f005579e4951"), looks := true }, kinds := [], alts := [], laidByText := true, laidKinds := [.data, .data, .data, .sentinel, .sentinel, .sentinel, .sentinel, .sentinel, .data, .data, .data], laidTests := true, laidLooks := .later }
def FnSettingsUptoCardSaid : Prop := Claim7.holds Tryd.pinned (.plain (OpenSpec.upto fnSettingsSpec)) fnSettingsUptoCard

/-- THE SECOND FORM's CARD OF 'laws.FnLong'. -/
def fnLongUptoCard : Claim7 := { stood := { row := fnLongUptoRow, standIns := [], harness := (true, "532e69fe7e5d1478988943ba577a3c6bcbae82b1e8feeb67e5a5f005579e4951"), looks := true }, kinds := [], alts := [], laidByText := true, laidKinds := [.sentinel, .sentinel, .sentinel, .sentinel, .sentinel, .data], laidTests := true, laidLooks := .later }
def FnLongUptoCardSaid : Prop := Claim7.holds Tryd.pinned (.plain (OpenSpec.upto fnLongSpec)) fnLongUptoCard

/-- THE SECOND FORM's CARD OF 'laws.FnTimes'. -/
def fnTimesUptoCard : Claim7 := { stood := { row := fnTimesUptoRow, standIns := [], harness := (true, "532e69fe7e5d1478988943ba577a3c6bcbae82b1e8feeb67e5a5f005579e4951"), looks := true }, kinds := [], alts := [], laidByText := true, laidKinds := [.sentinel, .sentinel, .sentinel, .sentinel, .sentinel, .data], laidTests := true, laidLooks := .later }
def FnTimesUptoCardSaid : Prop := Claim7.holds Tryd.pinned (.plain (OpenSpec.upto fnTimesSpec)) fnTimesUptoCard

/-- THE SECOND FORM's CARD OF 'laws.FnExactSettingsFor'. -/
def fnExactSettingsForUptoCard : Claim7 := { stood := { row := fnExactSettingsForUptoRow, standIns := [], harness := (true, "532e69fe7e5d1478988943ba577a3c6bcbae82b1e8feeb67e5a5f005579e4951"), looks := true }, kinds := [], alts := [], laidByText := true, laidKinds := [.sentinel, .sentinel, .sentinel, .sentinel, .sentinel], laidTests := true, laidLooks := .later }
def FnExactSettingsForUptoCardSaid : Prop := Claim7.holds Tryd.pinned (.plain (OpenSpec.upto fnExactSettingsForSpec)) fnExactSettingsForUptoCard

/-- THE SECOND FORM's CARD OF 'laws.FnExactNearestSettings'. -/
def fnExactNearestSettingsUptoCard : Claim7 := { stood := { row := fnExactNearestSettingsUptoRow, standIns := [], harness := (true, "532e69fe7e5d1478988943ba577a3c6bcbae82b1e8feeb67e5a5f005579e4951"), looks := true }, kinds := [], alts := [], laidByText := true, laidKinds := [.sentinel, .sentinel, .sentinel, .sentinel, .sentinel], laidTests := true, laidLooks := .later }
def FnExactNearestSettingsUptoCardSaid : Prop := Claim7.holds Tryd.pinned (.plain (OpenSpec.upto fnExactNearestSettingsSpec)) fnExactNearestSettingsUptoCard

/-- THE SECOND FORM's CARD OF 'laws.FnExactBracketOf'. -/
def fnExactBracketOfUptoCard : Claim7 := { stood := { row := fnExactBracketOfUptoRow, standIns := [], harness := (true, "532e69fe7e5d1478988943ba577a3c6bcbae82b1e8feeb67e5a5f005579e4951"), looks := true }, kinds := [], alts := [], laidByText := true, laidKinds := [.sentinel, .sentinel, .sentinel, .sentinel, .sentinel], laidTests := true, laidLooks := .later }
def FnExactBracketOfUptoCardSaid : Prop := Claim7.holds Tryd.pinned (.plain (OpenSpec.upto fnExactBracketOfSpec)) fnExactBracketOfUptoCard

/-- THE SECOND FORM's CARD OF 'laws.FnExactMeteredFor'. -/
def fnExactMeteredForUptoCard : Claim7 := { stood := { row := fnExactMeteredForUptoRow, standIns := [], harness := (true, "532e69fe7e5d1478988943ba577a3c6bcbae82b1e8feeb67e5a5f005579e4951"), looks := true }, kinds := [], alts := [], laidByText := true, laidKinds := [.sentinel, .sentinel, .sentinel, .sentinel, .sentinel], laidTests := true, laidLooks := .later }
def FnExactMeteredForUptoCardSaid : Prop := Claim7.holds Tryd.pinned (.plain (OpenSpec.upto fnExactMeteredForSpec)) fnExactMeteredForUptoCard

/-- THE SECOND FORM's CARD OF 'laws.FnExactSettingText'. -/
def fnExactSettingTextUptoCard : Claim7 := { stood := { row := fnExactSettingTextUptoRow, standIns := [], harness := (true, "532e69fe7e5d1478988943ba577a3c6bcbae82b1e8feeb67e5a5f005579e4951"), looks := true }, kinds := [], alts := [], laidByText := true, laidKinds := [.data, .data, .data, .data, .data, .data], laidTests := true, laidLooks := .later }
def FnExactSettingTextUptoCardSaid : Prop := Claim7.holds Tryd.pinned (.plain (OpenSpec.upto fnExactSettingTextSpec)) fnExactSettingTextUptoCard

/-- THE SECOND FORM's CARD OF 'laws.FnExactReadSetting'. -/
def fnExactReadSettingUptoCard : Claim7 := { stood := { row := fnExactReadSettingUptoRow, standIns := [], harness := (true, "532e69fe7e5d1478988943ba577a3c6bcbae82b1e8feeb67e5a5f005579e4951"), looks := true }, kinds := [], alts := [], laidByText := true, laidKinds := [.data, .data, .data, .sentinel, .sentinel, .sentinel, .sentinel, .sentinel, .data, .data, .data], laidTests := true, laidLooks := .later }
def FnExactReadSettingUptoCardSaid : Prop := Claim7.holds Tryd.pinned (.plain (OpenSpec.upto fnExactReadSettingSpec)) fnExactReadSettingUptoCard
end Rows
end Go.Proofs.YtgkikooidoejoaaDoor
