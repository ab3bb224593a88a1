/-
  DERIVED. GIVEN WITH THE SEED: THE CARDS: each row of YtajojnelkddpkaaDoorRows.lean that lists a variable, with what it lists TIED to the program's text (the seventh form; the later family's looks); each row that meets fmt, with fmt's text TOLD by the authors' own Lean function (tested against real Go, not proved from fmt's source: count such statements apart). THE CARD IS WHAT COUNTS. Prove the row's statement (the work); the ties are given (YtajojnelkddpkaaDoorTie.lean); close each card by the builder's one call (the guide's Derived/Test/ToyasCard.lean, 'card_holds'). Laid BY PROGRAM, IN A SANDBOX (cutbox-door.mjs). By AI agents, Wed Nov 11 2026. No macro, syntax, notation, axiom, sorry.
-/
import Derived.Test.YtajojnelkddpkaaDoorRows
import GoSem.ClaimSeven
namespace Go.Proofs.YtajojnelkddpkaaDoor
namespace Rows

/-- THE TIED CARD OF 'laws.FnExactPrintedAt'. -/
def fnExactPrintedAtCard : Claim7 := { stood := { row := fnExactPrintedAtRow, standIns := [], harness := (true, "345f107a3f145f2a20220a92967f64c28453f800809366aec798cb7967221c83"), looks := true }, kinds := [], alts := [], laidByText := true, laidKinds := [.sentinel, .sentinel, .sentinel, .sentinel, .sentinel, .sentinel], laidTests := true, laidLooks := .later }
def FnExactPrintedAtCardSaid : Prop := Claim7.holds Tryd.pinned (.plain (OpenSpec.ofChange fnExactPrintedAtSpec)) fnExactPrintedAtCard

/-- THE TIED CARD OF 'laws.FnExactPrintedRange'. -/
def fnExactPrintedRangeCard : Claim7 := { stood := { row := fnExactPrintedRangeRow, standIns := [], harness := (true, "345f107a3f145f2a20220a92967f64c28453f800809366aec798cb7967221c83"), looks := true }, kinds := [], alts := [], laidByText := true, laidKinds := [.sentinel, .sentinel, .sentinel, .sentinel, .sentinel, .sentinel], laidTests := true, laidLooks := .later }
def FnExactPrintedRangeCardSaid : Prop := Claim7.holds Tryd.pinned (.plain (OpenSpec.ofChange fnExactPrintedRangeSpec)) fnExactPrintedRangeCard

/-- THE TIED CARD OF 'laws.FnExactLightFor'. -/
def fnExactLightForCard : Claim7 := { stood := { row := fnExactLightForRow, standIns := [], harness := (true, "345f107a3f145f2a20220a92967f64c28453f800809366aec798cb7967221c83"), looks := true }, kinds := [], alts := [], laidByText := true, laidKinds := [.sentinel, .sentinel, .sentinel, .sentinel, .sentinel, .sentinel], laidTests := true, laidLooks := .later }
def FnExactLightForCardSaid : Prop := Claim7.holds Tryd.pinned (.plain (OpenSpec.ofChange fnExactLightForSpec)) fnExactLightForCard

/-- THE TIED CARD OF 'laws.FnPrinted'. -/
def fnPrintedCard : Claim7 := { stood := { row := fnPrintedRow, standIns := [], harness := (true, "345f107a3f145f2a20220a92967f64c28453f800809366aec798cb7967221c83"), looks := true }, kinds := [], alts := [], laidByText := true, laidKinds := [.sentinel, .sentinel, .sentinel, .sentinel, .sentinel, .sentinel], laidTests := true, laidLooks := .later }
def FnPrintedCardSaid : Prop := Claim7.holds Tryd.pinned (.plain (OpenSpec.ofChange fnPrintedSpec)) fnPrintedCard

/-- THE SECOND FORM's CARD OF 'laws.FnExactPrintedAt'. -/
def fnExactPrintedAtUptoCard : Claim7 := { stood := { row := fnExactPrintedAtUptoRow, standIns := [], harness := (true, "345f107a3f145f2a20220a92967f64c28453f800809366aec798cb7967221c83"), looks := true }, kinds := [], alts := [], laidByText := true, laidKinds := [.sentinel, .sentinel, .sentinel, .sentinel, .sentinel, .sentinel], laidTests := true, laidLooks := .later }
def FnExactPrintedAtUptoCardSaid : Prop := Claim7.holds Tryd.pinned (.plain (OpenSpec.upto fnExactPrintedAtSpec)) fnExactPrintedAtUptoCard

/-- THE SECOND FORM's CARD OF 'laws.FnExactPrintedRange'. -/
def fnExactPrintedRangeUptoCard : Claim7 := { stood := { row := fnExactPrintedRangeUptoRow, standIns := [], harness := (true, "345f107a3f145f2a20220a92967f64c28453f800809366aec798cb7967221c83"), looks := true }, kinds := [], alts := [], laidByText := true, laidKinds := [.sentinel, .sentinel, .sentinel, .sentinel, .sentinel, .sentinel], laidTests := true, laidLooks := .later }
def FnExactPrintedRangeUptoCardSaid : Prop := Claim7.holds Tryd.pinned (.plain (OpenSpec.upto fnExactPrintedRangeSpec)) fnExactPrintedRangeUptoCard

/-- THE SECOND FORM's CARD OF 'laws.FnExactLightFor'. -/
def fnExactLightForUptoCard : Claim7 := { stood := { row := fnExactLightForUptoRow, standIns := [], harness := (true, "345f107a3f145f2a20220a92967f64c28453f800809366aec798cb7967221c83"), looks := true }, kinds := [], alts := [], laidByText := true, laidKinds := [.sentinel, .sentinel, .sentinel, .sentinel, .sentinel, .sentinel], laidTests := true, laidLooks := .later }
def FnExactLightForUptoCardSaid : Prop := Claim7.holds Tryd.pinned (.plain (OpenSpec.upto fnExactLightForSpec)) fnExactLightForUptoCard

/-- THE SECOND FORM's CARD OF 'laws.FnPrinted'. -/
def fnPrintedUptoCard : Claim7 := { stood := { row := fnPrintedUptoRow, standIns := [], harness := (true, "345f107a3f145f2a20220a92967f64c28453f800809366aec798cb7967221c83"), looks := true }, kinds := [], alts := [], laidByText := true, laidKinds := [.sentinel, .sentinel, .sentinel, .sentinel, .sentinel, .sentinel], laidTests := true, laidLooks := .later }
def FnPrintedUptoCardSaid : Prop := Claim7.holds Tryd.pinned (.plain (OpenSpec.upto fnPrintedSpec)) fnPrintedUptoCard
end Rows
end Go.Proofs.YtajojnelkddpkaaDoor
