/-
  DERIVED. GIVEN WITH THE SEED: THE CARDS: each row of YtpombpphicmhmaaDoorRows.lean that lists a variable, with what it lists TIED to the program's text (the seventh form; the later family's looks); each row that meets fmt, with fmt's text TOLD by the authors' own Lean function (tested against real Go, not proved from fmt's source: count such statements apart). THE CARD IS WHAT COUNTS. Prove the row's statement (the work); the ties are given (YtpombpphicmhmaaDoorTie.lean); close each card by the builder's one call (the guide's Derived/Test/ToyasCard.lean, 'card_holds'). Laid BY PROGRAM, IN A SANDBOX (cutbox-door.mjs). By AI agents, Wed Nov 11 2026. No macro, syntax, notation, axiom, sorry.
-/
import Derived.Test.YtpombpphicmhmaaDoorRows
import GoSem.ClaimSeven
namespace Go.Proofs.YtpombpphicmhmaaDoor
namespace Rows

/-- THE TIED CARD OF 'laws.FnExactCurveAt'. -/
def fnExactCurveAtCard : Claim7 := { stood := { row := fnExactCurveAtRow, standIns := [], harness := (true, "0abef5979e233ee298316138f10c437a3881fbf0aeace68c8e189abdf2ddbdc8"), looks := true }, kinds := [], alts := [], laidByText := true, laidKinds := [.sentinel, .sentinel, .sentinel, .sentinel, .sentinel, .sentinel], laidTests := true, laidLooks := .later }
def FnExactCurveAtCardSaid : Prop := Claim7.holds Tryd.pinned (.plain (OpenSpec.ofChange fnExactCurveAtSpec)) fnExactCurveAtCard

/-- THE TIED CARD OF 'laws.FnExactExposureFor'. -/
def fnExactExposureForCard : Claim7 := { stood := { row := fnExactExposureForRow, standIns := [], harness := (true, "0abef5979e233ee298316138f10c437a3881fbf0aeace68c8e189abdf2ddbdc8"), looks := true }, kinds := [], alts := [], laidByText := true, laidKinds := [.sentinel, .sentinel, .sentinel, .sentinel, .sentinel, .sentinel], laidTests := true, laidLooks := .later }
def FnExactExposureForCardSaid : Prop := Claim7.holds Tryd.pinned (.plain (OpenSpec.ofChange fnExactExposureForSpec)) fnExactExposureForCard

/-- THE TIED CARD OF 'laws.FnExactExposuresFor'. -/
def fnExactExposuresForCard : Claim7 := { stood := { row := fnExactExposuresForRow, standIns := [], harness := (true, "0abef5979e233ee298316138f10c437a3881fbf0aeace68c8e189abdf2ddbdc8"), looks := true }, kinds := [], alts := [], laidByText := true, laidKinds := [.sentinel, .sentinel, .sentinel, .sentinel, .sentinel, .sentinel], laidTests := true, laidLooks := .later }
def FnExactExposuresForCardSaid : Prop := Claim7.holds Tryd.pinned (.plain (OpenSpec.ofChange fnExactExposuresForSpec)) fnExactExposuresForCard

/-- THE TIED CARD OF 'laws.FnExactSteepestPart'. -/
def fnExactSteepestPartCard : Claim7 := { stood := { row := fnExactSteepestPartRow, standIns := [], harness := (true, "0abef5979e233ee298316138f10c437a3881fbf0aeace68c8e189abdf2ddbdc8"), looks := true }, kinds := [], alts := [], laidByText := true, laidKinds := [.sentinel, .sentinel, .sentinel, .sentinel, .sentinel, .sentinel], laidTests := true, laidLooks := .later }
def FnExactSteepestPartCardSaid : Prop := Claim7.holds Tryd.pinned (.plain (OpenSpec.ofChange fnExactSteepestPartSpec)) fnExactSteepestPartCard

/-- THE TIED CARD OF 'laws.FnExactRiseAt'. -/
def fnExactRiseAtCard : Claim7 := { stood := { row := fnExactRiseAtRow, standIns := [], harness := (true, "0abef5979e233ee298316138f10c437a3881fbf0aeace68c8e189abdf2ddbdc8"), looks := true }, kinds := [], alts := [], laidByText := true, laidKinds := [.sentinel, .sentinel, .sentinel, .sentinel, .sentinel, .sentinel], laidTests := true, laidLooks := .later }
def FnExactRiseAtCardSaid : Prop := Claim7.holds Tryd.pinned (.plain (OpenSpec.ofChange fnExactRiseAtSpec)) fnExactRiseAtCard

/-- THE TIED CARD OF 'laws.FnExactShiftCurve'. -/
def fnExactShiftCurveCard : Claim7 := { stood := { row := fnExactShiftCurveRow, standIns := [], harness := (true, "0abef5979e233ee298316138f10c437a3881fbf0aeace68c8e189abdf2ddbdc8"), looks := true }, kinds := [], alts := [], laidByText := true, laidKinds := [.sentinel, .sentinel, .sentinel, .sentinel, .sentinel, .sentinel], laidTests := true, laidLooks := .later }
def FnExactShiftCurveCardSaid : Prop := Claim7.holds Tryd.pinned (.plain (OpenSpec.ofChange fnExactShiftCurveSpec)) fnExactShiftCurveCard

/-- THE TIED CARD OF 'laws.FnExactLiftCurve'. -/
def fnExactLiftCurveCard : Claim7 := { stood := { row := fnExactLiftCurveRow, standIns := [], harness := (true, "0abef5979e233ee298316138f10c437a3881fbf0aeace68c8e189abdf2ddbdc8"), looks := true }, kinds := [], alts := [], laidByText := true, laidKinds := [.sentinel, .sentinel, .sentinel, .sentinel, .sentinel, .sentinel], laidTests := true, laidLooks := .later }
def FnExactLiftCurveCardSaid : Prop := Claim7.holds Tryd.pinned (.plain (OpenSpec.ofChange fnExactLiftCurveSpec)) fnExactLiftCurveCard

/-- THE TIED CARD OF 'laws.FnExactStretchCurve'. -/
def fnExactStretchCurveCard : Claim7 := { stood := { row := fnExactStretchCurveRow, standIns := [], harness := (true, "0abef5979e233ee298316138f10c437a3881fbf0aeace68c8e189abdf2ddbdc8"), looks := true }, kinds := [], alts := [], laidByText := true, laidKinds := [.sentinel, .sentinel, .sentinel, .sentinel, .sentinel, .sentinel], laidTests := true, laidLooks := .later }
def FnExactStretchCurveCardSaid : Prop := Claim7.holds Tryd.pinned (.plain (OpenSpec.ofChange fnExactStretchCurveSpec)) fnExactStretchCurveCard

/-- THE TIED CARD OF 'laws.FnExactJoinCurves'. -/
def fnExactJoinCurvesCard : Claim7 := { stood := { row := fnExactJoinCurvesRow, standIns := [], harness := (true, "0abef5979e233ee298316138f10c437a3881fbf0aeace68c8e189abdf2ddbdc8"), looks := true }, kinds := [], alts := [], laidByText := true, laidKinds := [.sentinel, .sentinel, .sentinel, .sentinel, .sentinel, .sentinel], laidTests := true, laidLooks := .later }
def FnExactJoinCurvesCardSaid : Prop := Claim7.holds Tryd.pinned (.plain (OpenSpec.ofChange fnExactJoinCurvesSpec)) fnExactJoinCurvesCard

/-- THE SECOND FORM's CARD OF 'laws.FnExactCurveAt'. -/
def fnExactCurveAtUptoCard : Claim7 := { stood := { row := fnExactCurveAtUptoRow, standIns := [], harness := (true, "0abef5979e233ee298316138f10c437a3881fbf0aeace68c8e189abdf2ddbdc8"), looks := true }, kinds := [], alts := [], laidByText := true, laidKinds := [.sentinel, .sentinel, .sentinel, .sentinel, .sentinel, .sentinel], laidTests := true, laidLooks := .later }
def FnExactCurveAtUptoCardSaid : Prop := Claim7.holds Tryd.pinned (.plain (OpenSpec.upto fnExactCurveAtSpec)) fnExactCurveAtUptoCard

/-- THE SECOND FORM's CARD OF 'laws.FnExactExposureFor'. -/
def fnExactExposureForUptoCard : Claim7 := { stood := { row := fnExactExposureForUptoRow, standIns := [], harness := (true, "0abef5979e233ee298316138f10c437a3881fbf0aeace68c8e189abdf2ddbdc8"), looks := true }, kinds := [], alts := [], laidByText := true, laidKinds := [.sentinel, .sentinel, .sentinel, .sentinel, .sentinel, .sentinel], laidTests := true, laidLooks := .later }
def FnExactExposureForUptoCardSaid : Prop := Claim7.holds Tryd.pinned (.plain (OpenSpec.upto fnExactExposureForSpec)) fnExactExposureForUptoCard

/-- THE SECOND FORM's CARD OF 'laws.FnExactExposuresFor'. -/
def fnExactExposuresForUptoCard : Claim7 := { stood := { row := fnExactExposuresForUptoRow, standIns := [], harness := (true, "0abef5979e233ee298316138f10c437a3881fbf0aeace68c8e189abdf2ddbdc8"), looks := true }, kinds := [], alts := [], laidByText := true, laidKinds := [.sentinel, .sentinel, .sentinel, .sentinel, .sentinel, .sentinel], laidTests := true, laidLooks := .later }
def FnExactExposuresForUptoCardSaid : Prop := Claim7.holds Tryd.pinned (.plain (OpenSpec.upto fnExactExposuresForSpec)) fnExactExposuresForUptoCard

/-- THE SECOND FORM's CARD OF 'laws.FnExactSteepestPart'. -/
def fnExactSteepestPartUptoCard : Claim7 := { stood := { row := fnExactSteepestPartUptoRow, standIns := [], harness := (true, "0abef5979e233ee298316138f10c437a3881fbf0aeace68c8e189abdf2ddbdc8"), looks := true }, kinds := [], alts := [], laidByText := true, laidKinds := [.sentinel, .sentinel, .sentinel, .sentinel, .sentinel, .sentinel], laidTests := true, laidLooks := .later }
def FnExactSteepestPartUptoCardSaid : Prop := Claim7.holds Tryd.pinned (.plain (OpenSpec.upto fnExactSteepestPartSpec)) fnExactSteepestPartUptoCard

/-- THE SECOND FORM's CARD OF 'laws.FnExactRiseAt'. -/
def fnExactRiseAtUptoCard : Claim7 := { stood := { row := fnExactRiseAtUptoRow, standIns := [], harness := (true, "0abef5979e233ee298316138f10c437a3881fbf0aeace68c8e189abdf2ddbdc8"), looks := true }, kinds := [], alts := [], laidByText := true, laidKinds := [.sentinel, .sentinel, .sentinel, .sentinel, .sentinel, .sentinel], laidTests := true, laidLooks := .later }
def FnExactRiseAtUptoCardSaid : Prop := Claim7.holds Tryd.pinned (.plain (OpenSpec.upto fnExactRiseAtSpec)) fnExactRiseAtUptoCard

/-- THE SECOND FORM's CARD OF 'laws.FnExactShiftCurve'. -/
def fnExactShiftCurveUptoCard : Claim7 := { stood := { row := fnExactShiftCurveUptoRow, standIns := [], harness := (true, "0abef5979e233ee298316138f10c437a3881fbf0aeace68c8e189abdf2ddbdc8"), looks := true }, kinds := [], alts := [], laidByText := true, laidKinds := [.sentinel, .sentinel, .sentinel, .sentinel, .sentinel, .sentinel], laidTests := true, laidLooks := .later }
def FnExactShiftCurveUptoCardSaid : Prop := Claim7.holds Tryd.pinned (.plain (OpenSpec.upto fnExactShiftCurveSpec)) fnExactShiftCurveUptoCard

/-- THE SECOND FORM's CARD OF 'laws.FnExactLiftCurve'. -/
def fnExactLiftCurveUptoCard : Claim7 := { stood := { row := fnExactLiftCurveUptoRow, standIns := [], harness := (true, "0abef5979e233ee298316138f10c437a3881fbf0aeace68c8e189abdf2ddbdc8"), looks := true }, kinds := [], alts := [], laidByText := true, laidKinds := [.sentinel, .sentinel, .sentinel, .sentinel, .sentinel, .sentinel], laidTests := true, laidLooks := .later }
def FnExactLiftCurveUptoCardSaid : Prop := Claim7.holds Tryd.pinned (.plain (OpenSpec.upto fnExactLiftCurveSpec)) fnExactLiftCurveUptoCard

/-- THE SECOND FORM's CARD OF 'laws.FnExactStretchCurve'. -/
def fnExactStretchCurveUptoCard : Claim7 := { stood := { row := fnExactStretchCurveUptoRow, standIns := [], harness := (true, "0abef5979e233ee298316138f10c437a3881fbf0aeace68c8e189abdf2ddbdc8"), looks := true }, kinds := [], alts := [], laidByText := true, laidKinds := [.sentinel, .sentinel, .sentinel, .sentinel, .sentinel, .sentinel], laidTests := true, laidLooks := .later }
def FnExactStretchCurveUptoCardSaid : Prop := Claim7.holds Tryd.pinned (.plain (OpenSpec.upto fnExactStretchCurveSpec)) fnExactStretchCurveUptoCard

/-- THE SECOND FORM's CARD OF 'laws.FnExactJoinCurves'. -/
def fnExactJoinCurvesUptoCard : Claim7 := { stood := { row := fnExactJoinCurvesUptoRow, standIns := [], harness := (true, "0abef5979e233ee298316138f10c437a3881fbf0aeace68c8e189abdf2ddbdc8"), looks := true }, kinds := [], alts := [], laidByText := true, laidKinds := [.sentinel, .sentinel, .sentinel, .sentinel, .sentinel, .sentinel], laidTests := true, laidLooks := .later }
def FnExactJoinCurvesUptoCardSaid : Prop := Claim7.holds Tryd.pinned (.plain (OpenSpec.upto fnExactJoinCurvesSpec)) fnExactJoinCurvesUptoCard
end Rows
end Go.Proofs.YtpombpphicmhmaaDoor
