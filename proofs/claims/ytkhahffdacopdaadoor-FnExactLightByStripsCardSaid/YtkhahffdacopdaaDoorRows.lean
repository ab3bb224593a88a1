/-
  NARROWER THAN 'FOR EVERY INPUT', by the rows' own cells (each row's printed sentence says how): FnExactLightsOf: ifaces, laid · FnExactCoveredLights: ifaces, laid · FnExactBandsOf: ifaces, laid · FnExactCoveredBands: ifaces, laid · FnExactNearestBand: ifaces, laid · FnExactFirstBand: ifaces, laid · FnExactFinerStrip: ifaces, laid · FnExactLightByStrips: ifaces, laid · FnExactScaleOf: ifaces, laid · FnExactConvertLight: ifaces, laid · FnExactConvertTable: ifaces, laid.
  DERIVED. THE GIVEN ROWS OF THIS SEAT. 11 by the template 'for every input the law returns true; each argument reads behind the call as it read before'; 0 by the template 'total and deterministic' (their statements: YtkhahffdacopdaaDoorTotals.lean).
  GIVEN WITH THE SEED: the statements are not yours to turn. If you find one false, say at which input.
  Laid BY PROGRAM, IN A SANDBOX (cutbox-rows.mjs): the forced cells as the released guide's own fill.sh prints them over the translation 8b9f8f0ab48d56fd… (all of the seat's roots in one cut). By AI agents, Wed Nov 11 2026. No macro, syntax, notation, axiom, sorry.
-/
import Derived.Test.YtkhahffdacopdaaDoorChecked
import GoSem.Claim
import GoSem.ClaimJoined
import GoSem.ClaimMapViews
import Derived.JoinedTies
import Derived.KernelRfl
namespace Go.Proofs.YtkhahffdacopdaaDoor
/- THE CELL 'sum', in the pinned program and in every row, IS THE sha256 OF THE DUMP (.gsa) THAT YtkhahffdacopdaaDoorProg.lean LOADS. Nothing in Lean hashes anything: it is a label: what it is worth is what the hold of that sum in a sandbox is worth. -/
noncomputable def Tryd.pinned : Pinned := { name := "ytkhahffdacopdaadoor", sum := "8b9f8f0ab48d56fde1cabb162f8a3b6d7f4f55f57e8d82b7ead6833daf985b09", checked := Tryd.checked }
namespace Rows
def none {H : Type} : Left H := { results := [], args := [] }

/- WHAT THE LISTED PACKAGE-LEVEL VARIABLES READ AS WHEN THE CALL BEGINS. Each datum BY PROGRAM (the guide's laid-datum.mjs) off the statement by which the dump's own 'gosem.cut.vars' lays the variable. In a bare row this is a premise. The card (YtkhahffdacopdaaDoorCards.lean) ties it to the program's text. -/
def laid_loop_example_g01301_impl_errInvalid {H : Type} : DataW H := .iface "*errors.errorString" (.ptr (.agg [.lit (.string [105, 110, 118, 97, 108, 105, 100])]))
def laid_loop_example_g01301_impl_errRange {H : Type} : DataW H := .iface "*errors.errorString" (.ptr (.agg [.lit (.string [114, 97, 110, 103, 101])]))
def laid_loop_example_g01301_impl_errLimit {H : Type} : DataW H := .iface "*errors.errorString" (.ptr (.agg [.lit (.string [108, 105, 109, 105, 116])]))
def laid_loop_example_g01301_impl_errState {H : Type} : DataW H := .iface "*errors.errorString" (.ptr (.agg [.lit (.string [115, 116, 97, 116, 101])]))
def laid_loop_example_g01301_impl_errSyntax {H : Type} : DataW H := .iface "*errors.errorString" (.ptr (.agg [.lit (.string [115, 121, 110, 116, 97, 120])]))
def laid_loop_example_g01301_impl_errNotFound {H : Type} : DataW H := .iface "*errors.errorString" (.ptr (.agg [.lit (.string [110, 111, 116, 102, 111, 117, 110, 100])]))
def laid_loop_example_g01301_impl_stopTimes {H : Type} : DataW H := .agg [.lit (.int .i64 1000), .lit (.int .i64 1260), .lit (.int .i64 1587)]

/-- 'laws.FnExactLightsOf': WHATEVER THE INPUT: true; the input reads as it did. -/
def fnExactLightsOfSpec : ChangeSpec := { name := "fnExactLightsOf", vars := ["loop.example/g01301/impl.errInvalid", "loop.example/g01301/impl.errRange", "loop.example/g01301/impl.errLimit", "loop.example/g01301/impl.errState", "loop.example/g01301/impl.errSyntax", "loop.example/g01301/impl.errNotFound"], fn := fun _ => fun
  | [d, g1, g2, g3, g4, g5, g6] => { results := [.lit (.bool true)], args := [d], vars := [g1, g2, g3, g4, g5, g6] }
  | _ => none }
def fnExactLightsOfRow : OpenClaim := { program := "ytkhahffdacopdaadoor", sum := "8b9f8f0ab48d56fde1cabb162f8a3b6d7f4f55f57e8d82b7ead6833daf985b09", func := "loop.example/g01301/laws.FnExactLightsOf", spec := "fnExactLightsOf", inPlace := ["internal/reflectlite.TypeOf"], unfollowed := true, recurses := true, named := ["loop.example/g01301/impl.errInvalid", "loop.example/g01301/impl.errRange", "loop.example/g01301/impl.errLimit", "loop.example/g01301/impl.errState", "loop.example/g01301/impl.errSyntax", "loop.example/g01301/impl.errNotFound"], ifaces := true, apart := false, laid := [("loop.example/g01301/impl.errInvalid", laid_loop_example_g01301_impl_errInvalid), ("loop.example/g01301/impl.errRange", laid_loop_example_g01301_impl_errRange), ("loop.example/g01301/impl.errLimit", laid_loop_example_g01301_impl_errLimit), ("loop.example/g01301/impl.errState", laid_loop_example_g01301_impl_errState), ("loop.example/g01301/impl.errSyntax", laid_loop_example_g01301_impl_errSyntax), ("loop.example/g01301/impl.errNotFound", laid_loop_example_g01301_impl_errNotFound)] }
def FnExactLightsOfSaid : Prop := fnExactLightsOfRow.holds Tryd.pinned (OpenSpec.ofChange fnExactLightsOfSpec)

/-- ITS FALSE NEIGHBOUR: 'it returns false'. Refute it at one input. -/
def fnExactLightsOfWrong : ChangeSpec := { name := "fnExactLightsOf", vars := ["loop.example/g01301/impl.errInvalid", "loop.example/g01301/impl.errRange", "loop.example/g01301/impl.errLimit", "loop.example/g01301/impl.errState", "loop.example/g01301/impl.errSyntax", "loop.example/g01301/impl.errNotFound"], fn := fun _ => fun
  | [d, g1, g2, g3, g4, g5, g6] => { results := [.lit (.bool false)], args := [d], vars := [g1, g2, g3, g4, g5, g6] }
  | _ => none }
def FnExactLightsOfWrongFalsely : Prop := fnExactLightsOfRow.holds Tryd.pinned (OpenSpec.ofChange fnExactLightsOfWrong)

/-- 'laws.FnExactCoveredLights': WHATEVER THE INPUT: true; the input reads as it did. -/
def fnExactCoveredLightsSpec : ChangeSpec := { name := "fnExactCoveredLights", vars := ["loop.example/g01301/impl.stopTimes", "loop.example/g01301/impl.errRange", "loop.example/g01301/impl.errNotFound", "loop.example/g01301/impl.errInvalid", "loop.example/g01301/impl.errLimit", "loop.example/g01301/impl.errState", "loop.example/g01301/impl.errSyntax"], fn := fun _ => fun
  | [d, g1, g2, g3, g4, g5, g6, g7] => { results := [.lit (.bool true)], args := [d], vars := [g1, g2, g3, g4, g5, g6, g7] }
  | _ => none }
def fnExactCoveredLightsRow : OpenClaim := { program := "ytkhahffdacopdaadoor", sum := "8b9f8f0ab48d56fde1cabb162f8a3b6d7f4f55f57e8d82b7ead6833daf985b09", func := "loop.example/g01301/laws.FnExactCoveredLights", spec := "fnExactCoveredLights", inPlace := ["internal/reflectlite.TypeOf"], unfollowed := true, recurses := true, named := ["loop.example/g01301/impl.stopTimes", "loop.example/g01301/impl.errRange", "loop.example/g01301/impl.errNotFound", "loop.example/g01301/impl.errInvalid", "loop.example/g01301/impl.errLimit", "loop.example/g01301/impl.errState", "loop.example/g01301/impl.errSyntax"], ifaces := true, apart := false, laid := [("loop.example/g01301/impl.errInvalid", laid_loop_example_g01301_impl_errInvalid), ("loop.example/g01301/impl.errRange", laid_loop_example_g01301_impl_errRange), ("loop.example/g01301/impl.errLimit", laid_loop_example_g01301_impl_errLimit), ("loop.example/g01301/impl.errState", laid_loop_example_g01301_impl_errState), ("loop.example/g01301/impl.errSyntax", laid_loop_example_g01301_impl_errSyntax), ("loop.example/g01301/impl.errNotFound", laid_loop_example_g01301_impl_errNotFound), ("loop.example/g01301/impl.stopTimes", laid_loop_example_g01301_impl_stopTimes)] }
def FnExactCoveredLightsSaid : Prop := fnExactCoveredLightsRow.holds Tryd.pinned (OpenSpec.ofChange fnExactCoveredLightsSpec)

/-- ITS FALSE NEIGHBOUR: 'it returns false'. Refute it at one input. -/
def fnExactCoveredLightsWrong : ChangeSpec := { name := "fnExactCoveredLights", vars := ["loop.example/g01301/impl.stopTimes", "loop.example/g01301/impl.errRange", "loop.example/g01301/impl.errNotFound", "loop.example/g01301/impl.errInvalid", "loop.example/g01301/impl.errLimit", "loop.example/g01301/impl.errState", "loop.example/g01301/impl.errSyntax"], fn := fun _ => fun
  | [d, g1, g2, g3, g4, g5, g6, g7] => { results := [.lit (.bool false)], args := [d], vars := [g1, g2, g3, g4, g5, g6, g7] }
  | _ => none }
def FnExactCoveredLightsWrongFalsely : Prop := fnExactCoveredLightsRow.holds Tryd.pinned (OpenSpec.ofChange fnExactCoveredLightsWrong)

/-- 'laws.FnExactBandsOf': WHATEVER THE INPUT: true; the input reads as it did. -/
def fnExactBandsOfSpec : ChangeSpec := { name := "fnExactBandsOf", vars := ["loop.example/g01301/impl.errInvalid", "loop.example/g01301/impl.errRange", "loop.example/g01301/impl.errLimit", "loop.example/g01301/impl.errState", "loop.example/g01301/impl.errSyntax", "loop.example/g01301/impl.errNotFound"], fn := fun _ => fun
  | [d1, d2, d3, g1, g2, g3, g4, g5, g6] => { results := [.lit (.bool true)], args := [d1, d2, d3], vars := [g1, g2, g3, g4, g5, g6] }
  | _ => none }
def fnExactBandsOfRow : OpenClaim := { program := "ytkhahffdacopdaadoor", sum := "8b9f8f0ab48d56fde1cabb162f8a3b6d7f4f55f57e8d82b7ead6833daf985b09", func := "loop.example/g01301/laws.FnExactBandsOf", spec := "fnExactBandsOf", inPlace := ["internal/reflectlite.TypeOf"], unfollowed := true, recurses := true, named := ["loop.example/g01301/impl.errInvalid", "loop.example/g01301/impl.errRange", "loop.example/g01301/impl.errLimit", "loop.example/g01301/impl.errState", "loop.example/g01301/impl.errSyntax", "loop.example/g01301/impl.errNotFound"], ifaces := true, apart := false, laid := [("loop.example/g01301/impl.errInvalid", laid_loop_example_g01301_impl_errInvalid), ("loop.example/g01301/impl.errRange", laid_loop_example_g01301_impl_errRange), ("loop.example/g01301/impl.errLimit", laid_loop_example_g01301_impl_errLimit), ("loop.example/g01301/impl.errState", laid_loop_example_g01301_impl_errState), ("loop.example/g01301/impl.errSyntax", laid_loop_example_g01301_impl_errSyntax), ("loop.example/g01301/impl.errNotFound", laid_loop_example_g01301_impl_errNotFound)] }
def FnExactBandsOfSaid : Prop := fnExactBandsOfRow.holds Tryd.pinned (OpenSpec.ofChange fnExactBandsOfSpec)

/-- ITS FALSE NEIGHBOUR: 'it returns false'. Refute it at one input. -/
def fnExactBandsOfWrong : ChangeSpec := { name := "fnExactBandsOf", vars := ["loop.example/g01301/impl.errInvalid", "loop.example/g01301/impl.errRange", "loop.example/g01301/impl.errLimit", "loop.example/g01301/impl.errState", "loop.example/g01301/impl.errSyntax", "loop.example/g01301/impl.errNotFound"], fn := fun _ => fun
  | [d1, d2, d3, g1, g2, g3, g4, g5, g6] => { results := [.lit (.bool false)], args := [d1, d2, d3], vars := [g1, g2, g3, g4, g5, g6] }
  | _ => none }
def FnExactBandsOfWrongFalsely : Prop := fnExactBandsOfRow.holds Tryd.pinned (OpenSpec.ofChange fnExactBandsOfWrong)

/-- 'laws.FnExactCoveredBands': WHATEVER THE INPUT: true; the input reads as it did. -/
def fnExactCoveredBandsSpec : ChangeSpec := { name := "fnExactCoveredBands", vars := ["loop.example/g01301/impl.stopTimes", "loop.example/g01301/impl.errRange", "loop.example/g01301/impl.errNotFound", "loop.example/g01301/impl.errInvalid", "loop.example/g01301/impl.errLimit", "loop.example/g01301/impl.errState", "loop.example/g01301/impl.errSyntax"], fn := fun _ => fun
  | [d1, d2, d3, g1, g2, g3, g4, g5, g6, g7] => { results := [.lit (.bool true)], args := [d1, d2, d3], vars := [g1, g2, g3, g4, g5, g6, g7] }
  | _ => none }
def fnExactCoveredBandsRow : OpenClaim := { program := "ytkhahffdacopdaadoor", sum := "8b9f8f0ab48d56fde1cabb162f8a3b6d7f4f55f57e8d82b7ead6833daf985b09", func := "loop.example/g01301/laws.FnExactCoveredBands", spec := "fnExactCoveredBands", inPlace := ["internal/reflectlite.TypeOf"], unfollowed := true, recurses := true, named := ["loop.example/g01301/impl.stopTimes", "loop.example/g01301/impl.errRange", "loop.example/g01301/impl.errNotFound", "loop.example/g01301/impl.errInvalid", "loop.example/g01301/impl.errLimit", "loop.example/g01301/impl.errState", "loop.example/g01301/impl.errSyntax"], ifaces := true, apart := false, laid := [("loop.example/g01301/impl.errInvalid", laid_loop_example_g01301_impl_errInvalid), ("loop.example/g01301/impl.errRange", laid_loop_example_g01301_impl_errRange), ("loop.example/g01301/impl.errLimit", laid_loop_example_g01301_impl_errLimit), ("loop.example/g01301/impl.errState", laid_loop_example_g01301_impl_errState), ("loop.example/g01301/impl.errSyntax", laid_loop_example_g01301_impl_errSyntax), ("loop.example/g01301/impl.errNotFound", laid_loop_example_g01301_impl_errNotFound), ("loop.example/g01301/impl.stopTimes", laid_loop_example_g01301_impl_stopTimes)] }
def FnExactCoveredBandsSaid : Prop := fnExactCoveredBandsRow.holds Tryd.pinned (OpenSpec.ofChange fnExactCoveredBandsSpec)

/-- ITS FALSE NEIGHBOUR: 'it returns false'. Refute it at one input. -/
def fnExactCoveredBandsWrong : ChangeSpec := { name := "fnExactCoveredBands", vars := ["loop.example/g01301/impl.stopTimes", "loop.example/g01301/impl.errRange", "loop.example/g01301/impl.errNotFound", "loop.example/g01301/impl.errInvalid", "loop.example/g01301/impl.errLimit", "loop.example/g01301/impl.errState", "loop.example/g01301/impl.errSyntax"], fn := fun _ => fun
  | [d1, d2, d3, g1, g2, g3, g4, g5, g6, g7] => { results := [.lit (.bool false)], args := [d1, d2, d3], vars := [g1, g2, g3, g4, g5, g6, g7] }
  | _ => none }
def FnExactCoveredBandsWrongFalsely : Prop := fnExactCoveredBandsRow.holds Tryd.pinned (OpenSpec.ofChange fnExactCoveredBandsWrong)

/-- 'laws.FnExactNearestBand': WHATEVER THE INPUT: true; the input reads as it did. -/
def fnExactNearestBandSpec : ChangeSpec := { name := "fnExactNearestBand", vars := ["loop.example/g01301/impl.errRange", "loop.example/g01301/impl.errInvalid", "loop.example/g01301/impl.errLimit", "loop.example/g01301/impl.errState", "loop.example/g01301/impl.errSyntax", "loop.example/g01301/impl.errNotFound"], fn := fun _ => fun
  | [d1, d2, g1, g2, g3, g4, g5, g6] => { results := [.lit (.bool true)], args := [d1, d2], vars := [g1, g2, g3, g4, g5, g6] }
  | _ => none }
def fnExactNearestBandRow : OpenClaim := { program := "ytkhahffdacopdaadoor", sum := "8b9f8f0ab48d56fde1cabb162f8a3b6d7f4f55f57e8d82b7ead6833daf985b09", func := "loop.example/g01301/laws.FnExactNearestBand", spec := "fnExactNearestBand", inPlace := ["internal/reflectlite.TypeOf"], unfollowed := true, recurses := true, named := ["loop.example/g01301/impl.errRange", "loop.example/g01301/impl.errInvalid", "loop.example/g01301/impl.errLimit", "loop.example/g01301/impl.errState", "loop.example/g01301/impl.errSyntax", "loop.example/g01301/impl.errNotFound"], ifaces := true, apart := false, laid := [("loop.example/g01301/impl.errInvalid", laid_loop_example_g01301_impl_errInvalid), ("loop.example/g01301/impl.errRange", laid_loop_example_g01301_impl_errRange), ("loop.example/g01301/impl.errLimit", laid_loop_example_g01301_impl_errLimit), ("loop.example/g01301/impl.errState", laid_loop_example_g01301_impl_errState), ("loop.example/g01301/impl.errSyntax", laid_loop_example_g01301_impl_errSyntax), ("loop.example/g01301/impl.errNotFound", laid_loop_example_g01301_impl_errNotFound)] }
def FnExactNearestBandSaid : Prop := fnExactNearestBandRow.holds Tryd.pinned (OpenSpec.ofChange fnExactNearestBandSpec)

/-- ITS FALSE NEIGHBOUR: 'it returns false'. Refute it at one input. -/
def fnExactNearestBandWrong : ChangeSpec := { name := "fnExactNearestBand", vars := ["loop.example/g01301/impl.errRange", "loop.example/g01301/impl.errInvalid", "loop.example/g01301/impl.errLimit", "loop.example/g01301/impl.errState", "loop.example/g01301/impl.errSyntax", "loop.example/g01301/impl.errNotFound"], fn := fun _ => fun
  | [d1, d2, g1, g2, g3, g4, g5, g6] => { results := [.lit (.bool false)], args := [d1, d2], vars := [g1, g2, g3, g4, g5, g6] }
  | _ => none }
def FnExactNearestBandWrongFalsely : Prop := fnExactNearestBandRow.holds Tryd.pinned (OpenSpec.ofChange fnExactNearestBandWrong)

/-- 'laws.FnExactFirstBand': WHATEVER THE INPUT: true; the input reads as it did. -/
def fnExactFirstBandSpec : ChangeSpec := { name := "fnExactFirstBand", vars := ["loop.example/g01301/impl.errRange", "loop.example/g01301/impl.errNotFound", "loop.example/g01301/impl.errInvalid", "loop.example/g01301/impl.errLimit", "loop.example/g01301/impl.errState", "loop.example/g01301/impl.errSyntax"], fn := fun _ => fun
  | [d1, d2, g1, g2, g3, g4, g5, g6] => { results := [.lit (.bool true)], args := [d1, d2], vars := [g1, g2, g3, g4, g5, g6] }
  | _ => none }
def fnExactFirstBandRow : OpenClaim := { program := "ytkhahffdacopdaadoor", sum := "8b9f8f0ab48d56fde1cabb162f8a3b6d7f4f55f57e8d82b7ead6833daf985b09", func := "loop.example/g01301/laws.FnExactFirstBand", spec := "fnExactFirstBand", inPlace := ["internal/reflectlite.TypeOf"], unfollowed := true, recurses := true, named := ["loop.example/g01301/impl.errRange", "loop.example/g01301/impl.errNotFound", "loop.example/g01301/impl.errInvalid", "loop.example/g01301/impl.errLimit", "loop.example/g01301/impl.errState", "loop.example/g01301/impl.errSyntax"], ifaces := true, apart := false, laid := [("loop.example/g01301/impl.errInvalid", laid_loop_example_g01301_impl_errInvalid), ("loop.example/g01301/impl.errRange", laid_loop_example_g01301_impl_errRange), ("loop.example/g01301/impl.errLimit", laid_loop_example_g01301_impl_errLimit), ("loop.example/g01301/impl.errState", laid_loop_example_g01301_impl_errState), ("loop.example/g01301/impl.errSyntax", laid_loop_example_g01301_impl_errSyntax), ("loop.example/g01301/impl.errNotFound", laid_loop_example_g01301_impl_errNotFound)] }
def FnExactFirstBandSaid : Prop := fnExactFirstBandRow.holds Tryd.pinned (OpenSpec.ofChange fnExactFirstBandSpec)

/-- ITS FALSE NEIGHBOUR: 'it returns false'. Refute it at one input. -/
def fnExactFirstBandWrong : ChangeSpec := { name := "fnExactFirstBand", vars := ["loop.example/g01301/impl.errRange", "loop.example/g01301/impl.errNotFound", "loop.example/g01301/impl.errInvalid", "loop.example/g01301/impl.errLimit", "loop.example/g01301/impl.errState", "loop.example/g01301/impl.errSyntax"], fn := fun _ => fun
  | [d1, d2, g1, g2, g3, g4, g5, g6] => { results := [.lit (.bool false)], args := [d1, d2], vars := [g1, g2, g3, g4, g5, g6] }
  | _ => none }
def FnExactFirstBandWrongFalsely : Prop := fnExactFirstBandRow.holds Tryd.pinned (OpenSpec.ofChange fnExactFirstBandWrong)

/-- 'laws.FnExactFinerStrip': WHATEVER THE INPUT: true; the input reads as it did. -/
def fnExactFinerStripSpec : ChangeSpec := { name := "fnExactFinerStrip", vars := ["loop.example/g01301/impl.errInvalid", "loop.example/g01301/impl.errRange", "loop.example/g01301/impl.errLimit", "loop.example/g01301/impl.errState", "loop.example/g01301/impl.errSyntax", "loop.example/g01301/impl.errNotFound"], fn := fun _ => fun
  | [d1, d2, g1, g2, g3, g4, g5, g6] => { results := [.lit (.bool true)], args := [d1, d2], vars := [g1, g2, g3, g4, g5, g6] }
  | _ => none }
def fnExactFinerStripRow : OpenClaim := { program := "ytkhahffdacopdaadoor", sum := "8b9f8f0ab48d56fde1cabb162f8a3b6d7f4f55f57e8d82b7ead6833daf985b09", func := "loop.example/g01301/laws.FnExactFinerStrip", spec := "fnExactFinerStrip", inPlace := ["internal/reflectlite.TypeOf"], unfollowed := true, recurses := true, named := ["loop.example/g01301/impl.errInvalid", "loop.example/g01301/impl.errRange", "loop.example/g01301/impl.errLimit", "loop.example/g01301/impl.errState", "loop.example/g01301/impl.errSyntax", "loop.example/g01301/impl.errNotFound"], ifaces := true, apart := false, laid := [("loop.example/g01301/impl.errInvalid", laid_loop_example_g01301_impl_errInvalid), ("loop.example/g01301/impl.errRange", laid_loop_example_g01301_impl_errRange), ("loop.example/g01301/impl.errLimit", laid_loop_example_g01301_impl_errLimit), ("loop.example/g01301/impl.errState", laid_loop_example_g01301_impl_errState), ("loop.example/g01301/impl.errSyntax", laid_loop_example_g01301_impl_errSyntax), ("loop.example/g01301/impl.errNotFound", laid_loop_example_g01301_impl_errNotFound)] }
def FnExactFinerStripSaid : Prop := fnExactFinerStripRow.holds Tryd.pinned (OpenSpec.ofChange fnExactFinerStripSpec)

/-- ITS FALSE NEIGHBOUR: 'it returns false'. Refute it at one input. -/
def fnExactFinerStripWrong : ChangeSpec := { name := "fnExactFinerStrip", vars := ["loop.example/g01301/impl.errInvalid", "loop.example/g01301/impl.errRange", "loop.example/g01301/impl.errLimit", "loop.example/g01301/impl.errState", "loop.example/g01301/impl.errSyntax", "loop.example/g01301/impl.errNotFound"], fn := fun _ => fun
  | [d1, d2, g1, g2, g3, g4, g5, g6] => { results := [.lit (.bool false)], args := [d1, d2], vars := [g1, g2, g3, g4, g5, g6] }
  | _ => none }
def FnExactFinerStripWrongFalsely : Prop := fnExactFinerStripRow.holds Tryd.pinned (OpenSpec.ofChange fnExactFinerStripWrong)

/-- 'laws.FnExactLightByStrips': WHATEVER THE INPUT: true; the input reads as it did. -/
def fnExactLightByStripsSpec : ChangeSpec := { name := "fnExactLightByStrips", vars := ["loop.example/g01301/impl.errInvalid", "loop.example/g01301/impl.errRange", "loop.example/g01301/impl.errNotFound", "loop.example/g01301/impl.errLimit", "loop.example/g01301/impl.errState", "loop.example/g01301/impl.errSyntax"], fn := fun _ => fun
  | [d1, d2, d3, g1, g2, g3, g4, g5, g6] => { results := [.lit (.bool true)], args := [d1, d2, d3], vars := [g1, g2, g3, g4, g5, g6] }
  | _ => none }
def fnExactLightByStripsRow : OpenClaim := { program := "ytkhahffdacopdaadoor", sum := "8b9f8f0ab48d56fde1cabb162f8a3b6d7f4f55f57e8d82b7ead6833daf985b09", func := "loop.example/g01301/laws.FnExactLightByStrips", spec := "fnExactLightByStrips", inPlace := ["internal/reflectlite.TypeOf"], unfollowed := true, recurses := true, named := ["loop.example/g01301/impl.errInvalid", "loop.example/g01301/impl.errRange", "loop.example/g01301/impl.errNotFound", "loop.example/g01301/impl.errLimit", "loop.example/g01301/impl.errState", "loop.example/g01301/impl.errSyntax"], ifaces := true, apart := false, laid := [("loop.example/g01301/impl.errInvalid", laid_loop_example_g01301_impl_errInvalid), ("loop.example/g01301/impl.errRange", laid_loop_example_g01301_impl_errRange), ("loop.example/g01301/impl.errLimit", laid_loop_example_g01301_impl_errLimit), ("loop.example/g01301/impl.errState", laid_loop_example_g01301_impl_errState), ("loop.example/g01301/impl.errSyntax", laid_loop_example_g01301_impl_errSyntax), ("loop.example/g01301/impl.errNotFound", laid_loop_example_g01301_impl_errNotFound)] }
def FnExactLightByStripsSaid : Prop := fnExactLightByStripsRow.holds Tryd.pinned (OpenSpec.ofChange fnExactLightByStripsSpec)

/-- ITS FALSE NEIGHBOUR: 'it returns false'. Refute it at one input. -/
def fnExactLightByStripsWrong : ChangeSpec := { name := "fnExactLightByStrips", vars := ["loop.example/g01301/impl.errInvalid", "loop.example/g01301/impl.errRange", "loop.example/g01301/impl.errNotFound", "loop.example/g01301/impl.errLimit", "loop.example/g01301/impl.errState", "loop.example/g01301/impl.errSyntax"], fn := fun _ => fun
  | [d1, d2, d3, g1, g2, g3, g4, g5, g6] => { results := [.lit (.bool false)], args := [d1, d2, d3], vars := [g1, g2, g3, g4, g5, g6] }
  | _ => none }
def FnExactLightByStripsWrongFalsely : Prop := fnExactLightByStripsRow.holds Tryd.pinned (OpenSpec.ofChange fnExactLightByStripsWrong)

/-- 'laws.FnExactScaleOf': WHATEVER THE INPUT: true; the input reads as it did. -/
def fnExactScaleOfSpec : ChangeSpec := { name := "fnExactScaleOf", vars := ["loop.example/g01301/impl.errInvalid", "loop.example/g01301/impl.errRange", "loop.example/g01301/impl.errNotFound", "loop.example/g01301/impl.errLimit", "loop.example/g01301/impl.errState", "loop.example/g01301/impl.errSyntax"], fn := fun _ => fun
  | [d1, d2, d3, g1, g2, g3, g4, g5, g6] => { results := [.lit (.bool true)], args := [d1, d2, d3], vars := [g1, g2, g3, g4, g5, g6] }
  | _ => none }
def fnExactScaleOfRow : OpenClaim := { program := "ytkhahffdacopdaadoor", sum := "8b9f8f0ab48d56fde1cabb162f8a3b6d7f4f55f57e8d82b7ead6833daf985b09", func := "loop.example/g01301/laws.FnExactScaleOf", spec := "fnExactScaleOf", inPlace := ["internal/reflectlite.TypeOf"], unfollowed := true, recurses := true, named := ["loop.example/g01301/impl.errInvalid", "loop.example/g01301/impl.errRange", "loop.example/g01301/impl.errNotFound", "loop.example/g01301/impl.errLimit", "loop.example/g01301/impl.errState", "loop.example/g01301/impl.errSyntax"], ifaces := true, apart := false, laid := [("loop.example/g01301/impl.errInvalid", laid_loop_example_g01301_impl_errInvalid), ("loop.example/g01301/impl.errRange", laid_loop_example_g01301_impl_errRange), ("loop.example/g01301/impl.errLimit", laid_loop_example_g01301_impl_errLimit), ("loop.example/g01301/impl.errState", laid_loop_example_g01301_impl_errState), ("loop.example/g01301/impl.errSyntax", laid_loop_example_g01301_impl_errSyntax), ("loop.example/g01301/impl.errNotFound", laid_loop_example_g01301_impl_errNotFound)] }
def FnExactScaleOfSaid : Prop := fnExactScaleOfRow.holds Tryd.pinned (OpenSpec.ofChange fnExactScaleOfSpec)

/-- ITS FALSE NEIGHBOUR: 'it returns false'. Refute it at one input. -/
def fnExactScaleOfWrong : ChangeSpec := { name := "fnExactScaleOf", vars := ["loop.example/g01301/impl.errInvalid", "loop.example/g01301/impl.errRange", "loop.example/g01301/impl.errNotFound", "loop.example/g01301/impl.errLimit", "loop.example/g01301/impl.errState", "loop.example/g01301/impl.errSyntax"], fn := fun _ => fun
  | [d1, d2, d3, g1, g2, g3, g4, g5, g6] => { results := [.lit (.bool false)], args := [d1, d2, d3], vars := [g1, g2, g3, g4, g5, g6] }
  | _ => none }
def FnExactScaleOfWrongFalsely : Prop := fnExactScaleOfRow.holds Tryd.pinned (OpenSpec.ofChange fnExactScaleOfWrong)

/-- 'laws.FnExactConvertLight': WHATEVER THE INPUT: true; the input reads as it did. -/
def fnExactConvertLightSpec : ChangeSpec := { name := "fnExactConvertLight", vars := ["loop.example/g01301/impl.errInvalid", "loop.example/g01301/impl.errRange", "loop.example/g01301/impl.errNotFound", "loop.example/g01301/impl.errLimit", "loop.example/g01301/impl.errState", "loop.example/g01301/impl.errSyntax"], fn := fun _ => fun
  | [d1, d2, d3, g1, g2, g3, g4, g5, g6] => { results := [.lit (.bool true)], args := [d1, d2, d3], vars := [g1, g2, g3, g4, g5, g6] }
  | _ => none }
def fnExactConvertLightRow : OpenClaim := { program := "ytkhahffdacopdaadoor", sum := "8b9f8f0ab48d56fde1cabb162f8a3b6d7f4f55f57e8d82b7ead6833daf985b09", func := "loop.example/g01301/laws.FnExactConvertLight", spec := "fnExactConvertLight", inPlace := ["internal/reflectlite.TypeOf"], unfollowed := true, recurses := true, named := ["loop.example/g01301/impl.errInvalid", "loop.example/g01301/impl.errRange", "loop.example/g01301/impl.errNotFound", "loop.example/g01301/impl.errLimit", "loop.example/g01301/impl.errState", "loop.example/g01301/impl.errSyntax"], ifaces := true, apart := false, laid := [("loop.example/g01301/impl.errInvalid", laid_loop_example_g01301_impl_errInvalid), ("loop.example/g01301/impl.errRange", laid_loop_example_g01301_impl_errRange), ("loop.example/g01301/impl.errLimit", laid_loop_example_g01301_impl_errLimit), ("loop.example/g01301/impl.errState", laid_loop_example_g01301_impl_errState), ("loop.example/g01301/impl.errSyntax", laid_loop_example_g01301_impl_errSyntax), ("loop.example/g01301/impl.errNotFound", laid_loop_example_g01301_impl_errNotFound)] }
def FnExactConvertLightSaid : Prop := fnExactConvertLightRow.holds Tryd.pinned (OpenSpec.ofChange fnExactConvertLightSpec)

/-- ITS FALSE NEIGHBOUR: 'it returns false'. Refute it at one input. -/
def fnExactConvertLightWrong : ChangeSpec := { name := "fnExactConvertLight", vars := ["loop.example/g01301/impl.errInvalid", "loop.example/g01301/impl.errRange", "loop.example/g01301/impl.errNotFound", "loop.example/g01301/impl.errLimit", "loop.example/g01301/impl.errState", "loop.example/g01301/impl.errSyntax"], fn := fun _ => fun
  | [d1, d2, d3, g1, g2, g3, g4, g5, g6] => { results := [.lit (.bool false)], args := [d1, d2, d3], vars := [g1, g2, g3, g4, g5, g6] }
  | _ => none }
def FnExactConvertLightWrongFalsely : Prop := fnExactConvertLightRow.holds Tryd.pinned (OpenSpec.ofChange fnExactConvertLightWrong)

/-- 'laws.FnExactConvertTable': WHATEVER THE INPUT: true; the input reads as it did. -/
def fnExactConvertTableSpec : ChangeSpec := { name := "fnExactConvertTable", vars := ["loop.example/g01301/impl.errInvalid", "loop.example/g01301/impl.errNotFound", "loop.example/g01301/impl.errRange", "loop.example/g01301/impl.errLimit", "loop.example/g01301/impl.errState", "loop.example/g01301/impl.errSyntax"], fn := fun _ => fun
  | [d1, d2, g1, g2, g3, g4, g5, g6] => { results := [.lit (.bool true)], args := [d1, d2], vars := [g1, g2, g3, g4, g5, g6] }
  | _ => none }
def fnExactConvertTableRow : OpenClaim := { program := "ytkhahffdacopdaadoor", sum := "8b9f8f0ab48d56fde1cabb162f8a3b6d7f4f55f57e8d82b7ead6833daf985b09", func := "loop.example/g01301/laws.FnExactConvertTable", spec := "fnExactConvertTable", inPlace := ["internal/reflectlite.TypeOf"], unfollowed := true, recurses := true, named := ["loop.example/g01301/impl.errInvalid", "loop.example/g01301/impl.errNotFound", "loop.example/g01301/impl.errRange", "loop.example/g01301/impl.errLimit", "loop.example/g01301/impl.errState", "loop.example/g01301/impl.errSyntax"], ifaces := true, apart := false, laid := [("loop.example/g01301/impl.errInvalid", laid_loop_example_g01301_impl_errInvalid), ("loop.example/g01301/impl.errRange", laid_loop_example_g01301_impl_errRange), ("loop.example/g01301/impl.errLimit", laid_loop_example_g01301_impl_errLimit), ("loop.example/g01301/impl.errState", laid_loop_example_g01301_impl_errState), ("loop.example/g01301/impl.errSyntax", laid_loop_example_g01301_impl_errSyntax), ("loop.example/g01301/impl.errNotFound", laid_loop_example_g01301_impl_errNotFound)] }
def FnExactConvertTableSaid : Prop := fnExactConvertTableRow.holds Tryd.pinned (OpenSpec.ofChange fnExactConvertTableSpec)

/-- ITS FALSE NEIGHBOUR: 'it returns false'. Refute it at one input. -/
def fnExactConvertTableWrong : ChangeSpec := { name := "fnExactConvertTable", vars := ["loop.example/g01301/impl.errInvalid", "loop.example/g01301/impl.errNotFound", "loop.example/g01301/impl.errRange", "loop.example/g01301/impl.errLimit", "loop.example/g01301/impl.errState", "loop.example/g01301/impl.errSyntax"], fn := fun _ => fun
  | [d1, d2, g1, g2, g3, g4, g5, g6] => { results := [.lit (.bool false)], args := [d1, d2], vars := [g1, g2, g3, g4, g5, g6] }
  | _ => none }
def FnExactConvertTableWrongFalsely : Prop := fnExactConvertTableRow.holds Tryd.pinned (OpenSpec.ofChange fnExactConvertTableWrong)

/- THE SECOND FORM. 'bulk': how many values and letters a reading holds, each counted each time it is reached (what is shared counts as often as it is met; a slice's spare places count too). A statement '..UptoSaid' is the law's where the arguments, and the package variables that the reading takes, are together of bulk at most 1048576: NARROWER than '..Said'. Prove '..Said' where nothing that the law and all that it calls make is longer than what came in: it says more and counts as full. Else prove '..UptoSaid'. A law counts once. -/
mutual
def uptoBulk {H : Type} : DataW H → Nat
  | .lit (.string bytes) => bytes.length + 1
  | .lit _ => 1
  | .nil => 1
  | .ptr d => uptoBulk d + 1
  | .slice elems spare => uptoBulkAll elems + uptoBulkAll spare + 1
  | .agg parts => uptoBulkAll parts + 1
  | .iface _ d => uptoBulk d + 1
  | .map entries => uptoBulkEntries entries + 1
  | .held _ => 1
def uptoBulkAll {H : Type} : List (DataW H) → Nat
  | [] => 0
  | d :: r => uptoBulk d + uptoBulkAll r
def uptoBulkEntries {H : Type} : List (Lit × DataW H) → Nat
  | [] => 0
  | x :: r => uptoBulkEntry x + uptoBulkEntries r
def uptoBulkEntry {H : Type} : Lit × DataW H → Nat
  | (.string bytes, d) => bytes.length + uptoBulk d + 1
  | (_, d) => uptoBulk d + 1
 end
def uptoSmall : (H : Type) → List (DataW H) → Bool := fun _ ds => decide (uptoBulkAll ds ≤ 1048576)
def OpenSpec.upto (s : _root_.Go.ChangeSpec) : _root_.Go.OpenSpec := { _root_.Go.OpenSpec.ofChange s with cond := some uptoSmall }

/-- 'laws.FnExactLightsOf', WHERE WHAT IT READS IS OF BULK AT MOST 1048576: true; the input reads as it did. -/
def fnExactLightsOfUptoRow : OpenClaim := { program := "ytkhahffdacopdaadoor", sum := "8b9f8f0ab48d56fde1cabb162f8a3b6d7f4f55f57e8d82b7ead6833daf985b09", func := "loop.example/g01301/laws.FnExactLightsOf", spec := "fnExactLightsOf", inPlace := ["internal/reflectlite.TypeOf"], unfollowed := true, recurses := true, named := ["loop.example/g01301/impl.errInvalid", "loop.example/g01301/impl.errRange", "loop.example/g01301/impl.errLimit", "loop.example/g01301/impl.errState", "loop.example/g01301/impl.errSyntax", "loop.example/g01301/impl.errNotFound"], ifaces := true, apart := false, laid := [("loop.example/g01301/impl.errInvalid", laid_loop_example_g01301_impl_errInvalid), ("loop.example/g01301/impl.errRange", laid_loop_example_g01301_impl_errRange), ("loop.example/g01301/impl.errLimit", laid_loop_example_g01301_impl_errLimit), ("loop.example/g01301/impl.errState", laid_loop_example_g01301_impl_errState), ("loop.example/g01301/impl.errSyntax", laid_loop_example_g01301_impl_errSyntax), ("loop.example/g01301/impl.errNotFound", laid_loop_example_g01301_impl_errNotFound)], narrowed := true }
def FnExactLightsOfUptoSaid : Prop := fnExactLightsOfUptoRow.holds Tryd.pinned (OpenSpec.upto fnExactLightsOfSpec)

/-- 'laws.FnExactCoveredLights', WHERE WHAT IT READS IS OF BULK AT MOST 1048576: true; the input reads as it did. -/
def fnExactCoveredLightsUptoRow : OpenClaim := { program := "ytkhahffdacopdaadoor", sum := "8b9f8f0ab48d56fde1cabb162f8a3b6d7f4f55f57e8d82b7ead6833daf985b09", func := "loop.example/g01301/laws.FnExactCoveredLights", spec := "fnExactCoveredLights", inPlace := ["internal/reflectlite.TypeOf"], unfollowed := true, recurses := true, named := ["loop.example/g01301/impl.stopTimes", "loop.example/g01301/impl.errRange", "loop.example/g01301/impl.errNotFound", "loop.example/g01301/impl.errInvalid", "loop.example/g01301/impl.errLimit", "loop.example/g01301/impl.errState", "loop.example/g01301/impl.errSyntax"], ifaces := true, apart := false, laid := [("loop.example/g01301/impl.errInvalid", laid_loop_example_g01301_impl_errInvalid), ("loop.example/g01301/impl.errRange", laid_loop_example_g01301_impl_errRange), ("loop.example/g01301/impl.errLimit", laid_loop_example_g01301_impl_errLimit), ("loop.example/g01301/impl.errState", laid_loop_example_g01301_impl_errState), ("loop.example/g01301/impl.errSyntax", laid_loop_example_g01301_impl_errSyntax), ("loop.example/g01301/impl.errNotFound", laid_loop_example_g01301_impl_errNotFound), ("loop.example/g01301/impl.stopTimes", laid_loop_example_g01301_impl_stopTimes)], narrowed := true }
def FnExactCoveredLightsUptoSaid : Prop := fnExactCoveredLightsUptoRow.holds Tryd.pinned (OpenSpec.upto fnExactCoveredLightsSpec)

/-- 'laws.FnExactBandsOf', WHERE WHAT IT READS IS OF BULK AT MOST 1048576: true; the input reads as it did. -/
def fnExactBandsOfUptoRow : OpenClaim := { program := "ytkhahffdacopdaadoor", sum := "8b9f8f0ab48d56fde1cabb162f8a3b6d7f4f55f57e8d82b7ead6833daf985b09", func := "loop.example/g01301/laws.FnExactBandsOf", spec := "fnExactBandsOf", inPlace := ["internal/reflectlite.TypeOf"], unfollowed := true, recurses := true, named := ["loop.example/g01301/impl.errInvalid", "loop.example/g01301/impl.errRange", "loop.example/g01301/impl.errLimit", "loop.example/g01301/impl.errState", "loop.example/g01301/impl.errSyntax", "loop.example/g01301/impl.errNotFound"], ifaces := true, apart := false, laid := [("loop.example/g01301/impl.errInvalid", laid_loop_example_g01301_impl_errInvalid), ("loop.example/g01301/impl.errRange", laid_loop_example_g01301_impl_errRange), ("loop.example/g01301/impl.errLimit", laid_loop_example_g01301_impl_errLimit), ("loop.example/g01301/impl.errState", laid_loop_example_g01301_impl_errState), ("loop.example/g01301/impl.errSyntax", laid_loop_example_g01301_impl_errSyntax), ("loop.example/g01301/impl.errNotFound", laid_loop_example_g01301_impl_errNotFound)], narrowed := true }
def FnExactBandsOfUptoSaid : Prop := fnExactBandsOfUptoRow.holds Tryd.pinned (OpenSpec.upto fnExactBandsOfSpec)

/-- 'laws.FnExactCoveredBands', WHERE WHAT IT READS IS OF BULK AT MOST 1048576: true; the input reads as it did. -/
def fnExactCoveredBandsUptoRow : OpenClaim := { program := "ytkhahffdacopdaadoor", sum := "8b9f8f0ab48d56fde1cabb162f8a3b6d7f4f55f57e8d82b7ead6833daf985b09", func := "loop.example/g01301/laws.FnExactCoveredBands", spec := "fnExactCoveredBands", inPlace := ["internal/reflectlite.TypeOf"], unfollowed := true, recurses := true, named := ["loop.example/g01301/impl.stopTimes", "loop.example/g01301/impl.errRange", "loop.example/g01301/impl.errNotFound", "loop.example/g01301/impl.errInvalid", "loop.example/g01301/impl.errLimit", "loop.example/g01301/impl.errState", "loop.example/g01301/impl.errSyntax"], ifaces := true, apart := false, laid := [("loop.example/g01301/impl.errInvalid", laid_loop_example_g01301_impl_errInvalid), ("loop.example/g01301/impl.errRange", laid_loop_example_g01301_impl_errRange), ("loop.example/g01301/impl.errLimit", laid_loop_example_g01301_impl_errLimit), ("loop.example/g01301/impl.errState", laid_loop_example_g01301_impl_errState), ("loop.example/g01301/impl.errSyntax", laid_loop_example_g01301_impl_errSyntax), ("loop.example/g01301/impl.errNotFound", laid_loop_example_g01301_impl_errNotFound), ("loop.example/g01301/impl.stopTimes", laid_loop_example_g01301_impl_stopTimes)], narrowed := true }
def FnExactCoveredBandsUptoSaid : Prop := fnExactCoveredBandsUptoRow.holds Tryd.pinned (OpenSpec.upto fnExactCoveredBandsSpec)

/-- 'laws.FnExactNearestBand', WHERE WHAT IT READS IS OF BULK AT MOST 1048576: true; the input reads as it did. -/
def fnExactNearestBandUptoRow : OpenClaim := { program := "ytkhahffdacopdaadoor", sum := "8b9f8f0ab48d56fde1cabb162f8a3b6d7f4f55f57e8d82b7ead6833daf985b09", func := "loop.example/g01301/laws.FnExactNearestBand", spec := "fnExactNearestBand", inPlace := ["internal/reflectlite.TypeOf"], unfollowed := true, recurses := true, named := ["loop.example/g01301/impl.errRange", "loop.example/g01301/impl.errInvalid", "loop.example/g01301/impl.errLimit", "loop.example/g01301/impl.errState", "loop.example/g01301/impl.errSyntax", "loop.example/g01301/impl.errNotFound"], ifaces := true, apart := false, laid := [("loop.example/g01301/impl.errInvalid", laid_loop_example_g01301_impl_errInvalid), ("loop.example/g01301/impl.errRange", laid_loop_example_g01301_impl_errRange), ("loop.example/g01301/impl.errLimit", laid_loop_example_g01301_impl_errLimit), ("loop.example/g01301/impl.errState", laid_loop_example_g01301_impl_errState), ("loop.example/g01301/impl.errSyntax", laid_loop_example_g01301_impl_errSyntax), ("loop.example/g01301/impl.errNotFound", laid_loop_example_g01301_impl_errNotFound)], narrowed := true }
def FnExactNearestBandUptoSaid : Prop := fnExactNearestBandUptoRow.holds Tryd.pinned (OpenSpec.upto fnExactNearestBandSpec)

/-- 'laws.FnExactFirstBand', WHERE WHAT IT READS IS OF BULK AT MOST 1048576: true; the input reads as it did. -/
def fnExactFirstBandUptoRow : OpenClaim := { program := "ytkhahffdacopdaadoor", sum := "8b9f8f0ab48d56fde1cabb162f8a3b6d7f4f55f57e8d82b7ead6833daf985b09", func := "loop.example/g01301/laws.FnExactFirstBand", spec := "fnExactFirstBand", inPlace := ["internal/reflectlite.TypeOf"], unfollowed := true, recurses := true, named := ["loop.example/g01301/impl.errRange", "loop.example/g01301/impl.errNotFound", "loop.example/g01301/impl.errInvalid", "loop.example/g01301/impl.errLimit", "loop.example/g01301/impl.errState", "loop.example/g01301/impl.errSyntax"], ifaces := true, apart := false, laid := [("loop.example/g01301/impl.errInvalid", laid_loop_example_g01301_impl_errInvalid), ("loop.example/g01301/impl.errRange", laid_loop_example_g01301_impl_errRange), ("loop.example/g01301/impl.errLimit", laid_loop_example_g01301_impl_errLimit), ("loop.example/g01301/impl.errState", laid_loop_example_g01301_impl_errState), ("loop.example/g01301/impl.errSyntax", laid_loop_example_g01301_impl_errSyntax), ("loop.example/g01301/impl.errNotFound", laid_loop_example_g01301_impl_errNotFound)], narrowed := true }
def FnExactFirstBandUptoSaid : Prop := fnExactFirstBandUptoRow.holds Tryd.pinned (OpenSpec.upto fnExactFirstBandSpec)

/-- 'laws.FnExactFinerStrip', WHERE WHAT IT READS IS OF BULK AT MOST 1048576: true; the input reads as it did. -/
def fnExactFinerStripUptoRow : OpenClaim := { program := "ytkhahffdacopdaadoor", sum := "8b9f8f0ab48d56fde1cabb162f8a3b6d7f4f55f57e8d82b7ead6833daf985b09", func := "loop.example/g01301/laws.FnExactFinerStrip", spec := "fnExactFinerStrip", inPlace := ["internal/reflectlite.TypeOf"], unfollowed := true, recurses := true, named := ["loop.example/g01301/impl.errInvalid", "loop.example/g01301/impl.errRange", "loop.example/g01301/impl.errLimit", "loop.example/g01301/impl.errState", "loop.example/g01301/impl.errSyntax", "loop.example/g01301/impl.errNotFound"], ifaces := true, apart := false, laid := [("loop.example/g01301/impl.errInvalid", laid_loop_example_g01301_impl_errInvalid), ("loop.example/g01301/impl.errRange", laid_loop_example_g01301_impl_errRange), ("loop.example/g01301/impl.errLimit", laid_loop_example_g01301_impl_errLimit), ("loop.example/g01301/impl.errState", laid_loop_example_g01301_impl_errState), ("loop.example/g01301/impl.errSyntax", laid_loop_example_g01301_impl_errSyntax), ("loop.example/g01301/impl.errNotFound", laid_loop_example_g01301_impl_errNotFound)], narrowed := true }
def FnExactFinerStripUptoSaid : Prop := fnExactFinerStripUptoRow.holds Tryd.pinned (OpenSpec.upto fnExactFinerStripSpec)

/-- 'laws.FnExactLightByStrips', WHERE WHAT IT READS IS OF BULK AT MOST 1048576: true; the input reads as it did. -/
def fnExactLightByStripsUptoRow : OpenClaim := { program := "ytkhahffdacopdaadoor", sum := "8b9f8f0ab48d56fde1cabb162f8a3b6d7f4f55f57e8d82b7ead6833daf985b09", func := "loop.example/g01301/laws.FnExactLightByStrips", spec := "fnExactLightByStrips", inPlace := ["internal/reflectlite.TypeOf"], unfollowed := true, recurses := true, named := ["loop.example/g01301/impl.errInvalid", "loop.example/g01301/impl.errRange", "loop.example/g01301/impl.errNotFound", "loop.example/g01301/impl.errLimit", "loop.example/g01301/impl.errState", "loop.example/g01301/impl.errSyntax"], ifaces := true, apart := false, laid := [("loop.example/g01301/impl.errInvalid", laid_loop_example_g01301_impl_errInvalid), ("loop.example/g01301/impl.errRange", laid_loop_example_g01301_impl_errRange), ("loop.example/g01301/impl.errLimit", laid_loop_example_g01301_impl_errLimit), ("loop.example/g01301/impl.errState", laid_loop_example_g01301_impl_errState), ("loop.example/g01301/impl.errSyntax", laid_loop_example_g01301_impl_errSyntax), ("loop.example/g01301/impl.errNotFound", laid_loop_example_g01301_impl_errNotFound)], narrowed := true }
def FnExactLightByStripsUptoSaid : Prop := fnExactLightByStripsUptoRow.holds Tryd.pinned (OpenSpec.upto fnExactLightByStripsSpec)

/-- 'laws.FnExactScaleOf', WHERE WHAT IT READS IS OF BULK AT MOST 1048576: true; the input reads as it did. -/
def fnExactScaleOfUptoRow : OpenClaim := { program := "ytkhahffdacopdaadoor", sum := "8b9f8f0ab48d56fde1cabb162f8a3b6d7f4f55f57e8d82b7ead6833daf985b09", func := "loop.example/g01301/laws.FnExactScaleOf", spec := "fnExactScaleOf", inPlace := ["internal/reflectlite.TypeOf"], unfollowed := true, recurses := true, named := ["loop.example/g01301/impl.errInvalid", "loop.example/g01301/impl.errRange", "loop.example/g01301/impl.errNotFound", "loop.example/g01301/impl.errLimit", "loop.example/g01301/impl.errState", "loop.example/g01301/impl.errSyntax"], ifaces := true, apart := false, laid := [("loop.example/g01301/impl.errInvalid", laid_loop_example_g01301_impl_errInvalid), ("loop.example/g01301/impl.errRange", laid_loop_example_g01301_impl_errRange), ("loop.example/g01301/impl.errLimit", laid_loop_example_g01301_impl_errLimit), ("loop.example/g01301/impl.errState", laid_loop_example_g01301_impl_errState), ("loop.example/g01301/impl.errSyntax", laid_loop_example_g01301_impl_errSyntax), ("loop.example/g01301/impl.errNotFound", laid_loop_example_g01301_impl_errNotFound)], narrowed := true }
def FnExactScaleOfUptoSaid : Prop := fnExactScaleOfUptoRow.holds Tryd.pinned (OpenSpec.upto fnExactScaleOfSpec)

/-- 'laws.FnExactConvertLight', WHERE WHAT IT READS IS OF BULK AT MOST 1048576: true; the input reads as it did. -/
def fnExactConvertLightUptoRow : OpenClaim := { program := "ytkhahffdacopdaadoor", sum := "8b9f8f0ab48d56fde1cabb162f8a3b6d7f4f55f57e8d82b7ead6833daf985b09", func := "loop.example/g01301/laws.FnExactConvertLight", spec := "fnExactConvertLight", inPlace := ["internal/reflectlite.TypeOf"], unfollowed := true, recurses := true, named := ["loop.example/g01301/impl.errInvalid", "loop.example/g01301/impl.errRange", "loop.example/g01301/impl.errNotFound", "loop.example/g01301/impl.errLimit", "loop.example/g01301/impl.errState", "loop.example/g01301/impl.errSyntax"], ifaces := true, apart := false, laid := [("loop.example/g01301/impl.errInvalid", laid_loop_example_g01301_impl_errInvalid), ("loop.example/g01301/impl.errRange", laid_loop_example_g01301_impl_errRange), ("loop.example/g01301/impl.errLimit", laid_loop_example_g01301_impl_errLimit), ("loop.example/g01301/impl.errState", laid_loop_example_g01301_impl_errState), ("loop.example/g01301/impl.errSyntax", laid_loop_example_g01301_impl_errSyntax), ("loop.example/g01301/impl.errNotFound", laid_loop_example_g01301_impl_errNotFound)], narrowed := true }
def FnExactConvertLightUptoSaid : Prop := fnExactConvertLightUptoRow.holds Tryd.pinned (OpenSpec.upto fnExactConvertLightSpec)

/-- 'laws.FnExactConvertTable', WHERE WHAT IT READS IS OF BULK AT MOST 1048576: true; the input reads as it did. -/
def fnExactConvertTableUptoRow : OpenClaim := { program := "ytkhahffdacopdaadoor", sum := "8b9f8f0ab48d56fde1cabb162f8a3b6d7f4f55f57e8d82b7ead6833daf985b09", func := "loop.example/g01301/laws.FnExactConvertTable", spec := "fnExactConvertTable", inPlace := ["internal/reflectlite.TypeOf"], unfollowed := true, recurses := true, named := ["loop.example/g01301/impl.errInvalid", "loop.example/g01301/impl.errNotFound", "loop.example/g01301/impl.errRange", "loop.example/g01301/impl.errLimit", "loop.example/g01301/impl.errState", "loop.example/g01301/impl.errSyntax"], ifaces := true, apart := false, laid := [("loop.example/g01301/impl.errInvalid", laid_loop_example_g01301_impl_errInvalid), ("loop.example/g01301/impl.errRange", laid_loop_example_g01301_impl_errRange), ("loop.example/g01301/impl.errLimit", laid_loop_example_g01301_impl_errLimit), ("loop.example/g01301/impl.errState", laid_loop_example_g01301_impl_errState), ("loop.example/g01301/impl.errSyntax", laid_loop_example_g01301_impl_errSyntax), ("loop.example/g01301/impl.errNotFound", laid_loop_example_g01301_impl_errNotFound)], narrowed := true }
def FnExactConvertTableUptoSaid : Prop := fnExactConvertTableUptoRow.holds Tryd.pinned (OpenSpec.upto fnExactConvertTableSpec)

end Rows
end Go.Proofs.YtkhahffdacopdaaDoor
