/-
  NARROWER THAN 'FOR EVERY INPUT', by the rows' own cells (each row's printed sentence says how): FnExactReadingAt: ifaces, laid · FnExactMeanReading: ifaces, laid · FnExactFieldMean: ifaces, laid · FnExactZoneOf: ifaces, laid · FnExactZonesOf: ifaces, laid · FnExactCountZones: ifaces, laid · FnExactOffScale: ifaces, laid · FnExactPlaceFor: ifaces, laid · FnExactSamePlacing: ifaces, laid · FnExactSettingFor: ifaces, laid · FnExactDevelopBy: ifaces, laid · FnExactBrighterField: ifaces, laid.
  DERIVED. THE GIVEN ROWS OF THIS SEAT. 12 by the template 'for every input the law returns true; each argument reads behind the call as it read before'; 0 by the template 'total and deterministic' (their statements: YtaanboedhabheaaDoorTotals.lean).
  GIVEN WITH THE SEED: the statements are not yours to turn. If you find one false, say at which input.
  Laid BY PROGRAM, IN A SANDBOX (cutbox-rows.mjs): the forced cells as the released guide's own fill.sh prints them over the translation e4b43cc626f4a688… (all of the seat's roots in one cut). By AI agents, Wed Nov 11 2026. No macro, syntax, notation, axiom, sorry.
-/
import Derived.Test.YtaanboedhabheaaDoorChecked
import GoSem.Claim
import GoSem.ClaimJoined
import GoSem.ClaimMapViews
import Derived.JoinedTies
import Derived.KernelRfl
namespace Go.Proofs.YtaanboedhabheaaDoor
/- THE CELL 'sum', in the pinned program and in every row, IS THE sha256 OF THE DUMP (.gsa) THAT YtaanboedhabheaaDoorProg.lean LOADS. Nothing in Lean hashes anything: it is a label: what it is worth is what the hold of that sum in a sandbox is worth. -/
noncomputable def Tryd.pinned : Pinned := { name := "ytaanboedhabheaadoor", sum := "e4b43cc626f4a68811196979bea232335e53219561d7e41be816cc1948581e52", checked := Tryd.checked }
namespace Rows
def none {H : Type} : Left H := { results := [], args := [] }

/- WHAT THE LISTED PACKAGE-LEVEL VARIABLES READ AS WHEN THE CALL BEGINS. Each datum BY PROGRAM (the guide's laid-datum.mjs) off the statement by which the dump's own 'gosem.cut.vars' lays the variable. In a bare row this is a premise. The card (YtaanboedhabheaaDoorCards.lean) ties it to the program's text. -/
def laid_loop_example_g01301_impl_errInvalid {H : Type} : DataW H := .iface "*errors.errorString" (.ptr (.agg [.lit (.string [105, 110, 118, 97, 108, 105, 100])]))
def laid_loop_example_g01301_impl_errRange {H : Type} : DataW H := .iface "*errors.errorString" (.ptr (.agg [.lit (.string [114, 97, 110, 103, 101])]))
def laid_loop_example_g01301_impl_errLimit {H : Type} : DataW H := .iface "*errors.errorString" (.ptr (.agg [.lit (.string [108, 105, 109, 105, 116])]))
def laid_loop_example_g01301_impl_errState {H : Type} : DataW H := .iface "*errors.errorString" (.ptr (.agg [.lit (.string [115, 116, 97, 116, 101])]))
def laid_loop_example_g01301_impl_errSyntax {H : Type} : DataW H := .iface "*errors.errorString" (.ptr (.agg [.lit (.string [115, 121, 110, 116, 97, 120])]))
def laid_loop_example_g01301_impl_errNotFound {H : Type} : DataW H := .iface "*errors.errorString" (.ptr (.agg [.lit (.string [110, 111, 116, 102, 111, 117, 110, 100])]))

/-- 'laws.FnExactReadingAt': WHATEVER THE INPUT: true; the input reads as it did. -/
def fnExactReadingAtSpec : ChangeSpec := { name := "fnExactReadingAt", vars := ["loop.example/g01301/impl.errInvalid", "loop.example/g01301/impl.errRange", "loop.example/g01301/impl.errLimit", "loop.example/g01301/impl.errState", "loop.example/g01301/impl.errSyntax", "loop.example/g01301/impl.errNotFound"], fn := fun _ => fun
  | [d1, d2, d3, g1, g2, g3, g4, g5, g6] => { results := [.lit (.bool true)], args := [d1, d2, d3], vars := [g1, g2, g3, g4, g5, g6] }
  | _ => none }
def fnExactReadingAtRow : OpenClaim := { program := "ytaanboedhabheaadoor", sum := "e4b43cc626f4a68811196979bea232335e53219561d7e41be816cc1948581e52", func := "loop.example/g01301/laws.FnExactReadingAt", spec := "fnExactReadingAt", inPlace := ["internal/reflectlite.TypeOf"], unfollowed := true, recurses := true, named := ["loop.example/g01301/impl.errInvalid", "loop.example/g01301/impl.errRange", "loop.example/g01301/impl.errLimit", "loop.example/g01301/impl.errState", "loop.example/g01301/impl.errSyntax", "loop.example/g01301/impl.errNotFound"], ifaces := true, apart := false, laid := [("loop.example/g01301/impl.errInvalid", laid_loop_example_g01301_impl_errInvalid), ("loop.example/g01301/impl.errRange", laid_loop_example_g01301_impl_errRange), ("loop.example/g01301/impl.errLimit", laid_loop_example_g01301_impl_errLimit), ("loop.example/g01301/impl.errState", laid_loop_example_g01301_impl_errState), ("loop.example/g01301/impl.errSyntax", laid_loop_example_g01301_impl_errSyntax), ("loop.example/g01301/impl.errNotFound", laid_loop_example_g01301_impl_errNotFound)] }
def FnExactReadingAtSaid : Prop := fnExactReadingAtRow.holds Tryd.pinned (OpenSpec.ofChange fnExactReadingAtSpec)

/-- ITS FALSE NEIGHBOUR: 'it returns false'. Refute it at one input. -/
def fnExactReadingAtWrong : ChangeSpec := { name := "fnExactReadingAt", vars := ["loop.example/g01301/impl.errInvalid", "loop.example/g01301/impl.errRange", "loop.example/g01301/impl.errLimit", "loop.example/g01301/impl.errState", "loop.example/g01301/impl.errSyntax", "loop.example/g01301/impl.errNotFound"], fn := fun _ => fun
  | [d1, d2, d3, g1, g2, g3, g4, g5, g6] => { results := [.lit (.bool false)], args := [d1, d2, d3], vars := [g1, g2, g3, g4, g5, g6] }
  | _ => none }
def FnExactReadingAtWrongFalsely : Prop := fnExactReadingAtRow.holds Tryd.pinned (OpenSpec.ofChange fnExactReadingAtWrong)

/-- 'laws.FnExactMeanReading': WHATEVER THE INPUT: true; the input reads as it did. -/
def fnExactMeanReadingSpec : ChangeSpec := { name := "fnExactMeanReading", vars := ["loop.example/g01301/impl.errInvalid", "loop.example/g01301/impl.errRange", "loop.example/g01301/impl.errState", "loop.example/g01301/impl.errLimit", "loop.example/g01301/impl.errSyntax", "loop.example/g01301/impl.errNotFound"], fn := fun _ => fun
  | [d, g1, g2, g3, g4, g5, g6] => { results := [.lit (.bool true)], args := [d], vars := [g1, g2, g3, g4, g5, g6] }
  | _ => none }
def fnExactMeanReadingRow : OpenClaim := { program := "ytaanboedhabheaadoor", sum := "e4b43cc626f4a68811196979bea232335e53219561d7e41be816cc1948581e52", func := "loop.example/g01301/laws.FnExactMeanReading", spec := "fnExactMeanReading", inPlace := ["internal/reflectlite.TypeOf"], unfollowed := true, recurses := true, named := ["loop.example/g01301/impl.errInvalid", "loop.example/g01301/impl.errRange", "loop.example/g01301/impl.errState", "loop.example/g01301/impl.errLimit", "loop.example/g01301/impl.errSyntax", "loop.example/g01301/impl.errNotFound"], ifaces := true, apart := false, laid := [("loop.example/g01301/impl.errInvalid", laid_loop_example_g01301_impl_errInvalid), ("loop.example/g01301/impl.errRange", laid_loop_example_g01301_impl_errRange), ("loop.example/g01301/impl.errLimit", laid_loop_example_g01301_impl_errLimit), ("loop.example/g01301/impl.errState", laid_loop_example_g01301_impl_errState), ("loop.example/g01301/impl.errSyntax", laid_loop_example_g01301_impl_errSyntax), ("loop.example/g01301/impl.errNotFound", laid_loop_example_g01301_impl_errNotFound)] }
def FnExactMeanReadingSaid : Prop := fnExactMeanReadingRow.holds Tryd.pinned (OpenSpec.ofChange fnExactMeanReadingSpec)

/-- ITS FALSE NEIGHBOUR: 'it returns false'. Refute it at one input. -/
def fnExactMeanReadingWrong : ChangeSpec := { name := "fnExactMeanReading", vars := ["loop.example/g01301/impl.errInvalid", "loop.example/g01301/impl.errRange", "loop.example/g01301/impl.errState", "loop.example/g01301/impl.errLimit", "loop.example/g01301/impl.errSyntax", "loop.example/g01301/impl.errNotFound"], fn := fun _ => fun
  | [d, g1, g2, g3, g4, g5, g6] => { results := [.lit (.bool false)], args := [d], vars := [g1, g2, g3, g4, g5, g6] }
  | _ => none }
def FnExactMeanReadingWrongFalsely : Prop := fnExactMeanReadingRow.holds Tryd.pinned (OpenSpec.ofChange fnExactMeanReadingWrong)

/-- 'laws.FnExactFieldMean': WHATEVER THE INPUT: true; the input reads as it did. -/
def fnExactFieldMeanSpec : ChangeSpec := { name := "fnExactFieldMean", vars := ["loop.example/g01301/impl.errInvalid", "loop.example/g01301/impl.errRange", "loop.example/g01301/impl.errState", "loop.example/g01301/impl.errLimit", "loop.example/g01301/impl.errSyntax", "loop.example/g01301/impl.errNotFound"], fn := fun _ => fun
  | [d1, d2, g1, g2, g3, g4, g5, g6] => { results := [.lit (.bool true)], args := [d1, d2], vars := [g1, g2, g3, g4, g5, g6] }
  | _ => none }
def fnExactFieldMeanRow : OpenClaim := { program := "ytaanboedhabheaadoor", sum := "e4b43cc626f4a68811196979bea232335e53219561d7e41be816cc1948581e52", func := "loop.example/g01301/laws.FnExactFieldMean", spec := "fnExactFieldMean", inPlace := ["internal/reflectlite.TypeOf"], unfollowed := true, recurses := true, named := ["loop.example/g01301/impl.errInvalid", "loop.example/g01301/impl.errRange", "loop.example/g01301/impl.errState", "loop.example/g01301/impl.errLimit", "loop.example/g01301/impl.errSyntax", "loop.example/g01301/impl.errNotFound"], ifaces := true, apart := false, laid := [("loop.example/g01301/impl.errInvalid", laid_loop_example_g01301_impl_errInvalid), ("loop.example/g01301/impl.errRange", laid_loop_example_g01301_impl_errRange), ("loop.example/g01301/impl.errLimit", laid_loop_example_g01301_impl_errLimit), ("loop.example/g01301/impl.errState", laid_loop_example_g01301_impl_errState), ("loop.example/g01301/impl.errSyntax", laid_loop_example_g01301_impl_errSyntax), ("loop.example/g01301/impl.errNotFound", laid_loop_example_g01301_impl_errNotFound)] }
def FnExactFieldMeanSaid : Prop := fnExactFieldMeanRow.holds Tryd.pinned (OpenSpec.ofChange fnExactFieldMeanSpec)

/-- ITS FALSE NEIGHBOUR: 'it returns false'. Refute it at one input. -/
def fnExactFieldMeanWrong : ChangeSpec := { name := "fnExactFieldMean", vars := ["loop.example/g01301/impl.errInvalid", "loop.example/g01301/impl.errRange", "loop.example/g01301/impl.errState", "loop.example/g01301/impl.errLimit", "loop.example/g01301/impl.errSyntax", "loop.example/g01301/impl.errNotFound"], fn := fun _ => fun
  | [d1, d2, g1, g2, g3, g4, g5, g6] => { results := [.lit (.bool false)], args := [d1, d2], vars := [g1, g2, g3, g4, g5, g6] }
  | _ => none }
def FnExactFieldMeanWrongFalsely : Prop := fnExactFieldMeanRow.holds Tryd.pinned (OpenSpec.ofChange fnExactFieldMeanWrong)

/-- 'laws.FnExactZoneOf': WHATEVER THE INPUT: true; the input reads as it did. -/
def fnExactZoneOfSpec : ChangeSpec := { name := "fnExactZoneOf", vars := ["loop.example/g01301/impl.errInvalid", "loop.example/g01301/impl.errRange", "loop.example/g01301/impl.errLimit", "loop.example/g01301/impl.errState", "loop.example/g01301/impl.errSyntax", "loop.example/g01301/impl.errNotFound"], fn := fun _ => fun
  | [d1, d2, g1, g2, g3, g4, g5, g6] => { results := [.lit (.bool true)], args := [d1, d2], vars := [g1, g2, g3, g4, g5, g6] }
  | _ => none }
def fnExactZoneOfRow : OpenClaim := { program := "ytaanboedhabheaadoor", sum := "e4b43cc626f4a68811196979bea232335e53219561d7e41be816cc1948581e52", func := "loop.example/g01301/laws.FnExactZoneOf", spec := "fnExactZoneOf", inPlace := ["internal/reflectlite.TypeOf"], unfollowed := true, recurses := true, named := ["loop.example/g01301/impl.errInvalid", "loop.example/g01301/impl.errRange", "loop.example/g01301/impl.errLimit", "loop.example/g01301/impl.errState", "loop.example/g01301/impl.errSyntax", "loop.example/g01301/impl.errNotFound"], ifaces := true, apart := false, laid := [("loop.example/g01301/impl.errInvalid", laid_loop_example_g01301_impl_errInvalid), ("loop.example/g01301/impl.errRange", laid_loop_example_g01301_impl_errRange), ("loop.example/g01301/impl.errLimit", laid_loop_example_g01301_impl_errLimit), ("loop.example/g01301/impl.errState", laid_loop_example_g01301_impl_errState), ("loop.example/g01301/impl.errSyntax", laid_loop_example_g01301_impl_errSyntax), ("loop.example/g01301/impl.errNotFound", laid_loop_example_g01301_impl_errNotFound)] }
def FnExactZoneOfSaid : Prop := fnExactZoneOfRow.holds Tryd.pinned (OpenSpec.ofChange fnExactZoneOfSpec)

/-- ITS FALSE NEIGHBOUR: 'it returns false'. Refute it at one input. -/
def fnExactZoneOfWrong : ChangeSpec := { name := "fnExactZoneOf", vars := ["loop.example/g01301/impl.errInvalid", "loop.example/g01301/impl.errRange", "loop.example/g01301/impl.errLimit", "loop.example/g01301/impl.errState", "loop.example/g01301/impl.errSyntax", "loop.example/g01301/impl.errNotFound"], fn := fun _ => fun
  | [d1, d2, g1, g2, g3, g4, g5, g6] => { results := [.lit (.bool false)], args := [d1, d2], vars := [g1, g2, g3, g4, g5, g6] }
  | _ => none }
def FnExactZoneOfWrongFalsely : Prop := fnExactZoneOfRow.holds Tryd.pinned (OpenSpec.ofChange fnExactZoneOfWrong)

/-- 'laws.FnExactZonesOf': WHATEVER THE INPUT: true; the input reads as it did. -/
def fnExactZonesOfSpec : ChangeSpec := { name := "fnExactZonesOf", vars := ["loop.example/g01301/impl.errInvalid", "loop.example/g01301/impl.errRange", "loop.example/g01301/impl.errLimit", "loop.example/g01301/impl.errState", "loop.example/g01301/impl.errSyntax", "loop.example/g01301/impl.errNotFound"], fn := fun _ => fun
  | [d1, d2, g1, g2, g3, g4, g5, g6] => { results := [.lit (.bool true)], args := [d1, d2], vars := [g1, g2, g3, g4, g5, g6] }
  | _ => none }
def fnExactZonesOfRow : OpenClaim := { program := "ytaanboedhabheaadoor", sum := "e4b43cc626f4a68811196979bea232335e53219561d7e41be816cc1948581e52", func := "loop.example/g01301/laws.FnExactZonesOf", spec := "fnExactZonesOf", inPlace := ["internal/reflectlite.TypeOf"], unfollowed := true, recurses := true, named := ["loop.example/g01301/impl.errInvalid", "loop.example/g01301/impl.errRange", "loop.example/g01301/impl.errLimit", "loop.example/g01301/impl.errState", "loop.example/g01301/impl.errSyntax", "loop.example/g01301/impl.errNotFound"], ifaces := true, apart := false, laid := [("loop.example/g01301/impl.errInvalid", laid_loop_example_g01301_impl_errInvalid), ("loop.example/g01301/impl.errRange", laid_loop_example_g01301_impl_errRange), ("loop.example/g01301/impl.errLimit", laid_loop_example_g01301_impl_errLimit), ("loop.example/g01301/impl.errState", laid_loop_example_g01301_impl_errState), ("loop.example/g01301/impl.errSyntax", laid_loop_example_g01301_impl_errSyntax), ("loop.example/g01301/impl.errNotFound", laid_loop_example_g01301_impl_errNotFound)] }
def FnExactZonesOfSaid : Prop := fnExactZonesOfRow.holds Tryd.pinned (OpenSpec.ofChange fnExactZonesOfSpec)

/-- ITS FALSE NEIGHBOUR: 'it returns false'. Refute it at one input. -/
def fnExactZonesOfWrong : ChangeSpec := { name := "fnExactZonesOf", vars := ["loop.example/g01301/impl.errInvalid", "loop.example/g01301/impl.errRange", "loop.example/g01301/impl.errLimit", "loop.example/g01301/impl.errState", "loop.example/g01301/impl.errSyntax", "loop.example/g01301/impl.errNotFound"], fn := fun _ => fun
  | [d1, d2, g1, g2, g3, g4, g5, g6] => { results := [.lit (.bool false)], args := [d1, d2], vars := [g1, g2, g3, g4, g5, g6] }
  | _ => none }
def FnExactZonesOfWrongFalsely : Prop := fnExactZonesOfRow.holds Tryd.pinned (OpenSpec.ofChange fnExactZonesOfWrong)

/-- 'laws.FnExactCountZones': WHATEVER THE INPUT: true; the input reads as it did. -/
def fnExactCountZonesSpec : ChangeSpec := { name := "fnExactCountZones", vars := ["loop.example/g01301/impl.errInvalid", "loop.example/g01301/impl.errRange", "loop.example/g01301/impl.errLimit", "loop.example/g01301/impl.errState", "loop.example/g01301/impl.errSyntax", "loop.example/g01301/impl.errNotFound"], fn := fun _ => fun
  | [d1, d2, g1, g2, g3, g4, g5, g6] => { results := [.lit (.bool true)], args := [d1, d2], vars := [g1, g2, g3, g4, g5, g6] }
  | _ => none }
def fnExactCountZonesRow : OpenClaim := { program := "ytaanboedhabheaadoor", sum := "e4b43cc626f4a68811196979bea232335e53219561d7e41be816cc1948581e52", func := "loop.example/g01301/laws.FnExactCountZones", spec := "fnExactCountZones", inPlace := ["internal/reflectlite.TypeOf"], unfollowed := true, recurses := true, named := ["loop.example/g01301/impl.errInvalid", "loop.example/g01301/impl.errRange", "loop.example/g01301/impl.errLimit", "loop.example/g01301/impl.errState", "loop.example/g01301/impl.errSyntax", "loop.example/g01301/impl.errNotFound"], ifaces := true, apart := false, laid := [("loop.example/g01301/impl.errInvalid", laid_loop_example_g01301_impl_errInvalid), ("loop.example/g01301/impl.errRange", laid_loop_example_g01301_impl_errRange), ("loop.example/g01301/impl.errLimit", laid_loop_example_g01301_impl_errLimit), ("loop.example/g01301/impl.errState", laid_loop_example_g01301_impl_errState), ("loop.example/g01301/impl.errSyntax", laid_loop_example_g01301_impl_errSyntax), ("loop.example/g01301/impl.errNotFound", laid_loop_example_g01301_impl_errNotFound)] }
def FnExactCountZonesSaid : Prop := fnExactCountZonesRow.holds Tryd.pinned (OpenSpec.ofChange fnExactCountZonesSpec)

/-- ITS FALSE NEIGHBOUR: 'it returns false'. Refute it at one input. -/
def fnExactCountZonesWrong : ChangeSpec := { name := "fnExactCountZones", vars := ["loop.example/g01301/impl.errInvalid", "loop.example/g01301/impl.errRange", "loop.example/g01301/impl.errLimit", "loop.example/g01301/impl.errState", "loop.example/g01301/impl.errSyntax", "loop.example/g01301/impl.errNotFound"], fn := fun _ => fun
  | [d1, d2, g1, g2, g3, g4, g5, g6] => { results := [.lit (.bool false)], args := [d1, d2], vars := [g1, g2, g3, g4, g5, g6] }
  | _ => none }
def FnExactCountZonesWrongFalsely : Prop := fnExactCountZonesRow.holds Tryd.pinned (OpenSpec.ofChange fnExactCountZonesWrong)

/-- 'laws.FnExactOffScale': WHATEVER THE INPUT: true; the input reads as it did. -/
def fnExactOffScaleSpec : ChangeSpec := { name := "fnExactOffScale", vars := ["loop.example/g01301/impl.errInvalid", "loop.example/g01301/impl.errRange", "loop.example/g01301/impl.errLimit", "loop.example/g01301/impl.errState", "loop.example/g01301/impl.errSyntax", "loop.example/g01301/impl.errNotFound"], fn := fun _ => fun
  | [d1, d2, g1, g2, g3, g4, g5, g6] => { results := [.lit (.bool true)], args := [d1, d2], vars := [g1, g2, g3, g4, g5, g6] }
  | _ => none }
def fnExactOffScaleRow : OpenClaim := { program := "ytaanboedhabheaadoor", sum := "e4b43cc626f4a68811196979bea232335e53219561d7e41be816cc1948581e52", func := "loop.example/g01301/laws.FnExactOffScale", spec := "fnExactOffScale", inPlace := ["internal/reflectlite.TypeOf"], unfollowed := true, recurses := true, named := ["loop.example/g01301/impl.errInvalid", "loop.example/g01301/impl.errRange", "loop.example/g01301/impl.errLimit", "loop.example/g01301/impl.errState", "loop.example/g01301/impl.errSyntax", "loop.example/g01301/impl.errNotFound"], ifaces := true, apart := false, laid := [("loop.example/g01301/impl.errInvalid", laid_loop_example_g01301_impl_errInvalid), ("loop.example/g01301/impl.errRange", laid_loop_example_g01301_impl_errRange), ("loop.example/g01301/impl.errLimit", laid_loop_example_g01301_impl_errLimit), ("loop.example/g01301/impl.errState", laid_loop_example_g01301_impl_errState), ("loop.example/g01301/impl.errSyntax", laid_loop_example_g01301_impl_errSyntax), ("loop.example/g01301/impl.errNotFound", laid_loop_example_g01301_impl_errNotFound)] }
def FnExactOffScaleSaid : Prop := fnExactOffScaleRow.holds Tryd.pinned (OpenSpec.ofChange fnExactOffScaleSpec)

/-- ITS FALSE NEIGHBOUR: 'it returns false'. Refute it at one input. -/
def fnExactOffScaleWrong : ChangeSpec := { name := "fnExactOffScale", vars := ["loop.example/g01301/impl.errInvalid", "loop.example/g01301/impl.errRange", "loop.example/g01301/impl.errLimit", "loop.example/g01301/impl.errState", "loop.example/g01301/impl.errSyntax", "loop.example/g01301/impl.errNotFound"], fn := fun _ => fun
  | [d1, d2, g1, g2, g3, g4, g5, g6] => { results := [.lit (.bool false)], args := [d1, d2], vars := [g1, g2, g3, g4, g5, g6] }
  | _ => none }
def FnExactOffScaleWrongFalsely : Prop := fnExactOffScaleRow.holds Tryd.pinned (OpenSpec.ofChange fnExactOffScaleWrong)

/-- 'laws.FnExactPlaceFor': WHATEVER THE INPUT: true; the input reads as it did. -/
def fnExactPlaceForSpec : ChangeSpec := { name := "fnExactPlaceFor", vars := ["loop.example/g01301/impl.errRange", "loop.example/g01301/impl.errInvalid", "loop.example/g01301/impl.errLimit", "loop.example/g01301/impl.errState", "loop.example/g01301/impl.errSyntax", "loop.example/g01301/impl.errNotFound"], fn := fun _ => fun
  | [d1, d2, g1, g2, g3, g4, g5, g6] => { results := [.lit (.bool true)], args := [d1, d2], vars := [g1, g2, g3, g4, g5, g6] }
  | _ => none }
def fnExactPlaceForRow : OpenClaim := { program := "ytaanboedhabheaadoor", sum := "e4b43cc626f4a68811196979bea232335e53219561d7e41be816cc1948581e52", func := "loop.example/g01301/laws.FnExactPlaceFor", spec := "fnExactPlaceFor", inPlace := ["internal/reflectlite.TypeOf"], unfollowed := true, recurses := true, named := ["loop.example/g01301/impl.errRange", "loop.example/g01301/impl.errInvalid", "loop.example/g01301/impl.errLimit", "loop.example/g01301/impl.errState", "loop.example/g01301/impl.errSyntax", "loop.example/g01301/impl.errNotFound"], ifaces := true, apart := false, laid := [("loop.example/g01301/impl.errInvalid", laid_loop_example_g01301_impl_errInvalid), ("loop.example/g01301/impl.errRange", laid_loop_example_g01301_impl_errRange), ("loop.example/g01301/impl.errLimit", laid_loop_example_g01301_impl_errLimit), ("loop.example/g01301/impl.errState", laid_loop_example_g01301_impl_errState), ("loop.example/g01301/impl.errSyntax", laid_loop_example_g01301_impl_errSyntax), ("loop.example/g01301/impl.errNotFound", laid_loop_example_g01301_impl_errNotFound)] }
def FnExactPlaceForSaid : Prop := fnExactPlaceForRow.holds Tryd.pinned (OpenSpec.ofChange fnExactPlaceForSpec)

/-- ITS FALSE NEIGHBOUR: 'it returns false'. Refute it at one input. -/
def fnExactPlaceForWrong : ChangeSpec := { name := "fnExactPlaceFor", vars := ["loop.example/g01301/impl.errRange", "loop.example/g01301/impl.errInvalid", "loop.example/g01301/impl.errLimit", "loop.example/g01301/impl.errState", "loop.example/g01301/impl.errSyntax", "loop.example/g01301/impl.errNotFound"], fn := fun _ => fun
  | [d1, d2, g1, g2, g3, g4, g5, g6] => { results := [.lit (.bool false)], args := [d1, d2], vars := [g1, g2, g3, g4, g5, g6] }
  | _ => none }
def FnExactPlaceForWrongFalsely : Prop := fnExactPlaceForRow.holds Tryd.pinned (OpenSpec.ofChange fnExactPlaceForWrong)

/-- 'laws.FnExactSamePlacing': WHATEVER THE INPUT: true; the input reads as it did. -/
def fnExactSamePlacingSpec : ChangeSpec := { name := "fnExactSamePlacing", vars := ["loop.example/g01301/impl.errInvalid", "loop.example/g01301/impl.errRange", "loop.example/g01301/impl.errNotFound", "loop.example/g01301/impl.errLimit", "loop.example/g01301/impl.errState", "loop.example/g01301/impl.errSyntax"], fn := fun _ => fun
  | [d1, d2, g1, g2, g3, g4, g5, g6] => { results := [.lit (.bool true)], args := [d1, d2], vars := [g1, g2, g3, g4, g5, g6] }
  | _ => none }
def fnExactSamePlacingRow : OpenClaim := { program := "ytaanboedhabheaadoor", sum := "e4b43cc626f4a68811196979bea232335e53219561d7e41be816cc1948581e52", func := "loop.example/g01301/laws.FnExactSamePlacing", spec := "fnExactSamePlacing", inPlace := ["internal/reflectlite.TypeOf"], unfollowed := true, recurses := true, named := ["loop.example/g01301/impl.errInvalid", "loop.example/g01301/impl.errRange", "loop.example/g01301/impl.errNotFound", "loop.example/g01301/impl.errLimit", "loop.example/g01301/impl.errState", "loop.example/g01301/impl.errSyntax"], ifaces := true, apart := false, laid := [("loop.example/g01301/impl.errInvalid", laid_loop_example_g01301_impl_errInvalid), ("loop.example/g01301/impl.errRange", laid_loop_example_g01301_impl_errRange), ("loop.example/g01301/impl.errLimit", laid_loop_example_g01301_impl_errLimit), ("loop.example/g01301/impl.errState", laid_loop_example_g01301_impl_errState), ("loop.example/g01301/impl.errSyntax", laid_loop_example_g01301_impl_errSyntax), ("loop.example/g01301/impl.errNotFound", laid_loop_example_g01301_impl_errNotFound)] }
def FnExactSamePlacingSaid : Prop := fnExactSamePlacingRow.holds Tryd.pinned (OpenSpec.ofChange fnExactSamePlacingSpec)

/-- ITS FALSE NEIGHBOUR: 'it returns false'. Refute it at one input. -/
def fnExactSamePlacingWrong : ChangeSpec := { name := "fnExactSamePlacing", vars := ["loop.example/g01301/impl.errInvalid", "loop.example/g01301/impl.errRange", "loop.example/g01301/impl.errNotFound", "loop.example/g01301/impl.errLimit", "loop.example/g01301/impl.errState", "loop.example/g01301/impl.errSyntax"], fn := fun _ => fun
  | [d1, d2, g1, g2, g3, g4, g5, g6] => { results := [.lit (.bool false)], args := [d1, d2], vars := [g1, g2, g3, g4, g5, g6] }
  | _ => none }
def FnExactSamePlacingWrongFalsely : Prop := fnExactSamePlacingRow.holds Tryd.pinned (OpenSpec.ofChange fnExactSamePlacingWrong)

/-- 'laws.FnExactSettingFor': WHATEVER THE INPUT: true; the input reads as it did. -/
def fnExactSettingForSpec : ChangeSpec := { name := "fnExactSettingFor", vars := ["loop.example/g01301/impl.errInvalid", "loop.example/g01301/impl.errRange", "loop.example/g01301/impl.errNotFound", "loop.example/g01301/impl.errLimit", "loop.example/g01301/impl.errState", "loop.example/g01301/impl.errSyntax"], fn := fun _ => fun
  | [d1, d2, d3, g1, g2, g3, g4, g5, g6] => { results := [.lit (.bool true)], args := [d1, d2, d3], vars := [g1, g2, g3, g4, g5, g6] }
  | _ => none }
def fnExactSettingForRow : OpenClaim := { program := "ytaanboedhabheaadoor", sum := "e4b43cc626f4a68811196979bea232335e53219561d7e41be816cc1948581e52", func := "loop.example/g01301/laws.FnExactSettingFor", spec := "fnExactSettingFor", inPlace := ["internal/reflectlite.TypeOf"], unfollowed := true, recurses := true, named := ["loop.example/g01301/impl.errInvalid", "loop.example/g01301/impl.errRange", "loop.example/g01301/impl.errNotFound", "loop.example/g01301/impl.errLimit", "loop.example/g01301/impl.errState", "loop.example/g01301/impl.errSyntax"], ifaces := true, apart := false, laid := [("loop.example/g01301/impl.errInvalid", laid_loop_example_g01301_impl_errInvalid), ("loop.example/g01301/impl.errRange", laid_loop_example_g01301_impl_errRange), ("loop.example/g01301/impl.errLimit", laid_loop_example_g01301_impl_errLimit), ("loop.example/g01301/impl.errState", laid_loop_example_g01301_impl_errState), ("loop.example/g01301/impl.errSyntax", laid_loop_example_g01301_impl_errSyntax), ("loop.example/g01301/impl.errNotFound", laid_loop_example_g01301_impl_errNotFound)] }
def FnExactSettingForSaid : Prop := fnExactSettingForRow.holds Tryd.pinned (OpenSpec.ofChange fnExactSettingForSpec)

/-- ITS FALSE NEIGHBOUR: 'it returns false'. Refute it at one input. -/
def fnExactSettingForWrong : ChangeSpec := { name := "fnExactSettingFor", vars := ["loop.example/g01301/impl.errInvalid", "loop.example/g01301/impl.errRange", "loop.example/g01301/impl.errNotFound", "loop.example/g01301/impl.errLimit", "loop.example/g01301/impl.errState", "loop.example/g01301/impl.errSyntax"], fn := fun _ => fun
  | [d1, d2, d3, g1, g2, g3, g4, g5, g6] => { results := [.lit (.bool false)], args := [d1, d2, d3], vars := [g1, g2, g3, g4, g5, g6] }
  | _ => none }
def FnExactSettingForWrongFalsely : Prop := fnExactSettingForRow.holds Tryd.pinned (OpenSpec.ofChange fnExactSettingForWrong)

/-- 'laws.FnExactDevelopBy': WHATEVER THE INPUT: true; the input reads as it did. -/
def fnExactDevelopBySpec : ChangeSpec := { name := "fnExactDevelopBy", vars := ["loop.example/g01301/impl.errState", "loop.example/g01301/impl.errInvalid", "loop.example/g01301/impl.errRange", "loop.example/g01301/impl.errLimit", "loop.example/g01301/impl.errSyntax", "loop.example/g01301/impl.errNotFound"], fn := fun _ => fun
  | [d1, d2, d3, g1, g2, g3, g4, g5, g6] => { results := [.lit (.bool true)], args := [d1, d2, d3], vars := [g1, g2, g3, g4, g5, g6] }
  | _ => none }
def fnExactDevelopByRow : OpenClaim := { program := "ytaanboedhabheaadoor", sum := "e4b43cc626f4a68811196979bea232335e53219561d7e41be816cc1948581e52", func := "loop.example/g01301/laws.FnExactDevelopBy", spec := "fnExactDevelopBy", inPlace := ["internal/reflectlite.TypeOf"], unfollowed := true, recurses := true, named := ["loop.example/g01301/impl.errState", "loop.example/g01301/impl.errInvalid", "loop.example/g01301/impl.errRange", "loop.example/g01301/impl.errLimit", "loop.example/g01301/impl.errSyntax", "loop.example/g01301/impl.errNotFound"], ifaces := true, apart := false, laid := [("loop.example/g01301/impl.errInvalid", laid_loop_example_g01301_impl_errInvalid), ("loop.example/g01301/impl.errRange", laid_loop_example_g01301_impl_errRange), ("loop.example/g01301/impl.errLimit", laid_loop_example_g01301_impl_errLimit), ("loop.example/g01301/impl.errState", laid_loop_example_g01301_impl_errState), ("loop.example/g01301/impl.errSyntax", laid_loop_example_g01301_impl_errSyntax), ("loop.example/g01301/impl.errNotFound", laid_loop_example_g01301_impl_errNotFound)] }
def FnExactDevelopBySaid : Prop := fnExactDevelopByRow.holds Tryd.pinned (OpenSpec.ofChange fnExactDevelopBySpec)

/-- ITS FALSE NEIGHBOUR: 'it returns false'. Refute it at one input. -/
def fnExactDevelopByWrong : ChangeSpec := { name := "fnExactDevelopBy", vars := ["loop.example/g01301/impl.errState", "loop.example/g01301/impl.errInvalid", "loop.example/g01301/impl.errRange", "loop.example/g01301/impl.errLimit", "loop.example/g01301/impl.errSyntax", "loop.example/g01301/impl.errNotFound"], fn := fun _ => fun
  | [d1, d2, d3, g1, g2, g3, g4, g5, g6] => { results := [.lit (.bool false)], args := [d1, d2, d3], vars := [g1, g2, g3, g4, g5, g6] }
  | _ => none }
def FnExactDevelopByWrongFalsely : Prop := fnExactDevelopByRow.holds Tryd.pinned (OpenSpec.ofChange fnExactDevelopByWrong)

/-- 'laws.FnExactBrighterField': WHATEVER THE INPUT: true; the input reads as it did. -/
def fnExactBrighterFieldSpec : ChangeSpec := { name := "fnExactBrighterField", vars := ["loop.example/g01301/impl.errInvalid", "loop.example/g01301/impl.errRange", "loop.example/g01301/impl.errState", "loop.example/g01301/impl.errLimit", "loop.example/g01301/impl.errSyntax", "loop.example/g01301/impl.errNotFound"], fn := fun _ => fun
  | [d1, d2, d3, g1, g2, g3, g4, g5, g6] => { results := [.lit (.bool true)], args := [d1, d2, d3], vars := [g1, g2, g3, g4, g5, g6] }
  | _ => none }
def fnExactBrighterFieldRow : OpenClaim := { program := "ytaanboedhabheaadoor", sum := "e4b43cc626f4a68811196979bea232335e53219561d7e41be816cc1948581e52", func := "loop.example/g01301/laws.FnExactBrighterField", spec := "fnExactBrighterField", inPlace := ["internal/reflectlite.TypeOf"], unfollowed := true, recurses := true, named := ["loop.example/g01301/impl.errInvalid", "loop.example/g01301/impl.errRange", "loop.example/g01301/impl.errState", "loop.example/g01301/impl.errLimit", "loop.example/g01301/impl.errSyntax", "loop.example/g01301/impl.errNotFound"], ifaces := true, apart := false, laid := [("loop.example/g01301/impl.errInvalid", laid_loop_example_g01301_impl_errInvalid), ("loop.example/g01301/impl.errRange", laid_loop_example_g01301_impl_errRange), ("loop.example/g01301/impl.errLimit", laid_loop_example_g01301_impl_errLimit), ("loop.example/g01301/impl.errState", laid_loop_example_g01301_impl_errState), ("loop.example/g01301/impl.errSyntax", laid_loop_example_g01301_impl_errSyntax), ("loop.example/g01301/impl.errNotFound", laid_loop_example_g01301_impl_errNotFound)] }
def FnExactBrighterFieldSaid : Prop := fnExactBrighterFieldRow.holds Tryd.pinned (OpenSpec.ofChange fnExactBrighterFieldSpec)

/-- ITS FALSE NEIGHBOUR: 'it returns false'. Refute it at one input. -/
def fnExactBrighterFieldWrong : ChangeSpec := { name := "fnExactBrighterField", vars := ["loop.example/g01301/impl.errInvalid", "loop.example/g01301/impl.errRange", "loop.example/g01301/impl.errState", "loop.example/g01301/impl.errLimit", "loop.example/g01301/impl.errSyntax", "loop.example/g01301/impl.errNotFound"], fn := fun _ => fun
  | [d1, d2, d3, g1, g2, g3, g4, g5, g6] => { results := [.lit (.bool false)], args := [d1, d2, d3], vars := [g1, g2, g3, g4, g5, g6] }
  | _ => none }
def FnExactBrighterFieldWrongFalsely : Prop := fnExactBrighterFieldRow.holds Tryd.pinned (OpenSpec.ofChange fnExactBrighterFieldWrong)

/- THE SECOND FORM. 'bulk': how many values and letters a reading holds, each counted each time it is reached (what is shared counts as often as it is met; a slice's spare places count too). A statement '..UptoSaid' is the law's where the arguments, and the package variables that the reading takes, are together of bulk at most 1048576: NARROWER than '..Said'. Prove '..Said' where nothing that the law and all that it calls make is longer than what came in: it says more and counts as full. Else prove '..UptoSaid'. A law counts once. -/
mutual
def uptoBulk {H : Type} : DataW H → Nat
  | .lit (.string bytes) => bytes.length + 1
  | .lit _ => 1
  | .nil => 1
  | .ptr d => uptoBulk d + 1
  | .slice elems spare => uptoBulkAll elems + uptoBulkAll spare + 1
  | .agg parts => uptoBulkAll parts + 1
  | .iface _ d => uptoBulk d + 1
  | .map entries => uptoBulkEntries entries + 1
  | .held _ => 1
def uptoBulkAll {H : Type} : List (DataW H) → Nat
  | [] => 0
  | d :: r => uptoBulk d + uptoBulkAll r
def uptoBulkEntries {H : Type} : List (Lit × DataW H) → Nat
  | [] => 0
  | x :: r => uptoBulkEntry x + uptoBulkEntries r
def uptoBulkEntry {H : Type} : Lit × DataW H → Nat
  | (.string bytes, d) => bytes.length + uptoBulk d + 1
  | (_, d) => uptoBulk d + 1
 end
def uptoSmall : (H : Type) → List (DataW H) → Bool := fun _ ds => decide (uptoBulkAll ds ≤ 1048576)
def OpenSpec.upto (s : _root_.Go.ChangeSpec) : _root_.Go.OpenSpec := { _root_.Go.OpenSpec.ofChange s with cond := some uptoSmall }

/-- 'laws.FnExactReadingAt', WHERE WHAT IT READS IS OF BULK AT MOST 1048576: true; the input reads as it did. -/
def fnExactReadingAtUptoRow : OpenClaim := { program := "ytaanboedhabheaadoor", sum := "e4b43cc626f4a68811196979bea232335e53219561d7e41be816cc1948581e52", func := "loop.example/g01301/laws.FnExactReadingAt", spec := "fnExactReadingAt", inPlace := ["internal/reflectlite.TypeOf"], unfollowed := true, recurses := true, named := ["loop.example/g01301/impl.errInvalid", "loop.example/g01301/impl.errRange", "loop.example/g01301/impl.errLimit", "loop.example/g01301/impl.errState", "loop.example/g01301/impl.errSyntax", "loop.example/g01301/impl.errNotFound"], ifaces := true, apart := false, laid := [("loop.example/g01301/impl.errInvalid", laid_loop_example_g01301_impl_errInvalid), ("loop.example/g01301/impl.errRange", laid_loop_example_g01301_impl_errRange), ("loop.example/g01301/impl.errLimit", laid_loop_example_g01301_impl_errLimit), ("loop.example/g01301/impl.errState", laid_loop_example_g01301_impl_errState), ("loop.example/g01301/impl.errSyntax", laid_loop_example_g01301_impl_errSyntax), ("loop.example/g01301/impl.errNotFound", laid_loop_example_g01301_impl_errNotFound)], narrowed := true }
def FnExactReadingAtUptoSaid : Prop := fnExactReadingAtUptoRow.holds Tryd.pinned (OpenSpec.upto fnExactReadingAtSpec)

/-- 'laws.FnExactMeanReading', WHERE WHAT IT READS IS OF BULK AT MOST 1048576: true; the input reads as it did. -/
def fnExactMeanReadingUptoRow : OpenClaim := { program := "ytaanboedhabheaadoor", sum := "e4b43cc626f4a68811196979bea232335e53219561d7e41be816cc1948581e52", func := "loop.example/g01301/laws.FnExactMeanReading", spec := "fnExactMeanReading", inPlace := ["internal/reflectlite.TypeOf"], unfollowed := true, recurses := true, named := ["loop.example/g01301/impl.errInvalid", "loop.example/g01301/impl.errRange", "loop.example/g01301/impl.errState", "loop.example/g01301/impl.errLimit", "loop.example/g01301/impl.errSyntax", "loop.example/g01301/impl.errNotFound"], ifaces := true, apart := false, laid := [("loop.example/g01301/impl.errInvalid", laid_loop_example_g01301_impl_errInvalid), ("loop.example/g01301/impl.errRange", laid_loop_example_g01301_impl_errRange), ("loop.example/g01301/impl.errLimit", laid_loop_example_g01301_impl_errLimit), ("loop.example/g01301/impl.errState", laid_loop_example_g01301_impl_errState), ("loop.example/g01301/impl.errSyntax", laid_loop_example_g01301_impl_errSyntax), ("loop.example/g01301/impl.errNotFound", laid_loop_example_g01301_impl_errNotFound)], narrowed := true }
def FnExactMeanReadingUptoSaid : Prop := fnExactMeanReadingUptoRow.holds Tryd.pinned (OpenSpec.upto fnExactMeanReadingSpec)

/-- 'laws.FnExactFieldMean', WHERE WHAT IT READS IS OF BULK AT MOST 1048576: true; the input reads as it did. -/
def fnExactFieldMeanUptoRow : OpenClaim := { program := "ytaanboedhabheaadoor", sum := "e4b43cc626f4a68811196979bea232335e53219561d7e41be816cc1948581e52", func := "loop.example/g01301/laws.FnExactFieldMean", spec := "fnExactFieldMean", inPlace := ["internal/reflectlite.TypeOf"], unfollowed := true, recurses := true, named := ["loop.example/g01301/impl.errInvalid", "loop.example/g01301/impl.errRange", "loop.example/g01301/impl.errState", "loop.example/g01301/impl.errLimit", "loop.example/g01301/impl.errSyntax", "loop.example/g01301/impl.errNotFound"], ifaces := true, apart := false, laid := [("loop.example/g01301/impl.errInvalid", laid_loop_example_g01301_impl_errInvalid), ("loop.example/g01301/impl.errRange", laid_loop_example_g01301_impl_errRange), ("loop.example/g01301/impl.errLimit", laid_loop_example_g01301_impl_errLimit), ("loop.example/g01301/impl.errState", laid_loop_example_g01301_impl_errState), ("loop.example/g01301/impl.errSyntax", laid_loop_example_g01301_impl_errSyntax), ("loop.example/g01301/impl.errNotFound", laid_loop_example_g01301_impl_errNotFound)], narrowed := true }
def FnExactFieldMeanUptoSaid : Prop := fnExactFieldMeanUptoRow.holds Tryd.pinned (OpenSpec.upto fnExactFieldMeanSpec)

/-- 'laws.FnExactZoneOf', WHERE WHAT IT READS IS OF BULK AT MOST 1048576: true; the input reads as it did. -/
def fnExactZoneOfUptoRow : OpenClaim := { program := "ytaanboedhabheaadoor", sum := "e4b43cc626f4a68811196979bea232335e53219561d7e41be816cc1948581e52", func := "loop.example/g01301/laws.FnExactZoneOf", spec := "fnExactZoneOf", inPlace := ["internal/reflectlite.TypeOf"], unfollowed := true, recurses := true, named := ["loop.example/g01301/impl.errInvalid", "loop.example/g01301/impl.errRange", "loop.example/g01301/impl.errLimit", "loop.example/g01301/impl.errState", "loop.example/g01301/impl.errSyntax", "loop.example/g01301/impl.errNotFound"], ifaces := true, apart := false, laid := [("loop.example/g01301/impl.errInvalid", laid_loop_example_g01301_impl_errInvalid), ("loop.example/g01301/impl.errRange", laid_loop_example_g01301_impl_errRange), ("loop.example/g01301/impl.errLimit", laid_loop_example_g01301_impl_errLimit), ("loop.example/g01301/impl.errState", laid_loop_example_g01301_impl_errState), ("loop.example/g01301/impl.errSyntax", laid_loop_example_g01301_impl_errSyntax), ("loop.example/g01301/impl.errNotFound", laid_loop_example_g01301_impl_errNotFound)], narrowed := true }
def FnExactZoneOfUptoSaid : Prop := fnExactZoneOfUptoRow.holds Tryd.pinned (OpenSpec.upto fnExactZoneOfSpec)

/-- 'laws.FnExactZonesOf', WHERE WHAT IT READS IS OF BULK AT MOST 1048576: true; the input reads as it did. -/
def fnExactZonesOfUptoRow : OpenClaim := { program := "ytaanboedhabheaadoor", sum := "e4b43cc626f4a68811196979bea232335e53219561d7e41be816cc1948581e52", func := "loop.example/g01301/laws.FnExactZonesOf", spec := "fnExactZonesOf", inPlace := ["internal/reflectlite.TypeOf"], unfollowed := true, recurses := true, named := ["loop.example/g01301/impl.errInvalid", "loop.example/g01301/impl.errRange", "loop.example/g01301/impl.errLimit", "loop.example/g01301/impl.errState", "loop.example/g01301/impl.errSyntax", "loop.example/g01301/impl.errNotFound"], ifaces := true, apart := false, laid := [("loop.example/g01301/impl.errInvalid", laid_loop_example_g01301_impl_errInvalid), ("loop.example/g01301/impl.errRange", laid_loop_example_g01301_impl_errRange), ("loop.example/g01301/impl.errLimit", laid_loop_example_g01301_impl_errLimit), ("loop.example/g01301/impl.errState", laid_loop_example_g01301_impl_errState), ("loop.example/g01301/impl.errSyntax", laid_loop_example_g01301_impl_errSyntax), ("loop.example/g01301/impl.errNotFound", laid_loop_example_g01301_impl_errNotFound)], narrowed := true }
def FnExactZonesOfUptoSaid : Prop := fnExactZonesOfUptoRow.holds Tryd.pinned (OpenSpec.upto fnExactZonesOfSpec)

/-- 'laws.FnExactCountZones', WHERE WHAT IT READS IS OF BULK AT MOST 1048576: true; the input reads as it did. -/
def fnExactCountZonesUptoRow : OpenClaim := { program := "ytaanboedhabheaadoor", sum := "e4b43cc626f4a68811196979bea232335e53219561d7e41be816cc1948581e52", func := "loop.example/g01301/laws.FnExactCountZones", spec := "fnExactCountZones", inPlace := ["internal/reflectlite.TypeOf"], unfollowed := true, recurses := true, named := ["loop.example/g01301/impl.errInvalid", "loop.example/g01301/impl.errRange", "loop.example/g01301/impl.errLimit", "loop.example/g01301/impl.errState", "loop.example/g01301/impl.errSyntax", "loop.example/g01301/impl.errNotFound"], ifaces := true, apart := false, laid := [("loop.example/g01301/impl.errInvalid", laid_loop_example_g01301_impl_errInvalid), ("loop.example/g01301/impl.errRange", laid_loop_example_g01301_impl_errRange), ("loop.example/g01301/impl.errLimit", laid_loop_example_g01301_impl_errLimit), ("loop.example/g01301/impl.errState", laid_loop_example_g01301_impl_errState), ("loop.example/g01301/impl.errSyntax", laid_loop_example_g01301_impl_errSyntax), ("loop.example/g01301/impl.errNotFound", laid_loop_example_g01301_impl_errNotFound)], narrowed := true }
def FnExactCountZonesUptoSaid : Prop := fnExactCountZonesUptoRow.holds Tryd.pinned (OpenSpec.upto fnExactCountZonesSpec)

/-- 'laws.FnExactOffScale', WHERE WHAT IT READS IS OF BULK AT MOST 1048576: true; the input reads as it did. -/
def fnExactOffScaleUptoRow : OpenClaim := { program := "ytaanboedhabheaadoor", sum := "e4b43cc626f4a68811196979bea232335e53219561d7e41be816cc1948581e52", func := "loop.example/g01301/laws.FnExactOffScale", spec := "fnExactOffScale", inPlace := ["internal/reflectlite.TypeOf"], unfollowed := true, recurses := true, named := ["loop.example/g01301/impl.errInvalid", "loop.example/g01301/impl.errRange", "loop.example/g01301/impl.errLimit", "loop.example/g01301/impl.errState", "loop.example/g01301/impl.errSyntax", "loop.example/g01301/impl.errNotFound"], ifaces := true, apart := false, laid := [("loop.example/g01301/impl.errInvalid", laid_loop_example_g01301_impl_errInvalid), ("loop.example/g01301/impl.errRange", laid_loop_example_g01301_impl_errRange), ("loop.example/g01301/impl.errLimit", laid_loop_example_g01301_impl_errLimit), ("loop.example/g01301/impl.errState", laid_loop_example_g01301_impl_errState), ("loop.example/g01301/impl.errSyntax", laid_loop_example_g01301_impl_errSyntax), ("loop.example/g01301/impl.errNotFound", laid_loop_example_g01301_impl_errNotFound)], narrowed := true }
def FnExactOffScaleUptoSaid : Prop := fnExactOffScaleUptoRow.holds Tryd.pinned (OpenSpec.upto fnExactOffScaleSpec)

/-- 'laws.FnExactPlaceFor', WHERE WHAT IT READS IS OF BULK AT MOST 1048576: true; the input reads as it did. -/
def fnExactPlaceForUptoRow : OpenClaim := { program := "ytaanboedhabheaadoor", sum := "e4b43cc626f4a68811196979bea232335e53219561d7e41be816cc1948581e52", func := "loop.example/g01301/laws.FnExactPlaceFor", spec := "fnExactPlaceFor", inPlace := ["internal/reflectlite.TypeOf"], unfollowed := true, recurses := true, named := ["loop.example/g01301/impl.errRange", "loop.example/g01301/impl.errInvalid", "loop.example/g01301/impl.errLimit", "loop.example/g01301/impl.errState", "loop.example/g01301/impl.errSyntax", "loop.example/g01301/impl.errNotFound"], ifaces := true, apart := false, laid := [("loop.example/g01301/impl.errInvalid", laid_loop_example_g01301_impl_errInvalid), ("loop.example/g01301/impl.errRange", laid_loop_example_g01301_impl_errRange), ("loop.example/g01301/impl.errLimit", laid_loop_example_g01301_impl_errLimit), ("loop.example/g01301/impl.errState", laid_loop_example_g01301_impl_errState), ("loop.example/g01301/impl.errSyntax", laid_loop_example_g01301_impl_errSyntax), ("loop.example/g01301/impl.errNotFound", laid_loop_example_g01301_impl_errNotFound)], narrowed := true }
def FnExactPlaceForUptoSaid : Prop := fnExactPlaceForUptoRow.holds Tryd.pinned (OpenSpec.upto fnExactPlaceForSpec)

/-- 'laws.FnExactSamePlacing', WHERE WHAT IT READS IS OF BULK AT MOST 1048576: true; the input reads as it did. -/
def fnExactSamePlacingUptoRow : OpenClaim := { program := "ytaanboedhabheaadoor", sum := "e4b43cc626f4a68811196979bea232335e53219561d7e41be816cc1948581e52", func := "loop.example/g01301/laws.FnExactSamePlacing", spec := "fnExactSamePlacing", inPlace := ["internal/reflectlite.TypeOf"], unfollowed := true, recurses := true, named := ["loop.example/g01301/impl.errInvalid", "loop.example/g01301/impl.errRange", "loop.example/g01301/impl.errNotFound", "loop.example/g01301/impl.errLimit", "loop.example/g01301/impl.errState", "loop.example/g01301/impl.errSyntax"], ifaces := true, apart := false, laid := [("loop.example/g01301/impl.errInvalid", laid_loop_example_g01301_impl_errInvalid), ("loop.example/g01301/impl.errRange", laid_loop_example_g01301_impl_errRange), ("loop.example/g01301/impl.errLimit", laid_loop_example_g01301_impl_errLimit), ("loop.example/g01301/impl.errState", laid_loop_example_g01301_impl_errState), ("loop.example/g01301/impl.errSyntax", laid_loop_example_g01301_impl_errSyntax), ("loop.example/g01301/impl.errNotFound", laid_loop_example_g01301_impl_errNotFound)], narrowed := true }
def FnExactSamePlacingUptoSaid : Prop := fnExactSamePlacingUptoRow.holds Tryd.pinned (OpenSpec.upto fnExactSamePlacingSpec)

/-- 'laws.FnExactSettingFor', WHERE WHAT IT READS IS OF BULK AT MOST 1048576: true; the input reads as it did. -/
def fnExactSettingForUptoRow : OpenClaim := { program := "ytaanboedhabheaadoor", sum := "e4b43cc626f4a68811196979bea232335e53219561d7e41be816cc1948581e52", func := "loop.example/g01301/laws.FnExactSettingFor", spec := "fnExactSettingFor", inPlace := ["internal/reflectlite.TypeOf"], unfollowed := true, recurses := true, named := ["loop.example/g01301/impl.errInvalid", "loop.example/g01301/impl.errRange", "loop.example/g01301/impl.errNotFound", "loop.example/g01301/impl.errLimit", "loop.example/g01301/impl.errState", "loop.example/g01301/impl.errSyntax"], ifaces := true, apart := false, laid := [("loop.example/g01301/impl.errInvalid", laid_loop_example_g01301_impl_errInvalid), ("loop.example/g01301/impl.errRange", laid_loop_example_g01301_impl_errRange), ("loop.example/g01301/impl.errLimit", laid_loop_example_g01301_impl_errLimit), ("loop.example/g01301/impl.errState", laid_loop_example_g01301_impl_errState), ("loop.example/g01301/impl.errSyntax", laid_loop_example_g01301_impl_errSyntax), ("loop.example/g01301/impl.errNotFound", laid_loop_example_g01301_impl_errNotFound)], narrowed := true }
def FnExactSettingForUptoSaid : Prop := fnExactSettingForUptoRow.holds Tryd.pinned (OpenSpec.upto fnExactSettingForSpec)

/-- 'laws.FnExactDevelopBy', WHERE WHAT IT READS IS OF BULK AT MOST 1048576: true; the input reads as it did. -/
def fnExactDevelopByUptoRow : OpenClaim := { program := "ytaanboedhabheaadoor", sum := "e4b43cc626f4a68811196979bea232335e53219561d7e41be816cc1948581e52", func := "loop.example/g01301/laws.FnExactDevelopBy", spec := "fnExactDevelopBy", inPlace := ["internal/reflectlite.TypeOf"], unfollowed := true, recurses := true, named := ["loop.example/g01301/impl.errState", "loop.example/g01301/impl.errInvalid", "loop.example/g01301/impl.errRange", "loop.example/g01301/impl.errLimit", "loop.example/g01301/impl.errSyntax", "loop.example/g01301/impl.errNotFound"], ifaces := true, apart := false, laid := [("loop.example/g01301/impl.errInvalid", laid_loop_example_g01301_impl_errInvalid), ("loop.example/g01301/impl.errRange", laid_loop_example_g01301_impl_errRange), ("loop.example/g01301/impl.errLimit", laid_loop_example_g01301_impl_errLimit), ("loop.example/g01301/impl.errState", laid_loop_example_g01301_impl_errState), ("loop.example/g01301/impl.errSyntax", laid_loop_example_g01301_impl_errSyntax), ("loop.example/g01301/impl.errNotFound", laid_loop_example_g01301_impl_errNotFound)], narrowed := true }
def FnExactDevelopByUptoSaid : Prop := fnExactDevelopByUptoRow.holds Tryd.pinned (OpenSpec.upto fnExactDevelopBySpec)

/-- 'laws.FnExactBrighterField', WHERE WHAT IT READS IS OF BULK AT MOST 1048576: true; the input reads as it did. -/
def fnExactBrighterFieldUptoRow : OpenClaim := { program := "ytaanboedhabheaadoor", sum := "e4b43cc626f4a68811196979bea232335e53219561d7e41be816cc1948581e52", func := "loop.example/g01301/laws.FnExactBrighterField", spec := "fnExactBrighterField", inPlace := ["internal/reflectlite.TypeOf"], unfollowed := true, recurses := true, named := ["loop.example/g01301/impl.errInvalid", "loop.example/g01301/impl.errRange", "loop.example/g01301/impl.errState", "loop.example/g01301/impl.errLimit", "loop.example/g01301/impl.errSyntax", "loop.example/g01301/impl.errNotFound"], ifaces := true, apart := false, laid := [("loop.example/g01301/impl.errInvalid", laid_loop_example_g01301_impl_errInvalid), ("loop.example/g01301/impl.errRange", laid_loop_example_g01301_impl_errRange), ("loop.example/g01301/impl.errLimit", laid_loop_example_g01301_impl_errLimit), ("loop.example/g01301/impl.errState", laid_loop_example_g01301_impl_errState), ("loop.example/g01301/impl.errSyntax", laid_loop_example_g01301_impl_errSyntax), ("loop.example/g01301/impl.errNotFound", laid_loop_example_g01301_impl_errNotFound)], narrowed := true }
def FnExactBrighterFieldUptoSaid : Prop := fnExactBrighterFieldUptoRow.holds Tryd.pinned (OpenSpec.upto fnExactBrighterFieldSpec)

end Rows
end Go.Proofs.YtaanboedhabheaaDoor
