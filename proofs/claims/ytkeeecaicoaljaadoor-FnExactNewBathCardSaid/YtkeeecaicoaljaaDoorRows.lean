/-
  NARROWER THAN 'FOR EVERY INPUT', by the rows' own cells (each row's printed sentence says how): FnExactNewBath: ifaces, laid · FnExactStrengthOf: ifaces, laid · FnExactSlowerBy: ifaces, laid · FnExactDevelopTime: ifaces, laid · FnExactDevelopSheet: ifaces, laid · FnExactRestBath: ifaces, laid · FnExactReplenish: ifaces, laid · FnExactReplenishFor: ifaces, laid · FnExactMixBaths: ifaces, laid · FnExactSheetsLeft: ifaces, laid.
  DERIVED. THE GIVEN ROWS OF THIS SEAT. 10 by the template 'for every input the law returns true; each argument reads behind the call as it read before'; 0 by the template 'total and deterministic' (their statements: YtkeeecaicoaljaaDoorTotals.lean).
  GIVEN WITH THE SEED: the statements are not yours to turn. If you find one false, say at which input.
  Laid BY PROGRAM, IN A SANDBOX (cutbox-rows.mjs): the forced cells as the released guide's own fill.sh prints them over the translation 08178e9acdbaea3d… (all of the seat's roots in one cut). By AI agents, Wed Nov 11 2026. No macro, syntax, notation, axiom, sorry.
-/
import Derived.Test.YtkeeecaicoaljaaDoorChecked
import GoSem.Claim
import GoSem.ClaimJoined
import GoSem.ClaimMapViews
import Derived.JoinedTies
import Derived.KernelRfl
namespace Go.Proofs.YtkeeecaicoaljaaDoor
/- THE CELL 'sum', in the pinned program and in every row, IS THE sha256 OF THE DUMP (.gsa) THAT YtkeeecaicoaljaaDoorProg.lean LOADS. Nothing in Lean hashes anything: it is a label: what it is worth is what the hold of that sum in a sandbox is worth. -/
noncomputable def Tryd.pinned : Pinned := { name := "ytkeeecaicoaljaadoor", sum := "08178e9acdbaea3d8eb773a405f0e6cfa10b887d88fa0a851ed0cf664fbf1ff5", checked := Tryd.checked }
namespace Rows
def none {H : Type} : Left H := { results := [], args := [] }

/- WHAT THE LISTED PACKAGE-LEVEL VARIABLES READ AS WHEN THE CALL BEGINS. Each datum BY PROGRAM (the guide's laid-datum.mjs) off the statement by which the dump's own 'gosem.cut.vars' lays the variable. In a bare row this is a premise. The card (YtkeeecaicoaljaaDoorCards.lean) ties it to the program's text. -/
def laid_loop_example_g01301_impl_errInvalid {H : Type} : DataW H := .iface "*errors.errorString" (.ptr (.agg [.lit (.string [105, 110, 118, 97, 108, 105, 100])]))
def laid_loop_example_g01301_impl_errRange {H : Type} : DataW H := .iface "*errors.errorString" (.ptr (.agg [.lit (.string [114, 97, 110, 103, 101])]))
def laid_loop_example_g01301_impl_errLimit {H : Type} : DataW H := .iface "*errors.errorString" (.ptr (.agg [.lit (.string [108, 105, 109, 105, 116])]))
def laid_loop_example_g01301_impl_errState {H : Type} : DataW H := .iface "*errors.errorString" (.ptr (.agg [.lit (.string [115, 116, 97, 116, 101])]))
def laid_loop_example_g01301_impl_errSyntax {H : Type} : DataW H := .iface "*errors.errorString" (.ptr (.agg [.lit (.string [115, 121, 110, 116, 97, 120])]))
def laid_loop_example_g01301_impl_errNotFound {H : Type} : DataW H := .iface "*errors.errorString" (.ptr (.agg [.lit (.string [110, 111, 116, 102, 111, 117, 110, 100])]))
def laid_loop_example_g01301_impl_stopTimes {H : Type} : DataW H := .agg [.lit (.int .i64 1000), .lit (.int .i64 1260), .lit (.int .i64 1587)]

/-- 'laws.FnExactNewBath': WHATEVER THE INPUT: true; the input reads as it did. -/
def fnExactNewBathSpec : ChangeSpec := { name := "fnExactNewBath", vars := ["loop.example/g01301/impl.errInvalid", "loop.example/g01301/impl.errRange", "loop.example/g01301/impl.errLimit", "loop.example/g01301/impl.errState", "loop.example/g01301/impl.errSyntax", "loop.example/g01301/impl.errNotFound"], fn := fun _ => fun
  | [d1, d2, g1, g2, g3, g4, g5, g6] => { results := [.lit (.bool true)], args := [d1, d2], vars := [g1, g2, g3, g4, g5, g6] }
  | _ => none }
def fnExactNewBathRow : OpenClaim := { program := "ytkeeecaicoaljaadoor", sum := "08178e9acdbaea3d8eb773a405f0e6cfa10b887d88fa0a851ed0cf664fbf1ff5", func := "loop.example/g01301/laws.FnExactNewBath", spec := "fnExactNewBath", inPlace := ["internal/reflectlite.TypeOf"], unfollowed := true, recurses := true, named := ["loop.example/g01301/impl.errInvalid", "loop.example/g01301/impl.errRange", "loop.example/g01301/impl.errLimit", "loop.example/g01301/impl.errState", "loop.example/g01301/impl.errSyntax", "loop.example/g01301/impl.errNotFound"], ifaces := true, apart := false, laid := [("loop.example/g01301/impl.errInvalid", laid_loop_example_g01301_impl_errInvalid), ("loop.example/g01301/impl.errRange", laid_loop_example_g01301_impl_errRange), ("loop.example/g01301/impl.errLimit", laid_loop_example_g01301_impl_errLimit), ("loop.example/g01301/impl.errState", laid_loop_example_g01301_impl_errState), ("loop.example/g01301/impl.errSyntax", laid_loop_example_g01301_impl_errSyntax), ("loop.example/g01301/impl.errNotFound", laid_loop_example_g01301_impl_errNotFound)] }
def FnExactNewBathSaid : Prop := fnExactNewBathRow.holds Tryd.pinned (OpenSpec.ofChange fnExactNewBathSpec)

/-- ITS FALSE NEIGHBOUR: 'it returns false'. Refute it at one input. -/
def fnExactNewBathWrong : ChangeSpec := { name := "fnExactNewBath", vars := ["loop.example/g01301/impl.errInvalid", "loop.example/g01301/impl.errRange", "loop.example/g01301/impl.errLimit", "loop.example/g01301/impl.errState", "loop.example/g01301/impl.errSyntax", "loop.example/g01301/impl.errNotFound"], fn := fun _ => fun
  | [d1, d2, g1, g2, g3, g4, g5, g6] => { results := [.lit (.bool false)], args := [d1, d2], vars := [g1, g2, g3, g4, g5, g6] }
  | _ => none }
def FnExactNewBathWrongFalsely : Prop := fnExactNewBathRow.holds Tryd.pinned (OpenSpec.ofChange fnExactNewBathWrong)

/-- 'laws.FnExactStrengthOf': WHATEVER THE INPUT: true; the input reads as it did. -/
def fnExactStrengthOfSpec : ChangeSpec := { name := "fnExactStrengthOf", vars := ["loop.example/g01301/impl.errInvalid", "loop.example/g01301/impl.errRange", "loop.example/g01301/impl.errLimit", "loop.example/g01301/impl.errState", "loop.example/g01301/impl.errSyntax", "loop.example/g01301/impl.errNotFound"], fn := fun _ => fun
  | [d1, d2, g1, g2, g3, g4, g5, g6] => { results := [.lit (.bool true)], args := [d1, d2], vars := [g1, g2, g3, g4, g5, g6] }
  | _ => none }
def fnExactStrengthOfRow : OpenClaim := { program := "ytkeeecaicoaljaadoor", sum := "08178e9acdbaea3d8eb773a405f0e6cfa10b887d88fa0a851ed0cf664fbf1ff5", func := "loop.example/g01301/laws.FnExactStrengthOf", spec := "fnExactStrengthOf", inPlace := ["internal/reflectlite.TypeOf"], unfollowed := true, recurses := true, named := ["loop.example/g01301/impl.errInvalid", "loop.example/g01301/impl.errRange", "loop.example/g01301/impl.errLimit", "loop.example/g01301/impl.errState", "loop.example/g01301/impl.errSyntax", "loop.example/g01301/impl.errNotFound"], ifaces := true, apart := false, laid := [("loop.example/g01301/impl.errInvalid", laid_loop_example_g01301_impl_errInvalid), ("loop.example/g01301/impl.errRange", laid_loop_example_g01301_impl_errRange), ("loop.example/g01301/impl.errLimit", laid_loop_example_g01301_impl_errLimit), ("loop.example/g01301/impl.errState", laid_loop_example_g01301_impl_errState), ("loop.example/g01301/impl.errSyntax", laid_loop_example_g01301_impl_errSyntax), ("loop.example/g01301/impl.errNotFound", laid_loop_example_g01301_impl_errNotFound)] }
def FnExactStrengthOfSaid : Prop := fnExactStrengthOfRow.holds Tryd.pinned (OpenSpec.ofChange fnExactStrengthOfSpec)

/-- ITS FALSE NEIGHBOUR: 'it returns false'. Refute it at one input. -/
def fnExactStrengthOfWrong : ChangeSpec := { name := "fnExactStrengthOf", vars := ["loop.example/g01301/impl.errInvalid", "loop.example/g01301/impl.errRange", "loop.example/g01301/impl.errLimit", "loop.example/g01301/impl.errState", "loop.example/g01301/impl.errSyntax", "loop.example/g01301/impl.errNotFound"], fn := fun _ => fun
  | [d1, d2, g1, g2, g3, g4, g5, g6] => { results := [.lit (.bool false)], args := [d1, d2], vars := [g1, g2, g3, g4, g5, g6] }
  | _ => none }
def FnExactStrengthOfWrongFalsely : Prop := fnExactStrengthOfRow.holds Tryd.pinned (OpenSpec.ofChange fnExactStrengthOfWrong)

/-- 'laws.FnExactSlowerBy': WHATEVER THE INPUT: true; the input reads as it did. -/
def fnExactSlowerBySpec : ChangeSpec := { name := "fnExactSlowerBy", vars := ["loop.example/g01301/impl.errRange", "loop.example/g01301/impl.errNotFound", "loop.example/g01301/impl.stopTimes", "loop.example/g01301/impl.errInvalid", "loop.example/g01301/impl.errLimit", "loop.example/g01301/impl.errState", "loop.example/g01301/impl.errSyntax"], fn := fun _ => fun
  | [d, g1, g2, g3, g4, g5, g6, g7] => { results := [.lit (.bool true)], args := [d], vars := [g1, g2, g3, g4, g5, g6, g7] }
  | _ => none }
def fnExactSlowerByRow : OpenClaim := { program := "ytkeeecaicoaljaadoor", sum := "08178e9acdbaea3d8eb773a405f0e6cfa10b887d88fa0a851ed0cf664fbf1ff5", func := "loop.example/g01301/laws.FnExactSlowerBy", spec := "fnExactSlowerBy", inPlace := ["internal/reflectlite.TypeOf"], unfollowed := true, recurses := true, named := ["loop.example/g01301/impl.errRange", "loop.example/g01301/impl.errNotFound", "loop.example/g01301/impl.stopTimes", "loop.example/g01301/impl.errInvalid", "loop.example/g01301/impl.errLimit", "loop.example/g01301/impl.errState", "loop.example/g01301/impl.errSyntax"], ifaces := true, apart := false, laid := [("loop.example/g01301/impl.errInvalid", laid_loop_example_g01301_impl_errInvalid), ("loop.example/g01301/impl.errRange", laid_loop_example_g01301_impl_errRange), ("loop.example/g01301/impl.errLimit", laid_loop_example_g01301_impl_errLimit), ("loop.example/g01301/impl.errState", laid_loop_example_g01301_impl_errState), ("loop.example/g01301/impl.errSyntax", laid_loop_example_g01301_impl_errSyntax), ("loop.example/g01301/impl.errNotFound", laid_loop_example_g01301_impl_errNotFound), ("loop.example/g01301/impl.stopTimes", laid_loop_example_g01301_impl_stopTimes)] }
def FnExactSlowerBySaid : Prop := fnExactSlowerByRow.holds Tryd.pinned (OpenSpec.ofChange fnExactSlowerBySpec)

/-- ITS FALSE NEIGHBOUR: 'it returns false'. Refute it at one input. -/
def fnExactSlowerByWrong : ChangeSpec := { name := "fnExactSlowerBy", vars := ["loop.example/g01301/impl.errRange", "loop.example/g01301/impl.errNotFound", "loop.example/g01301/impl.stopTimes", "loop.example/g01301/impl.errInvalid", "loop.example/g01301/impl.errLimit", "loop.example/g01301/impl.errState", "loop.example/g01301/impl.errSyntax"], fn := fun _ => fun
  | [d, g1, g2, g3, g4, g5, g6, g7] => { results := [.lit (.bool false)], args := [d], vars := [g1, g2, g3, g4, g5, g6, g7] }
  | _ => none }
def FnExactSlowerByWrongFalsely : Prop := fnExactSlowerByRow.holds Tryd.pinned (OpenSpec.ofChange fnExactSlowerByWrong)

/-- 'laws.FnExactDevelopTime': WHATEVER THE INPUT: true; the input reads as it did. -/
def fnExactDevelopTimeSpec : ChangeSpec := { name := "fnExactDevelopTime", vars := ["loop.example/g01301/impl.errRange", "loop.example/g01301/impl.errState", "loop.example/g01301/impl.errLimit", "loop.example/g01301/impl.errInvalid", "loop.example/g01301/impl.errNotFound", "loop.example/g01301/impl.stopTimes", "loop.example/g01301/impl.errSyntax"], fn := fun _ => fun
  | [d1, d2, d3, d4, g1, g2, g3, g4, g5, g6, g7] => { results := [.lit (.bool true)], args := [d1, d2, d3, d4], vars := [g1, g2, g3, g4, g5, g6, g7] }
  | _ => none }
def fnExactDevelopTimeRow : OpenClaim := { program := "ytkeeecaicoaljaadoor", sum := "08178e9acdbaea3d8eb773a405f0e6cfa10b887d88fa0a851ed0cf664fbf1ff5", func := "loop.example/g01301/laws.FnExactDevelopTime", spec := "fnExactDevelopTime", inPlace := ["internal/reflectlite.TypeOf"], unfollowed := true, recurses := true, named := ["loop.example/g01301/impl.errRange", "loop.example/g01301/impl.errState", "loop.example/g01301/impl.errLimit", "loop.example/g01301/impl.errInvalid", "loop.example/g01301/impl.errNotFound", "loop.example/g01301/impl.stopTimes", "loop.example/g01301/impl.errSyntax"], ifaces := true, apart := false, laid := [("loop.example/g01301/impl.errInvalid", laid_loop_example_g01301_impl_errInvalid), ("loop.example/g01301/impl.errRange", laid_loop_example_g01301_impl_errRange), ("loop.example/g01301/impl.errLimit", laid_loop_example_g01301_impl_errLimit), ("loop.example/g01301/impl.errState", laid_loop_example_g01301_impl_errState), ("loop.example/g01301/impl.errSyntax", laid_loop_example_g01301_impl_errSyntax), ("loop.example/g01301/impl.errNotFound", laid_loop_example_g01301_impl_errNotFound), ("loop.example/g01301/impl.stopTimes", laid_loop_example_g01301_impl_stopTimes)] }
def FnExactDevelopTimeSaid : Prop := fnExactDevelopTimeRow.holds Tryd.pinned (OpenSpec.ofChange fnExactDevelopTimeSpec)

/-- ITS FALSE NEIGHBOUR: 'it returns false'. Refute it at one input. -/
def fnExactDevelopTimeWrong : ChangeSpec := { name := "fnExactDevelopTime", vars := ["loop.example/g01301/impl.errRange", "loop.example/g01301/impl.errState", "loop.example/g01301/impl.errLimit", "loop.example/g01301/impl.errInvalid", "loop.example/g01301/impl.errNotFound", "loop.example/g01301/impl.stopTimes", "loop.example/g01301/impl.errSyntax"], fn := fun _ => fun
  | [d1, d2, d3, d4, g1, g2, g3, g4, g5, g6, g7] => { results := [.lit (.bool false)], args := [d1, d2, d3, d4], vars := [g1, g2, g3, g4, g5, g6, g7] }
  | _ => none }
def FnExactDevelopTimeWrongFalsely : Prop := fnExactDevelopTimeRow.holds Tryd.pinned (OpenSpec.ofChange fnExactDevelopTimeWrong)

/-- 'laws.FnExactDevelopSheet': WHATEVER THE INPUT: true; the input reads as it did. -/
def fnExactDevelopSheetSpec : ChangeSpec := { name := "fnExactDevelopSheet", vars := ["loop.example/g01301/impl.errInvalid", "loop.example/g01301/impl.errRange", "loop.example/g01301/impl.errState", "loop.example/g01301/impl.errNotFound", "loop.example/g01301/impl.stopTimes", "loop.example/g01301/impl.errLimit", "loop.example/g01301/impl.errSyntax"], fn := fun _ => fun
  | [d1, d2, d3, g1, g2, g3, g4, g5, g6, g7] => { results := [.lit (.bool true)], args := [d1, d2, d3], vars := [g1, g2, g3, g4, g5, g6, g7] }
  | _ => none }
def fnExactDevelopSheetRow : OpenClaim := { program := "ytkeeecaicoaljaadoor", sum := "08178e9acdbaea3d8eb773a405f0e6cfa10b887d88fa0a851ed0cf664fbf1ff5", func := "loop.example/g01301/laws.FnExactDevelopSheet", spec := "fnExactDevelopSheet", inPlace := ["internal/reflectlite.TypeOf"], unfollowed := true, recurses := true, named := ["loop.example/g01301/impl.errInvalid", "loop.example/g01301/impl.errRange", "loop.example/g01301/impl.errState", "loop.example/g01301/impl.errNotFound", "loop.example/g01301/impl.stopTimes", "loop.example/g01301/impl.errLimit", "loop.example/g01301/impl.errSyntax"], ifaces := true, apart := false, laid := [("loop.example/g01301/impl.errInvalid", laid_loop_example_g01301_impl_errInvalid), ("loop.example/g01301/impl.errRange", laid_loop_example_g01301_impl_errRange), ("loop.example/g01301/impl.errLimit", laid_loop_example_g01301_impl_errLimit), ("loop.example/g01301/impl.errState", laid_loop_example_g01301_impl_errState), ("loop.example/g01301/impl.errSyntax", laid_loop_example_g01301_impl_errSyntax), ("loop.example/g01301/impl.errNotFound", laid_loop_example_g01301_impl_errNotFound), ("loop.example/g01301/impl.stopTimes", laid_loop_example_g01301_impl_stopTimes)] }
def FnExactDevelopSheetSaid : Prop := fnExactDevelopSheetRow.holds Tryd.pinned (OpenSpec.ofChange fnExactDevelopSheetSpec)

/-- ITS FALSE NEIGHBOUR: 'it returns false'. Refute it at one input. -/
def fnExactDevelopSheetWrong : ChangeSpec := { name := "fnExactDevelopSheet", vars := ["loop.example/g01301/impl.errInvalid", "loop.example/g01301/impl.errRange", "loop.example/g01301/impl.errState", "loop.example/g01301/impl.errNotFound", "loop.example/g01301/impl.stopTimes", "loop.example/g01301/impl.errLimit", "loop.example/g01301/impl.errSyntax"], fn := fun _ => fun
  | [d1, d2, d3, g1, g2, g3, g4, g5, g6, g7] => { results := [.lit (.bool false)], args := [d1, d2, d3], vars := [g1, g2, g3, g4, g5, g6, g7] }
  | _ => none }
def FnExactDevelopSheetWrongFalsely : Prop := fnExactDevelopSheetRow.holds Tryd.pinned (OpenSpec.ofChange fnExactDevelopSheetWrong)

/-- 'laws.FnExactRestBath': WHATEVER THE INPUT: true; the input reads as it did. -/
def fnExactRestBathSpec : ChangeSpec := { name := "fnExactRestBath", vars := ["loop.example/g01301/impl.errInvalid", "loop.example/g01301/impl.errRange", "loop.example/g01301/impl.errState", "loop.example/g01301/impl.errNotFound", "loop.example/g01301/impl.stopTimes", "loop.example/g01301/impl.errLimit", "loop.example/g01301/impl.errSyntax"], fn := fun _ => fun
  | [d1, d2, d3, g1, g2, g3, g4, g5, g6, g7] => { results := [.lit (.bool true)], args := [d1, d2, d3], vars := [g1, g2, g3, g4, g5, g6, g7] }
  | _ => none }
def fnExactRestBathRow : OpenClaim := { program := "ytkeeecaicoaljaadoor", sum := "08178e9acdbaea3d8eb773a405f0e6cfa10b887d88fa0a851ed0cf664fbf1ff5", func := "loop.example/g01301/laws.FnExactRestBath", spec := "fnExactRestBath", inPlace := ["internal/reflectlite.TypeOf"], unfollowed := true, recurses := true, named := ["loop.example/g01301/impl.errInvalid", "loop.example/g01301/impl.errRange", "loop.example/g01301/impl.errState", "loop.example/g01301/impl.errNotFound", "loop.example/g01301/impl.stopTimes", "loop.example/g01301/impl.errLimit", "loop.example/g01301/impl.errSyntax"], ifaces := true, apart := false, laid := [("loop.example/g01301/impl.errInvalid", laid_loop_example_g01301_impl_errInvalid), ("loop.example/g01301/impl.errRange", laid_loop_example_g01301_impl_errRange), ("loop.example/g01301/impl.errLimit", laid_loop_example_g01301_impl_errLimit), ("loop.example/g01301/impl.errState", laid_loop_example_g01301_impl_errState), ("loop.example/g01301/impl.errSyntax", laid_loop_example_g01301_impl_errSyntax), ("loop.example/g01301/impl.errNotFound", laid_loop_example_g01301_impl_errNotFound), ("loop.example/g01301/impl.stopTimes", laid_loop_example_g01301_impl_stopTimes)] }
def FnExactRestBathSaid : Prop := fnExactRestBathRow.holds Tryd.pinned (OpenSpec.ofChange fnExactRestBathSpec)

/-- ITS FALSE NEIGHBOUR: 'it returns false'. Refute it at one input. -/
def fnExactRestBathWrong : ChangeSpec := { name := "fnExactRestBath", vars := ["loop.example/g01301/impl.errInvalid", "loop.example/g01301/impl.errRange", "loop.example/g01301/impl.errState", "loop.example/g01301/impl.errNotFound", "loop.example/g01301/impl.stopTimes", "loop.example/g01301/impl.errLimit", "loop.example/g01301/impl.errSyntax"], fn := fun _ => fun
  | [d1, d2, d3, g1, g2, g3, g4, g5, g6, g7] => { results := [.lit (.bool false)], args := [d1, d2, d3], vars := [g1, g2, g3, g4, g5, g6, g7] }
  | _ => none }
def FnExactRestBathWrongFalsely : Prop := fnExactRestBathRow.holds Tryd.pinned (OpenSpec.ofChange fnExactRestBathWrong)

/-- 'laws.FnExactReplenish': WHATEVER THE INPUT: true; the input reads as it did. -/
def fnExactReplenishSpec : ChangeSpec := { name := "fnExactReplenish", vars := ["loop.example/g01301/impl.errInvalid", "loop.example/g01301/impl.errRange", "loop.example/g01301/impl.errState", "loop.example/g01301/impl.errNotFound", "loop.example/g01301/impl.stopTimes", "loop.example/g01301/impl.errLimit", "loop.example/g01301/impl.errSyntax"], fn := fun _ => fun
  | [d1, d2, d3, g1, g2, g3, g4, g5, g6, g7] => { results := [.lit (.bool true)], args := [d1, d2, d3], vars := [g1, g2, g3, g4, g5, g6, g7] }
  | _ => none }
def fnExactReplenishRow : OpenClaim := { program := "ytkeeecaicoaljaadoor", sum := "08178e9acdbaea3d8eb773a405f0e6cfa10b887d88fa0a851ed0cf664fbf1ff5", func := "loop.example/g01301/laws.FnExactReplenish", spec := "fnExactReplenish", inPlace := ["internal/reflectlite.TypeOf"], unfollowed := true, recurses := true, named := ["loop.example/g01301/impl.errInvalid", "loop.example/g01301/impl.errRange", "loop.example/g01301/impl.errState", "loop.example/g01301/impl.errNotFound", "loop.example/g01301/impl.stopTimes", "loop.example/g01301/impl.errLimit", "loop.example/g01301/impl.errSyntax"], ifaces := true, apart := false, laid := [("loop.example/g01301/impl.errInvalid", laid_loop_example_g01301_impl_errInvalid), ("loop.example/g01301/impl.errRange", laid_loop_example_g01301_impl_errRange), ("loop.example/g01301/impl.errLimit", laid_loop_example_g01301_impl_errLimit), ("loop.example/g01301/impl.errState", laid_loop_example_g01301_impl_errState), ("loop.example/g01301/impl.errSyntax", laid_loop_example_g01301_impl_errSyntax), ("loop.example/g01301/impl.errNotFound", laid_loop_example_g01301_impl_errNotFound), ("loop.example/g01301/impl.stopTimes", laid_loop_example_g01301_impl_stopTimes)] }
def FnExactReplenishSaid : Prop := fnExactReplenishRow.holds Tryd.pinned (OpenSpec.ofChange fnExactReplenishSpec)

/-- ITS FALSE NEIGHBOUR: 'it returns false'. Refute it at one input. -/
def fnExactReplenishWrong : ChangeSpec := { name := "fnExactReplenish", vars := ["loop.example/g01301/impl.errInvalid", "loop.example/g01301/impl.errRange", "loop.example/g01301/impl.errState", "loop.example/g01301/impl.errNotFound", "loop.example/g01301/impl.stopTimes", "loop.example/g01301/impl.errLimit", "loop.example/g01301/impl.errSyntax"], fn := fun _ => fun
  | [d1, d2, d3, g1, g2, g3, g4, g5, g6, g7] => { results := [.lit (.bool false)], args := [d1, d2, d3], vars := [g1, g2, g3, g4, g5, g6, g7] }
  | _ => none }
def FnExactReplenishWrongFalsely : Prop := fnExactReplenishRow.holds Tryd.pinned (OpenSpec.ofChange fnExactReplenishWrong)

/-- 'laws.FnExactReplenishFor': WHATEVER THE INPUT: true; the input reads as it did. -/
def fnExactReplenishForSpec : ChangeSpec := { name := "fnExactReplenishFor", vars := ["loop.example/g01301/impl.errRange", "loop.example/g01301/impl.errInvalid", "loop.example/g01301/impl.errNotFound", "loop.example/g01301/impl.errLimit", "loop.example/g01301/impl.errState", "loop.example/g01301/impl.errSyntax"], fn := fun _ => fun
  | [d1, d2, d3, g1, g2, g3, g4, g5, g6] => { results := [.lit (.bool true)], args := [d1, d2, d3], vars := [g1, g2, g3, g4, g5, g6] }
  | _ => none }
def fnExactReplenishForRow : OpenClaim := { program := "ytkeeecaicoaljaadoor", sum := "08178e9acdbaea3d8eb773a405f0e6cfa10b887d88fa0a851ed0cf664fbf1ff5", func := "loop.example/g01301/laws.FnExactReplenishFor", spec := "fnExactReplenishFor", inPlace := ["internal/reflectlite.TypeOf"], unfollowed := true, recurses := true, named := ["loop.example/g01301/impl.errRange", "loop.example/g01301/impl.errInvalid", "loop.example/g01301/impl.errNotFound", "loop.example/g01301/impl.errLimit", "loop.example/g01301/impl.errState", "loop.example/g01301/impl.errSyntax"], ifaces := true, apart := false, laid := [("loop.example/g01301/impl.errInvalid", laid_loop_example_g01301_impl_errInvalid), ("loop.example/g01301/impl.errRange", laid_loop_example_g01301_impl_errRange), ("loop.example/g01301/impl.errLimit", laid_loop_example_g01301_impl_errLimit), ("loop.example/g01301/impl.errState", laid_loop_example_g01301_impl_errState), ("loop.example/g01301/impl.errSyntax", laid_loop_example_g01301_impl_errSyntax), ("loop.example/g01301/impl.errNotFound", laid_loop_example_g01301_impl_errNotFound)] }
def FnExactReplenishForSaid : Prop := fnExactReplenishForRow.holds Tryd.pinned (OpenSpec.ofChange fnExactReplenishForSpec)

/-- ITS FALSE NEIGHBOUR: 'it returns false'. Refute it at one input. -/
def fnExactReplenishForWrong : ChangeSpec := { name := "fnExactReplenishFor", vars := ["loop.example/g01301/impl.errRange", "loop.example/g01301/impl.errInvalid", "loop.example/g01301/impl.errNotFound", "loop.example/g01301/impl.errLimit", "loop.example/g01301/impl.errState", "loop.example/g01301/impl.errSyntax"], fn := fun _ => fun
  | [d1, d2, d3, g1, g2, g3, g4, g5, g6] => { results := [.lit (.bool false)], args := [d1, d2, d3], vars := [g1, g2, g3, g4, g5, g6] }
  | _ => none }
def FnExactReplenishForWrongFalsely : Prop := fnExactReplenishForRow.holds Tryd.pinned (OpenSpec.ofChange fnExactReplenishForWrong)

/-- 'laws.FnExactMixBaths': WHATEVER THE INPUT: true; the input reads as it did. -/
def fnExactMixBathsSpec : ChangeSpec := { name := "fnExactMixBaths", vars := ["loop.example/g01301/impl.errInvalid", "loop.example/g01301/impl.errLimit", "loop.example/g01301/impl.errRange", "loop.example/g01301/impl.errState", "loop.example/g01301/impl.errSyntax", "loop.example/g01301/impl.errNotFound"], fn := fun _ => fun
  | [d1, d2, d3, g1, g2, g3, g4, g5, g6] => { results := [.lit (.bool true)], args := [d1, d2, d3], vars := [g1, g2, g3, g4, g5, g6] }
  | _ => none }
def fnExactMixBathsRow : OpenClaim := { program := "ytkeeecaicoaljaadoor", sum := "08178e9acdbaea3d8eb773a405f0e6cfa10b887d88fa0a851ed0cf664fbf1ff5", func := "loop.example/g01301/laws.FnExactMixBaths", spec := "fnExactMixBaths", inPlace := ["internal/reflectlite.TypeOf"], unfollowed := true, recurses := true, named := ["loop.example/g01301/impl.errInvalid", "loop.example/g01301/impl.errLimit", "loop.example/g01301/impl.errRange", "loop.example/g01301/impl.errState", "loop.example/g01301/impl.errSyntax", "loop.example/g01301/impl.errNotFound"], ifaces := true, apart := false, laid := [("loop.example/g01301/impl.errInvalid", laid_loop_example_g01301_impl_errInvalid), ("loop.example/g01301/impl.errRange", laid_loop_example_g01301_impl_errRange), ("loop.example/g01301/impl.errLimit", laid_loop_example_g01301_impl_errLimit), ("loop.example/g01301/impl.errState", laid_loop_example_g01301_impl_errState), ("loop.example/g01301/impl.errSyntax", laid_loop_example_g01301_impl_errSyntax), ("loop.example/g01301/impl.errNotFound", laid_loop_example_g01301_impl_errNotFound)] }
def FnExactMixBathsSaid : Prop := fnExactMixBathsRow.holds Tryd.pinned (OpenSpec.ofChange fnExactMixBathsSpec)

/-- ITS FALSE NEIGHBOUR: 'it returns false'. Refute it at one input. -/
def fnExactMixBathsWrong : ChangeSpec := { name := "fnExactMixBaths", vars := ["loop.example/g01301/impl.errInvalid", "loop.example/g01301/impl.errLimit", "loop.example/g01301/impl.errRange", "loop.example/g01301/impl.errState", "loop.example/g01301/impl.errSyntax", "loop.example/g01301/impl.errNotFound"], fn := fun _ => fun
  | [d1, d2, d3, g1, g2, g3, g4, g5, g6] => { results := [.lit (.bool false)], args := [d1, d2, d3], vars := [g1, g2, g3, g4, g5, g6] }
  | _ => none }
def FnExactMixBathsWrongFalsely : Prop := fnExactMixBathsRow.holds Tryd.pinned (OpenSpec.ofChange fnExactMixBathsWrong)

/-- 'laws.FnExactSheetsLeft': WHATEVER THE INPUT: true; the input reads as it did. -/
def fnExactSheetsLeftSpec : ChangeSpec := { name := "fnExactSheetsLeft", vars := ["loop.example/g01301/impl.errLimit", "loop.example/g01301/impl.errRange", "loop.example/g01301/impl.errInvalid", "loop.example/g01301/impl.errNotFound", "loop.example/g01301/impl.stopTimes", "loop.example/g01301/impl.errState", "loop.example/g01301/impl.errSyntax"], fn := fun _ => fun
  | [d1, d2, d3, d4, g1, g2, g3, g4, g5, g6, g7] => { results := [.lit (.bool true)], args := [d1, d2, d3, d4], vars := [g1, g2, g3, g4, g5, g6, g7] }
  | _ => none }
def fnExactSheetsLeftRow : OpenClaim := { program := "ytkeeecaicoaljaadoor", sum := "08178e9acdbaea3d8eb773a405f0e6cfa10b887d88fa0a851ed0cf664fbf1ff5", func := "loop.example/g01301/laws.FnExactSheetsLeft", spec := "fnExactSheetsLeft", inPlace := ["internal/reflectlite.TypeOf"], unfollowed := true, recurses := true, named := ["loop.example/g01301/impl.errLimit", "loop.example/g01301/impl.errRange", "loop.example/g01301/impl.errInvalid", "loop.example/g01301/impl.errNotFound", "loop.example/g01301/impl.stopTimes", "loop.example/g01301/impl.errState", "loop.example/g01301/impl.errSyntax"], ifaces := true, apart := false, laid := [("loop.example/g01301/impl.errInvalid", laid_loop_example_g01301_impl_errInvalid), ("loop.example/g01301/impl.errRange", laid_loop_example_g01301_impl_errRange), ("loop.example/g01301/impl.errLimit", laid_loop_example_g01301_impl_errLimit), ("loop.example/g01301/impl.errState", laid_loop_example_g01301_impl_errState), ("loop.example/g01301/impl.errSyntax", laid_loop_example_g01301_impl_errSyntax), ("loop.example/g01301/impl.errNotFound", laid_loop_example_g01301_impl_errNotFound), ("loop.example/g01301/impl.stopTimes", laid_loop_example_g01301_impl_stopTimes)] }
def FnExactSheetsLeftSaid : Prop := fnExactSheetsLeftRow.holds Tryd.pinned (OpenSpec.ofChange fnExactSheetsLeftSpec)

/-- ITS FALSE NEIGHBOUR: 'it returns false'. Refute it at one input. -/
def fnExactSheetsLeftWrong : ChangeSpec := { name := "fnExactSheetsLeft", vars := ["loop.example/g01301/impl.errLimit", "loop.example/g01301/impl.errRange", "loop.example/g01301/impl.errInvalid", "loop.example/g01301/impl.errNotFound", "loop.example/g01301/impl.stopTimes", "loop.example/g01301/impl.errState", "loop.example/g01301/impl.errSyntax"], fn := fun _ => fun
  | [d1, d2, d3, d4, g1, g2, g3, g4, g5, g6, g7] => { results := [.lit (.bool false)], args := [d1, d2, d3, d4], vars := [g1, g2, g3, g4, g5, g6, g7] }
  | _ => none }
def FnExactSheetsLeftWrongFalsely : Prop := fnExactSheetsLeftRow.holds Tryd.pinned (OpenSpec.ofChange fnExactSheetsLeftWrong)

/- THE SECOND FORM. 'bulk': how many values and letters a reading holds, each counted each time it is reached (what is shared counts as often as it is met; a slice's spare places count too). A statement '..UptoSaid' is the law's where the arguments, and the package variables that the reading takes, are together of bulk at most 1048576: NARROWER than '..Said'. Prove '..Said' where nothing that the law and all that it calls make is longer than what came in: it says more and counts as full. Else prove '..UptoSaid'. A law counts once. -/
mutual
def uptoBulk {H : Type} : DataW H → Nat
  | .lit (.string bytes) => bytes.length + 1
  | .lit _ => 1
  | .nil => 1
  | .ptr d => uptoBulk d + 1
  | .slice elems spare => uptoBulkAll elems + uptoBulkAll spare + 1
  | .agg parts => uptoBulkAll parts + 1
  | .iface _ d => uptoBulk d + 1
  | .map entries => uptoBulkEntries entries + 1
  | .held _ => 1
def uptoBulkAll {H : Type} : List (DataW H) → Nat
  | [] => 0
  | d :: r => uptoBulk d + uptoBulkAll r
def uptoBulkEntries {H : Type} : List (Lit × DataW H) → Nat
  | [] => 0
  | x :: r => uptoBulkEntry x + uptoBulkEntries r
def uptoBulkEntry {H : Type} : Lit × DataW H → Nat
  | (.string bytes, d) => bytes.length + uptoBulk d + 1
  | (_, d) => uptoBulk d + 1
 end
def uptoSmall : (H : Type) → List (DataW H) → Bool := fun _ ds => decide (uptoBulkAll ds ≤ 1048576)
def OpenSpec.upto (s : _root_.Go.ChangeSpec) : _root_.Go.OpenSpec := { _root_.Go.OpenSpec.ofChange s with cond := some uptoSmall }

/-- 'laws.FnExactNewBath', WHERE WHAT IT READS IS OF BULK AT MOST 1048576: true; the input reads as it did. -/
def fnExactNewBathUptoRow : OpenClaim := { program := "ytkeeecaicoaljaadoor", sum := "08178e9acdbaea3d8eb773a405f0e6cfa10b887d88fa0a851ed0cf664fbf1ff5", func := "loop.example/g01301/laws.FnExactNewBath", spec := "fnExactNewBath", inPlace := ["internal/reflectlite.TypeOf"], unfollowed := true, recurses := true, named := ["loop.example/g01301/impl.errInvalid", "loop.example/g01301/impl.errRange", "loop.example/g01301/impl.errLimit", "loop.example/g01301/impl.errState", "loop.example/g01301/impl.errSyntax", "loop.example/g01301/impl.errNotFound"], ifaces := true, apart := false, laid := [("loop.example/g01301/impl.errInvalid", laid_loop_example_g01301_impl_errInvalid), ("loop.example/g01301/impl.errRange", laid_loop_example_g01301_impl_errRange), ("loop.example/g01301/impl.errLimit", laid_loop_example_g01301_impl_errLimit), ("loop.example/g01301/impl.errState", laid_loop_example_g01301_impl_errState), ("loop.example/g01301/impl.errSyntax", laid_loop_example_g01301_impl_errSyntax), ("loop.example/g01301/impl.errNotFound", laid_loop_example_g01301_impl_errNotFound)], narrowed := true }
def FnExactNewBathUptoSaid : Prop := fnExactNewBathUptoRow.holds Tryd.pinned (OpenSpec.upto fnExactNewBathSpec)

/-- 'laws.FnExactStrengthOf', WHERE WHAT IT READS IS OF BULK AT MOST 1048576: true; the input reads as it did. -/
def fnExactStrengthOfUptoRow : OpenClaim := { program := "ytkeeecaicoaljaadoor", sum := "08178e9acdbaea3d8eb773a405f0e6cfa10b887d88fa0a851ed0cf664fbf1ff5", func := "loop.example/g01301/laws.FnExactStrengthOf", spec := "fnExactStrengthOf", inPlace := ["internal/reflectlite.TypeOf"], unfollowed := true, recurses := true, named := ["loop.example/g01301/impl.errInvalid", "loop.example/g01301/impl.errRange", "loop.example/g01301/impl.errLimit", "loop.example/g01301/impl.errState", "loop.example/g01301/impl.errSyntax", "loop.example/g01301/impl.errNotFound"], ifaces := true, apart := false, laid := [("loop.example/g01301/impl.errInvalid", laid_loop_example_g01301_impl_errInvalid), ("loop.example/g01301/impl.errRange", laid_loop_example_g01301_impl_errRange), ("loop.example/g01301/impl.errLimit", laid_loop_example_g01301_impl_errLimit), ("loop.example/g01301/impl.errState", laid_loop_example_g01301_impl_errState), ("loop.example/g01301/impl.errSyntax", laid_loop_example_g01301_impl_errSyntax), ("loop.example/g01301/impl.errNotFound", laid_loop_example_g01301_impl_errNotFound)], narrowed := true }
def FnExactStrengthOfUptoSaid : Prop := fnExactStrengthOfUptoRow.holds Tryd.pinned (OpenSpec.upto fnExactStrengthOfSpec)

/-- 'laws.FnExactSlowerBy', WHERE WHAT IT READS IS OF BULK AT MOST 1048576: true; the input reads as it did. -/
def fnExactSlowerByUptoRow : OpenClaim := { program := "ytkeeecaicoaljaadoor", sum := "08178e9acdbaea3d8eb773a405f0e6cfa10b887d88fa0a851ed0cf664fbf1ff5", func := "loop.example/g01301/laws.FnExactSlowerBy", spec := "fnExactSlowerBy", inPlace := ["internal/reflectlite.TypeOf"], unfollowed := true, recurses := true, named := ["loop.example/g01301/impl.errRange", "loop.example/g01301/impl.errNotFound", "loop.example/g01301/impl.stopTimes", "loop.example/g01301/impl.errInvalid", "loop.example/g01301/impl.errLimit", "loop.example/g01301/impl.errState", "loop.example/g01301/impl.errSyntax"], ifaces := true, apart := false, laid := [("loop.example/g01301/impl.errInvalid", laid_loop_example_g01301_impl_errInvalid), ("loop.example/g01301/impl.errRange", laid_loop_example_g01301_impl_errRange), ("loop.example/g01301/impl.errLimit", laid_loop_example_g01301_impl_errLimit), ("loop.example/g01301/impl.errState", laid_loop_example_g01301_impl_errState), ("loop.example/g01301/impl.errSyntax", laid_loop_example_g01301_impl_errSyntax), ("loop.example/g01301/impl.errNotFound", laid_loop_example_g01301_impl_errNotFound), ("loop.example/g01301/impl.stopTimes", laid_loop_example_g01301_impl_stopTimes)], narrowed := true }
def FnExactSlowerByUptoSaid : Prop := fnExactSlowerByUptoRow.holds Tryd.pinned (OpenSpec.upto fnExactSlowerBySpec)

/-- 'laws.FnExactDevelopTime', WHERE WHAT IT READS IS OF BULK AT MOST 1048576: true; the input reads as it did. -/
def fnExactDevelopTimeUptoRow : OpenClaim := { program := "ytkeeecaicoaljaadoor", sum := "08178e9acdbaea3d8eb773a405f0e6cfa10b887d88fa0a851ed0cf664fbf1ff5", func := "loop.example/g01301/laws.FnExactDevelopTime", spec := "fnExactDevelopTime", inPlace := ["internal/reflectlite.TypeOf"], unfollowed := true, recurses := true, named := ["loop.example/g01301/impl.errRange", "loop.example/g01301/impl.errState", "loop.example/g01301/impl.errLimit", "loop.example/g01301/impl.errInvalid", "loop.example/g01301/impl.errNotFound", "loop.example/g01301/impl.stopTimes", "loop.example/g01301/impl.errSyntax"], ifaces := true, apart := false, laid := [("loop.example/g01301/impl.errInvalid", laid_loop_example_g01301_impl_errInvalid), ("loop.example/g01301/impl.errRange", laid_loop_example_g01301_impl_errRange), ("loop.example/g01301/impl.errLimit", laid_loop_example_g01301_impl_errLimit), ("loop.example/g01301/impl.errState", laid_loop_example_g01301_impl_errState), ("loop.example/g01301/impl.errSyntax", laid_loop_example_g01301_impl_errSyntax), ("loop.example/g01301/impl.errNotFound", laid_loop_example_g01301_impl_errNotFound), ("loop.example/g01301/impl.stopTimes", laid_loop_example_g01301_impl_stopTimes)], narrowed := true }
def FnExactDevelopTimeUptoSaid : Prop := fnExactDevelopTimeUptoRow.holds Tryd.pinned (OpenSpec.upto fnExactDevelopTimeSpec)

/-- 'laws.FnExactDevelopSheet', WHERE WHAT IT READS IS OF BULK AT MOST 1048576: true; the input reads as it did. -/
def fnExactDevelopSheetUptoRow : OpenClaim := { program := "ytkeeecaicoaljaadoor", sum := "08178e9acdbaea3d8eb773a405f0e6cfa10b887d88fa0a851ed0cf664fbf1ff5", func := "loop.example/g01301/laws.FnExactDevelopSheet", spec := "fnExactDevelopSheet", inPlace := ["internal/reflectlite.TypeOf"], unfollowed := true, recurses := true, named := ["loop.example/g01301/impl.errInvalid", "loop.example/g01301/impl.errRange", "loop.example/g01301/impl.errState", "loop.example/g01301/impl.errNotFound", "loop.example/g01301/impl.stopTimes", "loop.example/g01301/impl.errLimit", "loop.example/g01301/impl.errSyntax"], ifaces := true, apart := false, laid := [("loop.example/g01301/impl.errInvalid", laid_loop_example_g01301_impl_errInvalid), ("loop.example/g01301/impl.errRange", laid_loop_example_g01301_impl_errRange), ("loop.example/g01301/impl.errLimit", laid_loop_example_g01301_impl_errLimit), ("loop.example/g01301/impl.errState", laid_loop_example_g01301_impl_errState), ("loop.example/g01301/impl.errSyntax", laid_loop_example_g01301_impl_errSyntax), ("loop.example/g01301/impl.errNotFound", laid_loop_example_g01301_impl_errNotFound), ("loop.example/g01301/impl.stopTimes", laid_loop_example_g01301_impl_stopTimes)], narrowed := true }
def FnExactDevelopSheetUptoSaid : Prop := fnExactDevelopSheetUptoRow.holds Tryd.pinned (OpenSpec.upto fnExactDevelopSheetSpec)

/-- 'laws.FnExactRestBath', WHERE WHAT IT READS IS OF BULK AT MOST 1048576: true; the input reads as it did. -/
def fnExactRestBathUptoRow : OpenClaim := { program := "ytkeeecaicoaljaadoor", sum := "08178e9acdbaea3d8eb773a405f0e6cfa10b887d88fa0a851ed0cf664fbf1ff5", func := "loop.example/g01301/laws.FnExactRestBath", spec := "fnExactRestBath", inPlace := ["internal/reflectlite.TypeOf"], unfollowed := true, recurses := true, named := ["loop.example/g01301/impl.errInvalid", "loop.example/g01301/impl.errRange", "loop.example/g01301/impl.errState", "loop.example/g01301/impl.errNotFound", "loop.example/g01301/impl.stopTimes", "loop.example/g01301/impl.errLimit", "loop.example/g01301/impl.errSyntax"], ifaces := true, apart := false, laid := [("loop.example/g01301/impl.errInvalid", laid_loop_example_g01301_impl_errInvalid), ("loop.example/g01301/impl.errRange", laid_loop_example_g01301_impl_errRange), ("loop.example/g01301/impl.errLimit", laid_loop_example_g01301_impl_errLimit), ("loop.example/g01301/impl.errState", laid_loop_example_g01301_impl_errState), ("loop.example/g01301/impl.errSyntax", laid_loop_example_g01301_impl_errSyntax), ("loop.example/g01301/impl.errNotFound", laid_loop_example_g01301_impl_errNotFound), ("loop.example/g01301/impl.stopTimes", laid_loop_example_g01301_impl_stopTimes)], narrowed := true }
def FnExactRestBathUptoSaid : Prop := fnExactRestBathUptoRow.holds Tryd.pinned (OpenSpec.upto fnExactRestBathSpec)

/-- 'laws.FnExactReplenish', WHERE WHAT IT READS IS OF BULK AT MOST 1048576: true; the input reads as it did. -/
def fnExactReplenishUptoRow : OpenClaim := { program := "ytkeeecaicoaljaadoor", sum := "08178e9acdbaea3d8eb773a405f0e6cfa10b887d88fa0a851ed0cf664fbf1ff5", func := "loop.example/g01301/laws.FnExactReplenish", spec := "fnExactReplenish", inPlace := ["internal/reflectlite.TypeOf"], unfollowed := true, recurses := true, named := ["loop.example/g01301/impl.errInvalid", "loop.example/g01301/impl.errRange", "loop.example/g01301/impl.errState", "loop.example/g01301/impl.errNotFound", "loop.example/g01301/impl.stopTimes", "loop.example/g01301/impl.errLimit", "loop.example/g01301/impl.errSyntax"], ifaces := true, apart := false, laid := [("loop.example/g01301/impl.errInvalid", laid_loop_example_g01301_impl_errInvalid), ("loop.example/g01301/impl.errRange", laid_loop_example_g01301_impl_errRange), ("loop.example/g01301/impl.errLimit", laid_loop_example_g01301_impl_errLimit), ("loop.example/g01301/impl.errState", laid_loop_example_g01301_impl_errState), ("loop.example/g01301/impl.errSyntax", laid_loop_example_g01301_impl_errSyntax), ("loop.example/g01301/impl.errNotFound", laid_loop_example_g01301_impl_errNotFound), ("loop.example/g01301/impl.stopTimes", laid_loop_example_g01301_impl_stopTimes)], narrowed := true }
def FnExactReplenishUptoSaid : Prop := fnExactReplenishUptoRow.holds Tryd.pinned (OpenSpec.upto fnExactReplenishSpec)

/-- 'laws.FnExactReplenishFor', WHERE WHAT IT READS IS OF BULK AT MOST 1048576: true; the input reads as it did. -/
def fnExactReplenishForUptoRow : OpenClaim := { program := "ytkeeecaicoaljaadoor", sum := "08178e9acdbaea3d8eb773a405f0e6cfa10b887d88fa0a851ed0cf664fbf1ff5", func := "loop.example/g01301/laws.FnExactReplenishFor", spec := "fnExactReplenishFor", inPlace := ["internal/reflectlite.TypeOf"], unfollowed := true, recurses := true, named := ["loop.example/g01301/impl.errRange", "loop.example/g01301/impl.errInvalid", "loop.example/g01301/impl.errNotFound", "loop.example/g01301/impl.errLimit", "loop.example/g01301/impl.errState", "loop.example/g01301/impl.errSyntax"], ifaces := true, apart := false, laid := [("loop.example/g01301/impl.errInvalid", laid_loop_example_g01301_impl_errInvalid), ("loop.example/g01301/impl.errRange", laid_loop_example_g01301_impl_errRange), ("loop.example/g01301/impl.errLimit", laid_loop_example_g01301_impl_errLimit), ("loop.example/g01301/impl.errState", laid_loop_example_g01301_impl_errState), ("loop.example/g01301/impl.errSyntax", laid_loop_example_g01301_impl_errSyntax), ("loop.example/g01301/impl.errNotFound", laid_loop_example_g01301_impl_errNotFound)], narrowed := true }
def FnExactReplenishForUptoSaid : Prop := fnExactReplenishForUptoRow.holds Tryd.pinned (OpenSpec.upto fnExactReplenishForSpec)

/-- 'laws.FnExactMixBaths', WHERE WHAT IT READS IS OF BULK AT MOST 1048576: true; the input reads as it did. -/
def fnExactMixBathsUptoRow : OpenClaim := { program := "ytkeeecaicoaljaadoor", sum := "08178e9acdbaea3d8eb773a405f0e6cfa10b887d88fa0a851ed0cf664fbf1ff5", func := "loop.example/g01301/laws.FnExactMixBaths", spec := "fnExactMixBaths", inPlace := ["internal/reflectlite.TypeOf"], unfollowed := true, recurses := true, named := ["loop.example/g01301/impl.errInvalid", "loop.example/g01301/impl.errLimit", "loop.example/g01301/impl.errRange", "loop.example/g01301/impl.errState", "loop.example/g01301/impl.errSyntax", "loop.example/g01301/impl.errNotFound"], ifaces := true, apart := false, laid := [("loop.example/g01301/impl.errInvalid", laid_loop_example_g01301_impl_errInvalid), ("loop.example/g01301/impl.errRange", laid_loop_example_g01301_impl_errRange), ("loop.example/g01301/impl.errLimit", laid_loop_example_g01301_impl_errLimit), ("loop.example/g01301/impl.errState", laid_loop_example_g01301_impl_errState), ("loop.example/g01301/impl.errSyntax", laid_loop_example_g01301_impl_errSyntax), ("loop.example/g01301/impl.errNotFound", laid_loop_example_g01301_impl_errNotFound)], narrowed := true }
def FnExactMixBathsUptoSaid : Prop := fnExactMixBathsUptoRow.holds Tryd.pinned (OpenSpec.upto fnExactMixBathsSpec)

/-- 'laws.FnExactSheetsLeft', WHERE WHAT IT READS IS OF BULK AT MOST 1048576: true; the input reads as it did. -/
def fnExactSheetsLeftUptoRow : OpenClaim := { program := "ytkeeecaicoaljaadoor", sum := "08178e9acdbaea3d8eb773a405f0e6cfa10b887d88fa0a851ed0cf664fbf1ff5", func := "loop.example/g01301/laws.FnExactSheetsLeft", spec := "fnExactSheetsLeft", inPlace := ["internal/reflectlite.TypeOf"], unfollowed := true, recurses := true, named := ["loop.example/g01301/impl.errLimit", "loop.example/g01301/impl.errRange", "loop.example/g01301/impl.errInvalid", "loop.example/g01301/impl.errNotFound", "loop.example/g01301/impl.stopTimes", "loop.example/g01301/impl.errState", "loop.example/g01301/impl.errSyntax"], ifaces := true, apart := false, laid := [("loop.example/g01301/impl.errInvalid", laid_loop_example_g01301_impl_errInvalid), ("loop.example/g01301/impl.errRange", laid_loop_example_g01301_impl_errRange), ("loop.example/g01301/impl.errLimit", laid_loop_example_g01301_impl_errLimit), ("loop.example/g01301/impl.errState", laid_loop_example_g01301_impl_errState), ("loop.example/g01301/impl.errSyntax", laid_loop_example_g01301_impl_errSyntax), ("loop.example/g01301/impl.errNotFound", laid_loop_example_g01301_impl_errNotFound), ("loop.example/g01301/impl.stopTimes", laid_loop_example_g01301_impl_stopTimes)], narrowed := true }
def FnExactSheetsLeftUptoSaid : Prop := fnExactSheetsLeftUptoRow.holds Tryd.pinned (OpenSpec.upto fnExactSheetsLeftSpec)

end Rows
end Go.Proofs.YtkeeecaicoaljaaDoor
