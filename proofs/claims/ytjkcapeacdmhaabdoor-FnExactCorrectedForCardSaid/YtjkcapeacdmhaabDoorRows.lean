/-
  NARROWER THAN 'FOR EVERY INPUT', by the rows' own cells (each row's printed sentence says how): FnExactFactorThirds: ifaces, laid · FnExactWithFilters: ifaces, laid · FnExactExtraFor: ifaces, laid · FnExactCorrectedFor: ifaces, laid · FnExactMeteredFor: ifaces, laid · FnExactTimeOf: ifaces, laid · FnExactThirdsIn: ifaces, laid · FnExactNearestThirds: ifaces, laid · FnExactTimesOf: ifaces, laid · FnExactEnlargedBy: ifaces, laid · FnExactSettingText: laid.
  DERIVED. THE GIVEN ROWS OF THIS SEAT. 11 by the template 'for every input the law returns true; each argument reads behind the call as it read before'; 0 by the template 'total and deterministic' (their statements: YtjkcapeacdmhaabDoorTotals.lean).
  GIVEN WITH THE SEED: the statements are not yours to turn. If you find one false, say at which input.
  Laid BY PROGRAM, IN A SANDBOX (cutbox-rows.mjs): the forced cells as the released guide's own fill.sh prints them over the translation e9f7cd715ced6dea… (all of the seat's roots in one cut). By AI agents, Wed Nov 11 2026. No macro, syntax, notation, axiom, sorry.
-/
import Derived.Test.YtjkcapeacdmhaabDoorChecked
import GoSem.Claim
import GoSem.ClaimJoined
import GoSem.ClaimMapViews
import Derived.JoinedTies
import Derived.KernelRfl
namespace Go.Proofs.YtjkcapeacdmhaabDoor
/- THE CELL 'sum', in the pinned program and in every row, IS THE sha256 OF THE DUMP (.gsa) THAT YtjkcapeacdmhaabDoorProg.lean LOADS. Nothing in Lean hashes anything: it is a label: what it is worth is what the hold of that sum in a sandbox is worth. -/
noncomputable def Tryd.pinned : Pinned := { name := "ytjkcapeacdmhaabdoor", sum := "e9f7cd715ced6dea0fe8f0c18b5043a87d6701c25352c63acea655ca151a6b43", checked := Tryd.checked }
namespace Rows
def none {H : Type} : Left H := { results := [], args := [] }

/- WHAT THE LISTED PACKAGE-LEVEL VARIABLES READ AS WHEN THE CALL BEGINS. Each datum BY PROGRAM (the guide's laid-datum.mjs) off the statement by which the dump's own 'gosem.cut.vars' lays the variable. In a bare row this is a premise. The card (YtjkcapeacdmhaabDoorCards.lean) ties it to the program's text. -/
def laid_loop_example_g01301_impl_errInvalid {H : Type} : DataW H := .iface "*errors.errorString" (.ptr (.agg [.lit (.string [105, 110, 118, 97, 108, 105, 100])]))
def laid_loop_example_g01301_impl_errRange {H : Type} : DataW H := .iface "*errors.errorString" (.ptr (.agg [.lit (.string [114, 97, 110, 103, 101])]))
def laid_loop_example_g01301_impl_errLimit {H : Type} : DataW H := .iface "*errors.errorString" (.ptr (.agg [.lit (.string [108, 105, 109, 105, 116])]))
def laid_loop_example_g01301_impl_errSyntax {H : Type} : DataW H := .iface "*errors.errorString" (.ptr (.agg [.lit (.string [115, 121, 110, 116, 97, 120])]))
def laid_loop_example_g01301_impl_errNotFound {H : Type} : DataW H := .iface "*errors.errorString" (.ptr (.agg [.lit (.string [110, 111, 116, 102, 111, 117, 110, 100])]))
def laid_loop_example_g01301_impl_stopTimes {H : Type} : DataW H := .agg [.lit (.int .i64 1000), .lit (.int .i64 1260), .lit (.int .i64 1587)]
def laid_math_bits_deBruijn32tab {H : Type} : DataW H := .agg [.lit (.int .u8 0), .lit (.int .u8 1), .lit (.int .u8 28), .lit (.int .u8 2), .lit (.int .u8 29), .lit (.int .u8 14), .lit (.int .u8 24), .lit (.int .u8 3), .lit (.int .u8 30), .lit (.int .u8 22), .lit (.int .u8 20), .lit (.int .u8 15), .lit (.int .u8 25), .lit (.int .u8 17), .lit (.int .u8 4), .lit (.int .u8 8), .lit (.int .u8 31), .lit (.int .u8 27), .lit (.int .u8 13), .lit (.int .u8 23), .lit (.int .u8 21), .lit (.int .u8 19), .lit (.int .u8 16), .lit (.int .u8 7), .lit (.int .u8 26), .lit (.int .u8 12), .lit (.int .u8 18), .lit (.int .u8 6), .lit (.int .u8 11), .lit (.int .u8 5), .lit (.int .u8 10), .lit (.int .u8 9)]
def laid_math_bits_deBruijn64tab {H : Type} : DataW H := .agg [.lit (.int .u8 0), .lit (.int .u8 1), .lit (.int .u8 56), .lit (.int .u8 2), .lit (.int .u8 57), .lit (.int .u8 49), .lit (.int .u8 28), .lit (.int .u8 3), .lit (.int .u8 61), .lit (.int .u8 58), .lit (.int .u8 42), .lit (.int .u8 50), .lit (.int .u8 38), .lit (.int .u8 29), .lit (.int .u8 17), .lit (.int .u8 4), .lit (.int .u8 62), .lit (.int .u8 47), .lit (.int .u8 59), .lit (.int .u8 36), .lit (.int .u8 45), .lit (.int .u8 43), .lit (.int .u8 51), .lit (.int .u8 22), .lit (.int .u8 53), .lit (.int .u8 39), .lit (.int .u8 33), .lit (.int .u8 30), .lit (.int .u8 24), .lit (.int .u8 18), .lit (.int .u8 12), .lit (.int .u8 5), .lit (.int .u8 63), .lit (.int .u8 55), .lit (.int .u8 48), .lit (.int .u8 27), .lit (.int .u8 60), .lit (.int .u8 41), .lit (.int .u8 37), .lit (.int .u8 16), .lit (.int .u8 46), .lit (.int .u8 35), .lit (.int .u8 44), .lit (.int .u8 21), .lit (.int .u8 52), .lit (.int .u8 32), .lit (.int .u8 23), .lit (.int .u8 11), .lit (.int .u8 54), .lit (.int .u8 26), .lit (.int .u8 40), .lit (.int .u8 15), .lit (.int .u8 34), .lit (.int .u8 20), .lit (.int .u8 31), .lit (.int .u8 10), .lit (.int .u8 25), .lit (.int .u8 14), .lit (.int .u8 19), .lit (.int .u8 9), .lit (.int .u8 13), .lit (.int .u8 8), .lit (.int .u8 7), .lit (.int .u8 6)]
def laid_internal_strconv_uint64pow10 {H : Type} : DataW H := .agg [.lit (.int .u64 1), .lit (.int .u64 10), .lit (.int .u64 100), .lit (.int .u64 1000), .lit (.int .u64 10000), .lit (.int .u64 100000), .lit (.int .u64 1000000), .lit (.int .u64 10000000), .lit (.int .u64 100000000), .lit (.int .u64 1000000000), .lit (.int .u64 10000000000), .lit (.int .u64 100000000000), .lit (.int .u64 1000000000000), .lit (.int .u64 10000000000000), .lit (.int .u64 100000000000000), .lit (.int .u64 1000000000000000), .lit (.int .u64 10000000000000000), .lit (.int .u64 100000000000000000), .lit (.int .u64 1000000000000000000), .lit (.int .u64 10000000000000000000)]
def laid_loop_example_g01301_impl_shutterNames {H : Type} : DataW H := .agg [.lit (.string [49, 47, 49, 48, 48, 48]), .lit (.string [49, 47, 53, 48, 48]), .lit (.string [49, 47, 50, 53, 48]), .lit (.string [49, 47, 49, 50, 53]), .lit (.string [49, 47, 54, 48]), .lit (.string [49, 47, 51, 48]), .lit (.string [49, 47, 49, 53]), .lit (.string [49, 47, 56]), .lit (.string [49, 47, 52]), .lit (.string [49, 47, 50]), .lit (.string [49]), .lit (.string [50]), .lit (.string [52]), .lit (.string [56]), .lit (.string [49, 53]), .lit (.string [51, 48])]
def laid_loop_example_g01301_impl_apertureNames {H : Type} : DataW H := .agg [.lit (.string [102, 47, 49]), .lit (.string [102, 47, 49, 46, 52]), .lit (.string [102, 47, 50]), .lit (.string [102, 47, 50, 46, 56]), .lit (.string [102, 47, 52]), .lit (.string [102, 47, 53, 46, 54]), .lit (.string [102, 47, 56]), .lit (.string [102, 47, 49, 49]), .lit (.string [102, 47, 49, 54]), .lit (.string [102, 47, 50, 50]), .lit (.string [102, 47, 51, 50])]
def laid_loop_example_g01301_impl_thirdMarks {H : Type} : DataW H := .agg [.lit (.string []), .lit (.string [43, 49]), .lit (.string [43, 50])]

/-- 'laws.FnExactFactorThirds': WHATEVER THE INPUT: true; the input reads as it did. -/
def fnExactFactorThirdsSpec : ChangeSpec := { name := "fnExactFactorThirds", vars := ["loop.example/g01301/impl.errRange", "loop.example/g01301/impl.stopTimes", "loop.example/g01301/impl.errInvalid", "loop.example/g01301/impl.errLimit", "loop.example/g01301/impl.errSyntax", "loop.example/g01301/impl.errNotFound"], fn := fun _ => fun
  | [d, g1, g2, g3, g4, g5, g6] => { results := [.lit (.bool true)], args := [d], vars := [g1, g2, g3, g4, g5, g6] }
  | _ => none }
def fnExactFactorThirdsRow : OpenClaim := { program := "ytjkcapeacdmhaabdoor", sum := "e9f7cd715ced6dea0fe8f0c18b5043a87d6701c25352c63acea655ca151a6b43", func := "loop.example/g01301/laws.FnExactFactorThirds", spec := "fnExactFactorThirds", inPlace := ["internal/reflectlite.TypeOf"], unfollowed := true, recurses := true, named := ["loop.example/g01301/impl.errRange", "loop.example/g01301/impl.stopTimes", "loop.example/g01301/impl.errInvalid", "loop.example/g01301/impl.errLimit", "loop.example/g01301/impl.errSyntax", "loop.example/g01301/impl.errNotFound"], ifaces := true, apart := false, laid := [("loop.example/g01301/impl.errInvalid", laid_loop_example_g01301_impl_errInvalid), ("loop.example/g01301/impl.errRange", laid_loop_example_g01301_impl_errRange), ("loop.example/g01301/impl.errLimit", laid_loop_example_g01301_impl_errLimit), ("loop.example/g01301/impl.errSyntax", laid_loop_example_g01301_impl_errSyntax), ("loop.example/g01301/impl.errNotFound", laid_loop_example_g01301_impl_errNotFound), ("loop.example/g01301/impl.stopTimes", laid_loop_example_g01301_impl_stopTimes)] }
def FnExactFactorThirdsSaid : Prop := fnExactFactorThirdsRow.holds Tryd.pinned (OpenSpec.ofChange fnExactFactorThirdsSpec)

/-- ITS FALSE NEIGHBOUR: 'it returns false'. Refute it at one input. -/
def fnExactFactorThirdsWrong : ChangeSpec := { name := "fnExactFactorThirds", vars := ["loop.example/g01301/impl.errRange", "loop.example/g01301/impl.stopTimes", "loop.example/g01301/impl.errInvalid", "loop.example/g01301/impl.errLimit", "loop.example/g01301/impl.errSyntax", "loop.example/g01301/impl.errNotFound"], fn := fun _ => fun
  | [d, g1, g2, g3, g4, g5, g6] => { results := [.lit (.bool false)], args := [d], vars := [g1, g2, g3, g4, g5, g6] }
  | _ => none }
def FnExactFactorThirdsWrongFalsely : Prop := fnExactFactorThirdsRow.holds Tryd.pinned (OpenSpec.ofChange fnExactFactorThirdsWrong)

/-- 'laws.FnExactWithFilters': WHATEVER THE INPUT: true; the input reads as it did. -/
def fnExactWithFiltersSpec : ChangeSpec := { name := "fnExactWithFilters", vars := ["loop.example/g01301/impl.errInvalid", "loop.example/g01301/impl.errLimit", "loop.example/g01301/impl.errRange", "loop.example/g01301/impl.stopTimes", "loop.example/g01301/impl.errNotFound", "loop.example/g01301/impl.errSyntax"], fn := fun _ => fun
  | [d1, d2, g1, g2, g3, g4, g5, g6] => { results := [.lit (.bool true)], args := [d1, d2], vars := [g1, g2, g3, g4, g5, g6] }
  | _ => none }
def fnExactWithFiltersRow : OpenClaim := { program := "ytjkcapeacdmhaabdoor", sum := "e9f7cd715ced6dea0fe8f0c18b5043a87d6701c25352c63acea655ca151a6b43", func := "loop.example/g01301/laws.FnExactWithFilters", spec := "fnExactWithFilters", inPlace := ["internal/reflectlite.TypeOf"], unfollowed := true, recurses := true, named := ["loop.example/g01301/impl.errInvalid", "loop.example/g01301/impl.errLimit", "loop.example/g01301/impl.errRange", "loop.example/g01301/impl.stopTimes", "loop.example/g01301/impl.errNotFound", "loop.example/g01301/impl.errSyntax"], ifaces := true, apart := false, laid := [("loop.example/g01301/impl.errInvalid", laid_loop_example_g01301_impl_errInvalid), ("loop.example/g01301/impl.errRange", laid_loop_example_g01301_impl_errRange), ("loop.example/g01301/impl.errLimit", laid_loop_example_g01301_impl_errLimit), ("loop.example/g01301/impl.errSyntax", laid_loop_example_g01301_impl_errSyntax), ("loop.example/g01301/impl.errNotFound", laid_loop_example_g01301_impl_errNotFound), ("loop.example/g01301/impl.stopTimes", laid_loop_example_g01301_impl_stopTimes)] }
def FnExactWithFiltersSaid : Prop := fnExactWithFiltersRow.holds Tryd.pinned (OpenSpec.ofChange fnExactWithFiltersSpec)

/-- ITS FALSE NEIGHBOUR: 'it returns false'. Refute it at one input. -/
def fnExactWithFiltersWrong : ChangeSpec := { name := "fnExactWithFilters", vars := ["loop.example/g01301/impl.errInvalid", "loop.example/g01301/impl.errLimit", "loop.example/g01301/impl.errRange", "loop.example/g01301/impl.stopTimes", "loop.example/g01301/impl.errNotFound", "loop.example/g01301/impl.errSyntax"], fn := fun _ => fun
  | [d1, d2, g1, g2, g3, g4, g5, g6] => { results := [.lit (.bool false)], args := [d1, d2], vars := [g1, g2, g3, g4, g5, g6] }
  | _ => none }
def FnExactWithFiltersWrongFalsely : Prop := fnExactWithFiltersRow.holds Tryd.pinned (OpenSpec.ofChange fnExactWithFiltersWrong)

/-- 'laws.FnExactExtraFor': WHATEVER THE INPUT: true; the input reads as it did. -/
def fnExactExtraForSpec : ChangeSpec := { name := "fnExactExtraFor", vars := ["loop.example/g01301/impl.errInvalid", "loop.example/g01301/impl.errRange", "loop.example/g01301/impl.errLimit", "loop.example/g01301/impl.errSyntax", "loop.example/g01301/impl.errNotFound"], fn := fun _ => fun
  | [d1, d2, g1, g2, g3, g4, g5] => { results := [.lit (.bool true)], args := [d1, d2], vars := [g1, g2, g3, g4, g5] }
  | _ => none }
def fnExactExtraForRow : OpenClaim := { program := "ytjkcapeacdmhaabdoor", sum := "e9f7cd715ced6dea0fe8f0c18b5043a87d6701c25352c63acea655ca151a6b43", func := "loop.example/g01301/laws.FnExactExtraFor", spec := "fnExactExtraFor", inPlace := ["internal/reflectlite.TypeOf"], unfollowed := true, recurses := true, named := ["loop.example/g01301/impl.errInvalid", "loop.example/g01301/impl.errRange", "loop.example/g01301/impl.errLimit", "loop.example/g01301/impl.errSyntax", "loop.example/g01301/impl.errNotFound"], ifaces := true, apart := false, laid := [("loop.example/g01301/impl.errInvalid", laid_loop_example_g01301_impl_errInvalid), ("loop.example/g01301/impl.errRange", laid_loop_example_g01301_impl_errRange), ("loop.example/g01301/impl.errLimit", laid_loop_example_g01301_impl_errLimit), ("loop.example/g01301/impl.errSyntax", laid_loop_example_g01301_impl_errSyntax), ("loop.example/g01301/impl.errNotFound", laid_loop_example_g01301_impl_errNotFound)] }
def FnExactExtraForSaid : Prop := fnExactExtraForRow.holds Tryd.pinned (OpenSpec.ofChange fnExactExtraForSpec)

/-- ITS FALSE NEIGHBOUR: 'it returns false'. Refute it at one input. -/
def fnExactExtraForWrong : ChangeSpec := { name := "fnExactExtraFor", vars := ["loop.example/g01301/impl.errInvalid", "loop.example/g01301/impl.errRange", "loop.example/g01301/impl.errLimit", "loop.example/g01301/impl.errSyntax", "loop.example/g01301/impl.errNotFound"], fn := fun _ => fun
  | [d1, d2, g1, g2, g3, g4, g5] => { results := [.lit (.bool false)], args := [d1, d2], vars := [g1, g2, g3, g4, g5] }
  | _ => none }
def FnExactExtraForWrongFalsely : Prop := fnExactExtraForRow.holds Tryd.pinned (OpenSpec.ofChange fnExactExtraForWrong)

/-- 'laws.FnExactCorrectedFor': WHATEVER THE INPUT: true; the input reads as it did. -/
def fnExactCorrectedForSpec : ChangeSpec := { name := "fnExactCorrectedFor", vars := ["loop.example/g01301/impl.errInvalid", "loop.example/g01301/impl.errNotFound", "loop.example/g01301/impl.errRange", "loop.example/g01301/impl.errLimit", "loop.example/g01301/impl.errSyntax"], fn := fun _ => fun
  | [d1, d2, g1, g2, g3, g4, g5] => { results := [.lit (.bool true)], args := [d1, d2], vars := [g1, g2, g3, g4, g5] }
  | _ => none }
def fnExactCorrectedForRow : OpenClaim := { program := "ytjkcapeacdmhaabdoor", sum := "e9f7cd715ced6dea0fe8f0c18b5043a87d6701c25352c63acea655ca151a6b43", func := "loop.example/g01301/laws.FnExactCorrectedFor", spec := "fnExactCorrectedFor", inPlace := ["internal/reflectlite.TypeOf"], unfollowed := true, recurses := true, named := ["loop.example/g01301/impl.errInvalid", "loop.example/g01301/impl.errNotFound", "loop.example/g01301/impl.errRange", "loop.example/g01301/impl.errLimit", "loop.example/g01301/impl.errSyntax"], ifaces := true, apart := false, laid := [("loop.example/g01301/impl.errInvalid", laid_loop_example_g01301_impl_errInvalid), ("loop.example/g01301/impl.errRange", laid_loop_example_g01301_impl_errRange), ("loop.example/g01301/impl.errLimit", laid_loop_example_g01301_impl_errLimit), ("loop.example/g01301/impl.errSyntax", laid_loop_example_g01301_impl_errSyntax), ("loop.example/g01301/impl.errNotFound", laid_loop_example_g01301_impl_errNotFound)] }
def FnExactCorrectedForSaid : Prop := fnExactCorrectedForRow.holds Tryd.pinned (OpenSpec.ofChange fnExactCorrectedForSpec)

/-- ITS FALSE NEIGHBOUR: 'it returns false'. Refute it at one input. -/
def fnExactCorrectedForWrong : ChangeSpec := { name := "fnExactCorrectedFor", vars := ["loop.example/g01301/impl.errInvalid", "loop.example/g01301/impl.errNotFound", "loop.example/g01301/impl.errRange", "loop.example/g01301/impl.errLimit", "loop.example/g01301/impl.errSyntax"], fn := fun _ => fun
  | [d1, d2, g1, g2, g3, g4, g5] => { results := [.lit (.bool false)], args := [d1, d2], vars := [g1, g2, g3, g4, g5] }
  | _ => none }
def FnExactCorrectedForWrongFalsely : Prop := fnExactCorrectedForRow.holds Tryd.pinned (OpenSpec.ofChange fnExactCorrectedForWrong)

/-- 'laws.FnExactMeteredFor': WHATEVER THE INPUT: true; the input reads as it did. -/
def fnExactMeteredForSpec : ChangeSpec := { name := "fnExactMeteredFor", vars := ["loop.example/g01301/impl.errInvalid", "loop.example/g01301/impl.errRange", "loop.example/g01301/impl.errLimit", "loop.example/g01301/impl.errSyntax", "loop.example/g01301/impl.errNotFound"], fn := fun _ => fun
  | [d1, d2, g1, g2, g3, g4, g5] => { results := [.lit (.bool true)], args := [d1, d2], vars := [g1, g2, g3, g4, g5] }
  | _ => none }
def fnExactMeteredForRow : OpenClaim := { program := "ytjkcapeacdmhaabdoor", sum := "e9f7cd715ced6dea0fe8f0c18b5043a87d6701c25352c63acea655ca151a6b43", func := "loop.example/g01301/laws.FnExactMeteredFor", spec := "fnExactMeteredFor", inPlace := ["internal/reflectlite.TypeOf"], unfollowed := true, recurses := true, named := ["loop.example/g01301/impl.errInvalid", "loop.example/g01301/impl.errRange", "loop.example/g01301/impl.errLimit", "loop.example/g01301/impl.errSyntax", "loop.example/g01301/impl.errNotFound"], ifaces := true, apart := false, laid := [("loop.example/g01301/impl.errInvalid", laid_loop_example_g01301_impl_errInvalid), ("loop.example/g01301/impl.errRange", laid_loop_example_g01301_impl_errRange), ("loop.example/g01301/impl.errLimit", laid_loop_example_g01301_impl_errLimit), ("loop.example/g01301/impl.errSyntax", laid_loop_example_g01301_impl_errSyntax), ("loop.example/g01301/impl.errNotFound", laid_loop_example_g01301_impl_errNotFound)] }
def FnExactMeteredForSaid : Prop := fnExactMeteredForRow.holds Tryd.pinned (OpenSpec.ofChange fnExactMeteredForSpec)

/-- ITS FALSE NEIGHBOUR: 'it returns false'. Refute it at one input. -/
def fnExactMeteredForWrong : ChangeSpec := { name := "fnExactMeteredFor", vars := ["loop.example/g01301/impl.errInvalid", "loop.example/g01301/impl.errRange", "loop.example/g01301/impl.errLimit", "loop.example/g01301/impl.errSyntax", "loop.example/g01301/impl.errNotFound"], fn := fun _ => fun
  | [d1, d2, g1, g2, g3, g4, g5] => { results := [.lit (.bool false)], args := [d1, d2], vars := [g1, g2, g3, g4, g5] }
  | _ => none }
def FnExactMeteredForWrongFalsely : Prop := fnExactMeteredForRow.holds Tryd.pinned (OpenSpec.ofChange fnExactMeteredForWrong)

/-- 'laws.FnExactTimeOf': WHATEVER THE INPUT: true; the input reads as it did. -/
def fnExactTimeOfSpec : ChangeSpec := { name := "fnExactTimeOf", vars := ["loop.example/g01301/impl.errRange", "loop.example/g01301/impl.stopTimes", "loop.example/g01301/impl.errInvalid", "loop.example/g01301/impl.errLimit", "loop.example/g01301/impl.errSyntax", "loop.example/g01301/impl.errNotFound"], fn := fun _ => fun
  | [d, g1, g2, g3, g4, g5, g6] => { results := [.lit (.bool true)], args := [d], vars := [g1, g2, g3, g4, g5, g6] }
  | _ => none }
def fnExactTimeOfRow : OpenClaim := { program := "ytjkcapeacdmhaabdoor", sum := "e9f7cd715ced6dea0fe8f0c18b5043a87d6701c25352c63acea655ca151a6b43", func := "loop.example/g01301/laws.FnExactTimeOf", spec := "fnExactTimeOf", inPlace := ["internal/reflectlite.TypeOf"], unfollowed := true, recurses := true, named := ["loop.example/g01301/impl.errRange", "loop.example/g01301/impl.stopTimes", "loop.example/g01301/impl.errInvalid", "loop.example/g01301/impl.errLimit", "loop.example/g01301/impl.errSyntax", "loop.example/g01301/impl.errNotFound"], ifaces := true, apart := false, laid := [("loop.example/g01301/impl.errInvalid", laid_loop_example_g01301_impl_errInvalid), ("loop.example/g01301/impl.errRange", laid_loop_example_g01301_impl_errRange), ("loop.example/g01301/impl.errLimit", laid_loop_example_g01301_impl_errLimit), ("loop.example/g01301/impl.errSyntax", laid_loop_example_g01301_impl_errSyntax), ("loop.example/g01301/impl.errNotFound", laid_loop_example_g01301_impl_errNotFound), ("loop.example/g01301/impl.stopTimes", laid_loop_example_g01301_impl_stopTimes)] }
def FnExactTimeOfSaid : Prop := fnExactTimeOfRow.holds Tryd.pinned (OpenSpec.ofChange fnExactTimeOfSpec)

/-- ITS FALSE NEIGHBOUR: 'it returns false'. Refute it at one input. -/
def fnExactTimeOfWrong : ChangeSpec := { name := "fnExactTimeOf", vars := ["loop.example/g01301/impl.errRange", "loop.example/g01301/impl.stopTimes", "loop.example/g01301/impl.errInvalid", "loop.example/g01301/impl.errLimit", "loop.example/g01301/impl.errSyntax", "loop.example/g01301/impl.errNotFound"], fn := fun _ => fun
  | [d, g1, g2, g3, g4, g5, g6] => { results := [.lit (.bool false)], args := [d], vars := [g1, g2, g3, g4, g5, g6] }
  | _ => none }
def FnExactTimeOfWrongFalsely : Prop := fnExactTimeOfRow.holds Tryd.pinned (OpenSpec.ofChange fnExactTimeOfWrong)

/-- 'laws.FnExactThirdsIn': WHATEVER THE INPUT: true; the input reads as it did. -/
def fnExactThirdsInSpec : ChangeSpec := { name := "fnExactThirdsIn", vars := ["loop.example/g01301/impl.errRange", "loop.example/g01301/impl.errNotFound", "loop.example/g01301/impl.stopTimes", "loop.example/g01301/impl.errInvalid", "loop.example/g01301/impl.errLimit", "loop.example/g01301/impl.errSyntax"], fn := fun _ => fun
  | [d, g1, g2, g3, g4, g5, g6] => { results := [.lit (.bool true)], args := [d], vars := [g1, g2, g3, g4, g5, g6] }
  | _ => none }
def fnExactThirdsInRow : OpenClaim := { program := "ytjkcapeacdmhaabdoor", sum := "e9f7cd715ced6dea0fe8f0c18b5043a87d6701c25352c63acea655ca151a6b43", func := "loop.example/g01301/laws.FnExactThirdsIn", spec := "fnExactThirdsIn", inPlace := ["internal/reflectlite.TypeOf"], unfollowed := true, recurses := true, named := ["loop.example/g01301/impl.errRange", "loop.example/g01301/impl.errNotFound", "loop.example/g01301/impl.stopTimes", "loop.example/g01301/impl.errInvalid", "loop.example/g01301/impl.errLimit", "loop.example/g01301/impl.errSyntax"], ifaces := true, apart := false, laid := [("loop.example/g01301/impl.errInvalid", laid_loop_example_g01301_impl_errInvalid), ("loop.example/g01301/impl.errRange", laid_loop_example_g01301_impl_errRange), ("loop.example/g01301/impl.errLimit", laid_loop_example_g01301_impl_errLimit), ("loop.example/g01301/impl.errSyntax", laid_loop_example_g01301_impl_errSyntax), ("loop.example/g01301/impl.errNotFound", laid_loop_example_g01301_impl_errNotFound), ("loop.example/g01301/impl.stopTimes", laid_loop_example_g01301_impl_stopTimes)] }
def FnExactThirdsInSaid : Prop := fnExactThirdsInRow.holds Tryd.pinned (OpenSpec.ofChange fnExactThirdsInSpec)

/-- ITS FALSE NEIGHBOUR: 'it returns false'. Refute it at one input. -/
def fnExactThirdsInWrong : ChangeSpec := { name := "fnExactThirdsIn", vars := ["loop.example/g01301/impl.errRange", "loop.example/g01301/impl.errNotFound", "loop.example/g01301/impl.stopTimes", "loop.example/g01301/impl.errInvalid", "loop.example/g01301/impl.errLimit", "loop.example/g01301/impl.errSyntax"], fn := fun _ => fun
  | [d, g1, g2, g3, g4, g5, g6] => { results := [.lit (.bool false)], args := [d], vars := [g1, g2, g3, g4, g5, g6] }
  | _ => none }
def FnExactThirdsInWrongFalsely : Prop := fnExactThirdsInRow.holds Tryd.pinned (OpenSpec.ofChange fnExactThirdsInWrong)

/-- 'laws.FnExactNearestThirds': WHATEVER THE INPUT: true; the input reads as it did. -/
def fnExactNearestThirdsSpec : ChangeSpec := { name := "fnExactNearestThirds", vars := ["loop.example/g01301/impl.errRange", "loop.example/g01301/impl.stopTimes", "loop.example/g01301/impl.errInvalid", "loop.example/g01301/impl.errLimit", "loop.example/g01301/impl.errSyntax", "loop.example/g01301/impl.errNotFound"], fn := fun _ => fun
  | [d, g1, g2, g3, g4, g5, g6] => { results := [.lit (.bool true)], args := [d], vars := [g1, g2, g3, g4, g5, g6] }
  | _ => none }
def fnExactNearestThirdsRow : OpenClaim := { program := "ytjkcapeacdmhaabdoor", sum := "e9f7cd715ced6dea0fe8f0c18b5043a87d6701c25352c63acea655ca151a6b43", func := "loop.example/g01301/laws.FnExactNearestThirds", spec := "fnExactNearestThirds", inPlace := ["internal/reflectlite.TypeOf"], unfollowed := true, recurses := true, named := ["loop.example/g01301/impl.errRange", "loop.example/g01301/impl.stopTimes", "loop.example/g01301/impl.errInvalid", "loop.example/g01301/impl.errLimit", "loop.example/g01301/impl.errSyntax", "loop.example/g01301/impl.errNotFound"], ifaces := true, apart := false, laid := [("loop.example/g01301/impl.errInvalid", laid_loop_example_g01301_impl_errInvalid), ("loop.example/g01301/impl.errRange", laid_loop_example_g01301_impl_errRange), ("loop.example/g01301/impl.errLimit", laid_loop_example_g01301_impl_errLimit), ("loop.example/g01301/impl.errSyntax", laid_loop_example_g01301_impl_errSyntax), ("loop.example/g01301/impl.errNotFound", laid_loop_example_g01301_impl_errNotFound), ("loop.example/g01301/impl.stopTimes", laid_loop_example_g01301_impl_stopTimes)] }
def FnExactNearestThirdsSaid : Prop := fnExactNearestThirdsRow.holds Tryd.pinned (OpenSpec.ofChange fnExactNearestThirdsSpec)

/-- ITS FALSE NEIGHBOUR: 'it returns false'. Refute it at one input. -/
def fnExactNearestThirdsWrong : ChangeSpec := { name := "fnExactNearestThirds", vars := ["loop.example/g01301/impl.errRange", "loop.example/g01301/impl.stopTimes", "loop.example/g01301/impl.errInvalid", "loop.example/g01301/impl.errLimit", "loop.example/g01301/impl.errSyntax", "loop.example/g01301/impl.errNotFound"], fn := fun _ => fun
  | [d, g1, g2, g3, g4, g5, g6] => { results := [.lit (.bool false)], args := [d], vars := [g1, g2, g3, g4, g5, g6] }
  | _ => none }
def FnExactNearestThirdsWrongFalsely : Prop := fnExactNearestThirdsRow.holds Tryd.pinned (OpenSpec.ofChange fnExactNearestThirdsWrong)

/-- 'laws.FnExactTimesOf': WHATEVER THE INPUT: true; the input reads as it did. -/
def fnExactTimesOfSpec : ChangeSpec := { name := "fnExactTimesOf", vars := ["loop.example/g01301/impl.errRange", "loop.example/g01301/impl.stopTimes", "loop.example/g01301/impl.errInvalid", "loop.example/g01301/impl.errLimit", "loop.example/g01301/impl.errSyntax", "loop.example/g01301/impl.errNotFound"], fn := fun _ => fun
  | [d, g1, g2, g3, g4, g5, g6] => { results := [.lit (.bool true)], args := [d], vars := [g1, g2, g3, g4, g5, g6] }
  | _ => none }
def fnExactTimesOfRow : OpenClaim := { program := "ytjkcapeacdmhaabdoor", sum := "e9f7cd715ced6dea0fe8f0c18b5043a87d6701c25352c63acea655ca151a6b43", func := "loop.example/g01301/laws.FnExactTimesOf", spec := "fnExactTimesOf", inPlace := ["internal/reflectlite.TypeOf"], unfollowed := true, recurses := true, named := ["loop.example/g01301/impl.errRange", "loop.example/g01301/impl.stopTimes", "loop.example/g01301/impl.errInvalid", "loop.example/g01301/impl.errLimit", "loop.example/g01301/impl.errSyntax", "loop.example/g01301/impl.errNotFound"], ifaces := true, apart := false, laid := [("loop.example/g01301/impl.errInvalid", laid_loop_example_g01301_impl_errInvalid), ("loop.example/g01301/impl.errRange", laid_loop_example_g01301_impl_errRange), ("loop.example/g01301/impl.errLimit", laid_loop_example_g01301_impl_errLimit), ("loop.example/g01301/impl.errSyntax", laid_loop_example_g01301_impl_errSyntax), ("loop.example/g01301/impl.errNotFound", laid_loop_example_g01301_impl_errNotFound), ("loop.example/g01301/impl.stopTimes", laid_loop_example_g01301_impl_stopTimes)] }
def FnExactTimesOfSaid : Prop := fnExactTimesOfRow.holds Tryd.pinned (OpenSpec.ofChange fnExactTimesOfSpec)

/-- ITS FALSE NEIGHBOUR: 'it returns false'. Refute it at one input. -/
def fnExactTimesOfWrong : ChangeSpec := { name := "fnExactTimesOf", vars := ["loop.example/g01301/impl.errRange", "loop.example/g01301/impl.stopTimes", "loop.example/g01301/impl.errInvalid", "loop.example/g01301/impl.errLimit", "loop.example/g01301/impl.errSyntax", "loop.example/g01301/impl.errNotFound"], fn := fun _ => fun
  | [d, g1, g2, g3, g4, g5, g6] => { results := [.lit (.bool false)], args := [d], vars := [g1, g2, g3, g4, g5, g6] }
  | _ => none }
def FnExactTimesOfWrongFalsely : Prop := fnExactTimesOfRow.holds Tryd.pinned (OpenSpec.ofChange fnExactTimesOfWrong)

/-- 'laws.FnExactEnlargedBy': WHATEVER THE INPUT: true; the input reads as it did. -/
def fnExactEnlargedBySpec : ChangeSpec := { name := "fnExactEnlargedBy", vars := ["loop.example/g01301/impl.errRange", "loop.example/g01301/impl.errLimit", "loop.example/g01301/impl.stopTimes", "loop.example/g01301/impl.errInvalid", "loop.example/g01301/impl.errSyntax", "loop.example/g01301/impl.errNotFound"], fn := fun _ => fun
  | [d1, d2, d3, g1, g2, g3, g4, g5, g6] => { results := [.lit (.bool true)], args := [d1, d2, d3], vars := [g1, g2, g3, g4, g5, g6] }
  | _ => none }
def fnExactEnlargedByRow : OpenClaim := { program := "ytjkcapeacdmhaabdoor", sum := "e9f7cd715ced6dea0fe8f0c18b5043a87d6701c25352c63acea655ca151a6b43", func := "loop.example/g01301/laws.FnExactEnlargedBy", spec := "fnExactEnlargedBy", inPlace := ["internal/reflectlite.TypeOf"], unfollowed := true, recurses := true, named := ["loop.example/g01301/impl.errRange", "loop.example/g01301/impl.errLimit", "loop.example/g01301/impl.stopTimes", "loop.example/g01301/impl.errInvalid", "loop.example/g01301/impl.errSyntax", "loop.example/g01301/impl.errNotFound"], ifaces := true, apart := false, laid := [("loop.example/g01301/impl.errInvalid", laid_loop_example_g01301_impl_errInvalid), ("loop.example/g01301/impl.errRange", laid_loop_example_g01301_impl_errRange), ("loop.example/g01301/impl.errLimit", laid_loop_example_g01301_impl_errLimit), ("loop.example/g01301/impl.errSyntax", laid_loop_example_g01301_impl_errSyntax), ("loop.example/g01301/impl.errNotFound", laid_loop_example_g01301_impl_errNotFound), ("loop.example/g01301/impl.stopTimes", laid_loop_example_g01301_impl_stopTimes)] }
def FnExactEnlargedBySaid : Prop := fnExactEnlargedByRow.holds Tryd.pinned (OpenSpec.ofChange fnExactEnlargedBySpec)

/-- ITS FALSE NEIGHBOUR: 'it returns false'. Refute it at one input. -/
def fnExactEnlargedByWrong : ChangeSpec := { name := "fnExactEnlargedBy", vars := ["loop.example/g01301/impl.errRange", "loop.example/g01301/impl.errLimit", "loop.example/g01301/impl.stopTimes", "loop.example/g01301/impl.errInvalid", "loop.example/g01301/impl.errSyntax", "loop.example/g01301/impl.errNotFound"], fn := fun _ => fun
  | [d1, d2, d3, g1, g2, g3, g4, g5, g6] => { results := [.lit (.bool false)], args := [d1, d2, d3], vars := [g1, g2, g3, g4, g5, g6] }
  | _ => none }
def FnExactEnlargedByWrongFalsely : Prop := fnExactEnlargedByRow.holds Tryd.pinned (OpenSpec.ofChange fnExactEnlargedByWrong)

/-- 'laws.FnExactSettingText': WHATEVER THE INPUT: true; the input reads as it did. -/
def fnExactSettingTextSpec : ChangeSpec := { name := "fnExactSettingText", vars := ["loop.example/g01301/impl.shutterNames", "loop.example/g01301/impl.thirdMarks", "loop.example/g01301/impl.apertureNames"], fn := fun _ => fun
  | [d, g1, g2, g3] => { results := [.lit (.bool true)], args := [d], vars := [g1, g2, g3] }
  | _ => none }
def fnExactSettingTextRow : OpenClaim := { program := "ytjkcapeacdmhaabdoor", sum := "e9f7cd715ced6dea0fe8f0c18b5043a87d6701c25352c63acea655ca151a6b43", func := "loop.example/g01301/laws.FnExactSettingText", spec := "fnExactSettingText", recurses := true, named := ["loop.example/g01301/impl.shutterNames", "loop.example/g01301/impl.thirdMarks", "loop.example/g01301/impl.apertureNames", "internal/strconv.uint64pow10", "math/bits.deBruijn32tab", "math/bits.deBruijn64tab"], apart := false, laid := [("math/bits.deBruijn32tab", laid_math_bits_deBruijn32tab), ("math/bits.deBruijn64tab", laid_math_bits_deBruijn64tab), ("internal/strconv.uint64pow10", laid_internal_strconv_uint64pow10), ("loop.example/g01301/impl.shutterNames", laid_loop_example_g01301_impl_shutterNames), ("loop.example/g01301/impl.apertureNames", laid_loop_example_g01301_impl_apertureNames), ("loop.example/g01301/impl.thirdMarks", laid_loop_example_g01301_impl_thirdMarks)] }
def FnExactSettingTextSaid : Prop := fnExactSettingTextRow.holds Tryd.pinned (OpenSpec.ofChange fnExactSettingTextSpec)

/-- ITS FALSE NEIGHBOUR: 'it returns false'. Refute it at one input. -/
def fnExactSettingTextWrong : ChangeSpec := { name := "fnExactSettingText", vars := ["loop.example/g01301/impl.shutterNames", "loop.example/g01301/impl.thirdMarks", "loop.example/g01301/impl.apertureNames"], fn := fun _ => fun
  | [d, g1, g2, g3] => { results := [.lit (.bool false)], args := [d], vars := [g1, g2, g3] }
  | _ => none }
def FnExactSettingTextWrongFalsely : Prop := fnExactSettingTextRow.holds Tryd.pinned (OpenSpec.ofChange fnExactSettingTextWrong)

/- THE SECOND FORM. 'bulk': how many values and letters a reading holds, each counted each time it is reached (what is shared counts as often as it is met; a slice's spare places count too). A statement '..UptoSaid' is the law's where the arguments, and the package variables that the reading takes, are together of bulk at most 1048576: NARROWER than '..Said'. Prove '..Said' where nothing that the law and all that it calls make is longer than what came in: it says more and counts as full. Else prove '..UptoSaid'. A law counts once. -/
mutual
def uptoBulk {H : Type} : DataW H → Nat
  | .lit (.string bytes) => bytes.length + 1
  | .lit _ => 1
  | .nil => 1
  | .ptr d => uptoBulk d + 1
  | .slice elems spare => uptoBulkAll elems + uptoBulkAll spare + 1
  | .agg parts => uptoBulkAll parts + 1
  | .iface _ d => uptoBulk d + 1
  | .map entries => uptoBulkEntries entries + 1
  | .held _ => 1
def uptoBulkAll {H : Type} : List (DataW H) → Nat
  | [] => 0
  | d :: r => uptoBulk d + uptoBulkAll r
def uptoBulkEntries {H : Type} : List (Lit × DataW H) → Nat
  | [] => 0
  | x :: r => uptoBulkEntry x + uptoBulkEntries r
def uptoBulkEntry {H : Type} : Lit × DataW H → Nat
  | (.string bytes, d) => bytes.length + uptoBulk d + 1
  | (_, d) => uptoBulk d + 1
 end
def uptoSmall : (H : Type) → List (DataW H) → Bool := fun _ ds => decide (uptoBulkAll ds ≤ 1048576)
def OpenSpec.upto (s : _root_.Go.ChangeSpec) : _root_.Go.OpenSpec := { _root_.Go.OpenSpec.ofChange s with cond := some uptoSmall }

/-- 'laws.FnExactFactorThirds', WHERE WHAT IT READS IS OF BULK AT MOST 1048576: true; the input reads as it did. -/
def fnExactFactorThirdsUptoRow : OpenClaim := { program := "ytjkcapeacdmhaabdoor", sum := "e9f7cd715ced6dea0fe8f0c18b5043a87d6701c25352c63acea655ca151a6b43", func := "loop.example/g01301/laws.FnExactFactorThirds", spec := "fnExactFactorThirds", inPlace := ["internal/reflectlite.TypeOf"], unfollowed := true, recurses := true, named := ["loop.example/g01301/impl.errRange", "loop.example/g01301/impl.stopTimes", "loop.example/g01301/impl.errInvalid", "loop.example/g01301/impl.errLimit", "loop.example/g01301/impl.errSyntax", "loop.example/g01301/impl.errNotFound"], ifaces := true, apart := false, laid := [("loop.example/g01301/impl.errInvalid", laid_loop_example_g01301_impl_errInvalid), ("loop.example/g01301/impl.errRange", laid_loop_example_g01301_impl_errRange), ("loop.example/g01301/impl.errLimit", laid_loop_example_g01301_impl_errLimit), ("loop.example/g01301/impl.errSyntax", laid_loop_example_g01301_impl_errSyntax), ("loop.example/g01301/impl.errNotFound", laid_loop_example_g01301_impl_errNotFound), ("loop.example/g01301/impl.stopTimes", laid_loop_example_g01301_impl_stopTimes)], narrowed := true }
def FnExactFactorThirdsUptoSaid : Prop := fnExactFactorThirdsUptoRow.holds Tryd.pinned (OpenSpec.upto fnExactFactorThirdsSpec)

/-- 'laws.FnExactWithFilters', WHERE WHAT IT READS IS OF BULK AT MOST 1048576: true; the input reads as it did. -/
def fnExactWithFiltersUptoRow : OpenClaim := { program := "ytjkcapeacdmhaabdoor", sum := "e9f7cd715ced6dea0fe8f0c18b5043a87d6701c25352c63acea655ca151a6b43", func := "loop.example/g01301/laws.FnExactWithFilters", spec := "fnExactWithFilters", inPlace := ["internal/reflectlite.TypeOf"], unfollowed := true, recurses := true, named := ["loop.example/g01301/impl.errInvalid", "loop.example/g01301/impl.errLimit", "loop.example/g01301/impl.errRange", "loop.example/g01301/impl.stopTimes", "loop.example/g01301/impl.errNotFound", "loop.example/g01301/impl.errSyntax"], ifaces := true, apart := false, laid := [("loop.example/g01301/impl.errInvalid", laid_loop_example_g01301_impl_errInvalid), ("loop.example/g01301/impl.errRange", laid_loop_example_g01301_impl_errRange), ("loop.example/g01301/impl.errLimit", laid_loop_example_g01301_impl_errLimit), ("loop.example/g01301/impl.errSyntax", laid_loop_example_g01301_impl_errSyntax), ("loop.example/g01301/impl.errNotFound", laid_loop_example_g01301_impl_errNotFound), ("loop.example/g01301/impl.stopTimes", laid_loop_example_g01301_impl_stopTimes)], narrowed := true }
def FnExactWithFiltersUptoSaid : Prop := fnExactWithFiltersUptoRow.holds Tryd.pinned (OpenSpec.upto fnExactWithFiltersSpec)

/-- 'laws.FnExactExtraFor', WHERE WHAT IT READS IS OF BULK AT MOST 1048576: true; the input reads as it did. -/
def fnExactExtraForUptoRow : OpenClaim := { program := "ytjkcapeacdmhaabdoor", sum := "e9f7cd715ced6dea0fe8f0c18b5043a87d6701c25352c63acea655ca151a6b43", func := "loop.example/g01301/laws.FnExactExtraFor", spec := "fnExactExtraFor", inPlace := ["internal/reflectlite.TypeOf"], unfollowed := true, recurses := true, named := ["loop.example/g01301/impl.errInvalid", "loop.example/g01301/impl.errRange", "loop.example/g01301/impl.errLimit", "loop.example/g01301/impl.errSyntax", "loop.example/g01301/impl.errNotFound"], ifaces := true, apart := false, laid := [("loop.example/g01301/impl.errInvalid", laid_loop_example_g01301_impl_errInvalid), ("loop.example/g01301/impl.errRange", laid_loop_example_g01301_impl_errRange), ("loop.example/g01301/impl.errLimit", laid_loop_example_g01301_impl_errLimit), ("loop.example/g01301/impl.errSyntax", laid_loop_example_g01301_impl_errSyntax), ("loop.example/g01301/impl.errNotFound", laid_loop_example_g01301_impl_errNotFound)], narrowed := true }
def FnExactExtraForUptoSaid : Prop := fnExactExtraForUptoRow.holds Tryd.pinned (OpenSpec.upto fnExactExtraForSpec)

/-- 'laws.FnExactCorrectedFor', WHERE WHAT IT READS IS OF BULK AT MOST 1048576: true; the input reads as it did. -/
def fnExactCorrectedForUptoRow : OpenClaim := { program := "ytjkcapeacdmhaabdoor", sum := "e9f7cd715ced6dea0fe8f0c18b5043a87d6701c25352c63acea655ca151a6b43", func := "loop.example/g01301/laws.FnExactCorrectedFor", spec := "fnExactCorrectedFor", inPlace := ["internal/reflectlite.TypeOf"], unfollowed := true, recurses := true, named := ["loop.example/g01301/impl.errInvalid", "loop.example/g01301/impl.errNotFound", "loop.example/g01301/impl.errRange", "loop.example/g01301/impl.errLimit", "loop.example/g01301/impl.errSyntax"], ifaces := true, apart := false, laid := [("loop.example/g01301/impl.errInvalid", laid_loop_example_g01301_impl_errInvalid), ("loop.example/g01301/impl.errRange", laid_loop_example_g01301_impl_errRange), ("loop.example/g01301/impl.errLimit", laid_loop_example_g01301_impl_errLimit), ("loop.example/g01301/impl.errSyntax", laid_loop_example_g01301_impl_errSyntax), ("loop.example/g01301/impl.errNotFound", laid_loop_example_g01301_impl_errNotFound)], narrowed := true }
def FnExactCorrectedForUptoSaid : Prop := fnExactCorrectedForUptoRow.holds Tryd.pinned (OpenSpec.upto fnExactCorrectedForSpec)

/-- 'laws.FnExactMeteredFor', WHERE WHAT IT READS IS OF BULK AT MOST 1048576: true; the input reads as it did. -/
def fnExactMeteredForUptoRow : OpenClaim := { program := "ytjkcapeacdmhaabdoor", sum := "e9f7cd715ced6dea0fe8f0c18b5043a87d6701c25352c63acea655ca151a6b43", func := "loop.example/g01301/laws.FnExactMeteredFor", spec := "fnExactMeteredFor", inPlace := ["internal/reflectlite.TypeOf"], unfollowed := true, recurses := true, named := ["loop.example/g01301/impl.errInvalid", "loop.example/g01301/impl.errRange", "loop.example/g01301/impl.errLimit", "loop.example/g01301/impl.errSyntax", "loop.example/g01301/impl.errNotFound"], ifaces := true, apart := false, laid := [("loop.example/g01301/impl.errInvalid", laid_loop_example_g01301_impl_errInvalid), ("loop.example/g01301/impl.errRange", laid_loop_example_g01301_impl_errRange), ("loop.example/g01301/impl.errLimit", laid_loop_example_g01301_impl_errLimit), ("loop.example/g01301/impl.errSyntax", laid_loop_example_g01301_impl_errSyntax), ("loop.example/g01301/impl.errNotFound", laid_loop_example_g01301_impl_errNotFound)], narrowed := true }
def FnExactMeteredForUptoSaid : Prop := fnExactMeteredForUptoRow.holds Tryd.pinned (OpenSpec.upto fnExactMeteredForSpec)

/-- 'laws.FnExactTimeOf', WHERE WHAT IT READS IS OF BULK AT MOST 1048576: true; the input reads as it did. -/
def fnExactTimeOfUptoRow : OpenClaim := { program := "ytjkcapeacdmhaabdoor", sum := "e9f7cd715ced6dea0fe8f0c18b5043a87d6701c25352c63acea655ca151a6b43", func := "loop.example/g01301/laws.FnExactTimeOf", spec := "fnExactTimeOf", inPlace := ["internal/reflectlite.TypeOf"], unfollowed := true, recurses := true, named := ["loop.example/g01301/impl.errRange", "loop.example/g01301/impl.stopTimes", "loop.example/g01301/impl.errInvalid", "loop.example/g01301/impl.errLimit", "loop.example/g01301/impl.errSyntax", "loop.example/g01301/impl.errNotFound"], ifaces := true, apart := false, laid := [("loop.example/g01301/impl.errInvalid", laid_loop_example_g01301_impl_errInvalid), ("loop.example/g01301/impl.errRange", laid_loop_example_g01301_impl_errRange), ("loop.example/g01301/impl.errLimit", laid_loop_example_g01301_impl_errLimit), ("loop.example/g01301/impl.errSyntax", laid_loop_example_g01301_impl_errSyntax), ("loop.example/g01301/impl.errNotFound", laid_loop_example_g01301_impl_errNotFound), ("loop.example/g01301/impl.stopTimes", laid_loop_example_g01301_impl_stopTimes)], narrowed := true }
def FnExactTimeOfUptoSaid : Prop := fnExactTimeOfUptoRow.holds Tryd.pinned (OpenSpec.upto fnExactTimeOfSpec)

/-- 'laws.FnExactThirdsIn', WHERE WHAT IT READS IS OF BULK AT MOST 1048576: true; the input reads as it did. -/
def fnExactThirdsInUptoRow : OpenClaim := { program := "ytjkcapeacdmhaabdoor", sum := "e9f7cd715ced6dea0fe8f0c18b5043a87d6701c25352c63acea655ca151a6b43", func := "loop.example/g01301/laws.FnExactThirdsIn", spec := "fnExactThirdsIn", inPlace := ["internal/reflectlite.TypeOf"], unfollowed := true, recurses := true, named := ["loop.example/g01301/impl.errRange", "loop.example/g01301/impl.errNotFound", "loop.example/g01301/impl.stopTimes", "loop.example/g01301/impl.errInvalid", "loop.example/g01301/impl.errLimit", "loop.example/g01301/impl.errSyntax"], ifaces := true, apart := false, laid := [("loop.example/g01301/impl.errInvalid", laid_loop_example_g01301_impl_errInvalid), ("loop.example/g01301/impl.errRange", laid_loop_example_g01301_impl_errRange), ("loop.example/g01301/impl.errLimit", laid_loop_example_g01301_impl_errLimit), ("loop.example/g01301/impl.errSyntax", laid_loop_example_g01301_impl_errSyntax), ("loop.example/g01301/impl.errNotFound", laid_loop_example_g01301_impl_errNotFound), ("loop.example/g01301/impl.stopTimes", laid_loop_example_g01301_impl_stopTimes)], narrowed := true }
def FnExactThirdsInUptoSaid : Prop := fnExactThirdsInUptoRow.holds Tryd.pinned (OpenSpec.upto fnExactThirdsInSpec)

/-- 'laws.FnExactNearestThirds', WHERE WHAT IT READS IS OF BULK AT MOST 1048576: true; the input reads as it did. -/
def fnExactNearestThirdsUptoRow : OpenClaim := { program := "ytjkcapeacdmhaabdoor", sum := "e9f7cd715ced6dea0fe8f0c18b5043a87d6701c25352c63acea655ca151a6b43", func := "loop.example/g01301/laws.FnExactNearestThirds", spec := "fnExactNearestThirds", inPlace := ["internal/reflectlite.TypeOf"], unfollowed := true, recurses := true, named := ["loop.example/g01301/impl.errRange", "loop.example/g01301/impl.stopTimes", "loop.example/g01301/impl.errInvalid", "loop.example/g01301/impl.errLimit", "loop.example/g01301/impl.errSyntax", "loop.example/g01301/impl.errNotFound"], ifaces := true, apart := false, laid := [("loop.example/g01301/impl.errInvalid", laid_loop_example_g01301_impl_errInvalid), ("loop.example/g01301/impl.errRange", laid_loop_example_g01301_impl_errRange), ("loop.example/g01301/impl.errLimit", laid_loop_example_g01301_impl_errLimit), ("loop.example/g01301/impl.errSyntax", laid_loop_example_g01301_impl_errSyntax), ("loop.example/g01301/impl.errNotFound", laid_loop_example_g01301_impl_errNotFound), ("loop.example/g01301/impl.stopTimes", laid_loop_example_g01301_impl_stopTimes)], narrowed := true }
def FnExactNearestThirdsUptoSaid : Prop := fnExactNearestThirdsUptoRow.holds Tryd.pinned (OpenSpec.upto fnExactNearestThirdsSpec)

/-- 'laws.FnExactTimesOf', WHERE WHAT IT READS IS OF BULK AT MOST 1048576: true; the input reads as it did. -/
def fnExactTimesOfUptoRow : OpenClaim := { program := "ytjkcapeacdmhaabdoor", sum := "e9f7cd715ced6dea0fe8f0c18b5043a87d6701c25352c63acea655ca151a6b43", func := "loop.example/g01301/laws.FnExactTimesOf", spec := "fnExactTimesOf", inPlace := ["internal/reflectlite.TypeOf"], unfollowed := true, recurses := true, named := ["loop.example/g01301/impl.errRange", "loop.example/g01301/impl.stopTimes", "loop.example/g01301/impl.errInvalid", "loop.example/g01301/impl.errLimit", "loop.example/g01301/impl.errSyntax", "loop.example/g01301/impl.errNotFound"], ifaces := true, apart := false, laid := [("loop.example/g01301/impl.errInvalid", laid_loop_example_g01301_impl_errInvalid), ("loop.example/g01301/impl.errRange", laid_loop_example_g01301_impl_errRange), ("loop.example/g01301/impl.errLimit", laid_loop_example_g01301_impl_errLimit), ("loop.example/g01301/impl.errSyntax", laid_loop_example_g01301_impl_errSyntax), ("loop.example/g01301/impl.errNotFound", laid_loop_example_g01301_impl_errNotFound), ("loop.example/g01301/impl.stopTimes", laid_loop_example_g01301_impl_stopTimes)], narrowed := true }
def FnExactTimesOfUptoSaid : Prop := fnExactTimesOfUptoRow.holds Tryd.pinned (OpenSpec.upto fnExactTimesOfSpec)

/-- 'laws.FnExactEnlargedBy', WHERE WHAT IT READS IS OF BULK AT MOST 1048576: true; the input reads as it did. -/
def fnExactEnlargedByUptoRow : OpenClaim := { program := "ytjkcapeacdmhaabdoor", sum := "e9f7cd715ced6dea0fe8f0c18b5043a87d6701c25352c63acea655ca151a6b43", func := "loop.example/g01301/laws.FnExactEnlargedBy", spec := "fnExactEnlargedBy", inPlace := ["internal/reflectlite.TypeOf"], unfollowed := true, recurses := true, named := ["loop.example/g01301/impl.errRange", "loop.example/g01301/impl.errLimit", "loop.example/g01301/impl.stopTimes", "loop.example/g01301/impl.errInvalid", "loop.example/g01301/impl.errSyntax", "loop.example/g01301/impl.errNotFound"], ifaces := true, apart := false, laid := [("loop.example/g01301/impl.errInvalid", laid_loop_example_g01301_impl_errInvalid), ("loop.example/g01301/impl.errRange", laid_loop_example_g01301_impl_errRange), ("loop.example/g01301/impl.errLimit", laid_loop_example_g01301_impl_errLimit), ("loop.example/g01301/impl.errSyntax", laid_loop_example_g01301_impl_errSyntax), ("loop.example/g01301/impl.errNotFound", laid_loop_example_g01301_impl_errNotFound), ("loop.example/g01301/impl.stopTimes", laid_loop_example_g01301_impl_stopTimes)], narrowed := true }
def FnExactEnlargedByUptoSaid : Prop := fnExactEnlargedByUptoRow.holds Tryd.pinned (OpenSpec.upto fnExactEnlargedBySpec)

/-- 'laws.FnExactSettingText', WHERE WHAT IT READS IS OF BULK AT MOST 1048576: true; the input reads as it did. -/
def fnExactSettingTextUptoRow : OpenClaim := { program := "ytjkcapeacdmhaabdoor", sum := "e9f7cd715ced6dea0fe8f0c18b5043a87d6701c25352c63acea655ca151a6b43", func := "loop.example/g01301/laws.FnExactSettingText", spec := "fnExactSettingText", recurses := true, named := ["loop.example/g01301/impl.shutterNames", "loop.example/g01301/impl.thirdMarks", "loop.example/g01301/impl.apertureNames", "internal/strconv.uint64pow10", "math/bits.deBruijn32tab", "math/bits.deBruijn64tab"], apart := false, laid := [("math/bits.deBruijn32tab", laid_math_bits_deBruijn32tab), ("math/bits.deBruijn64tab", laid_math_bits_deBruijn64tab), ("internal/strconv.uint64pow10", laid_internal_strconv_uint64pow10), ("loop.example/g01301/impl.shutterNames", laid_loop_example_g01301_impl_shutterNames), ("loop.example/g01301/impl.apertureNames", laid_loop_example_g01301_impl_apertureNames), ("loop.example/g01301/impl.thirdMarks", laid_loop_example_g01301_impl_thirdMarks)], narrowed := true }
def FnExactSettingTextUptoSaid : Prop := fnExactSettingTextUptoRow.holds Tryd.pinned (OpenSpec.upto fnExactSettingTextSpec)

end Rows
end Go.Proofs.YtjkcapeacdmhaabDoor
