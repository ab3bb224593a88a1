/-
  NARROWER THAN 'FOR EVERY INPUT', by the rows' own cells (each row's printed sentence says how): FnSettings: ifaces, laid · FnLong: ifaces, laid · FnTimes: ifaces, laid · FnExactCodeName: laid · FnExactShutterName: laid · FnExactApertureName: laid · FnExactValueOf: ifaces, laid · FnExactMoreLight: ifaces, laid · FnExactSettingsFor: ifaces, laid · FnExactNearestSettings: ifaces, laid · FnExactBracketOf: ifaces, laid.
  DERIVED. THE GIVEN ROWS OF THIS SEAT. 11 by the template 'for every input the law returns true; each argument reads behind the call as it read before'; 0 by the template 'total and deterministic' (their statements: YtjkcapeacdmhaaaDoorTotals.lean).
  GIVEN WITH THE SEED: the statements are not yours to turn. If you find one false, say at which input.
  Laid BY PROGRAM, IN A SANDBOX (cutbox-rows.mjs): the forced cells as the released guide's own fill.sh prints them over the translation 0a6f3e27ea3c20f1… (all of the seat's roots in one cut). By AI agents, Wed Nov 11 2026. No macro, syntax, notation, axiom, sorry.
-/
import Derived.Test.YtjkcapeacdmhaaaDoorChecked
import GoSem.Claim
import GoSem.ClaimJoined
import GoSem.ClaimMapViews
import Derived.JoinedTies
import Derived.KernelRfl
namespace Go.Proofs.YtjkcapeacdmhaaaDoor
/- THE CELL 'sum', in the pinned program and in every row, IS THE sha256 OF THE DUMP (.gsa) THAT YtjkcapeacdmhaaaDoorProg.lean LOADS. Nothing in Lean hashes anything: it is a label: what it is worth is what the hold of that sum in a sandbox is worth. -/
noncomputable def Tryd.pinned : Pinned := { name := "ytjkcapeacdmhaaadoor", sum := "0a6f3e27ea3c20f199a5c0b05a34e85fc1229c2422a71922ac76092e427cbbd8", checked := Tryd.checked }
namespace Rows
def none {H : Type} : Left H := { results := [], args := [] }

/- WHAT THE LISTED PACKAGE-LEVEL VARIABLES READ AS WHEN THE CALL BEGINS. Each datum BY PROGRAM (the guide's laid-datum.mjs) off the statement by which the dump's own 'gosem.cut.vars' lays the variable. In a bare row this is a premise. The card (YtjkcapeacdmhaaaDoorCards.lean) ties it to the program's text. -/
def laid_math_bits_deBruijn32tab {H : Type} : DataW H := .agg [.lit (.int .u8 0), .lit (.int .u8 1), .lit (.int .u8 28), .lit (.int .u8 2), .lit (.int .u8 29), .lit (.int .u8 14), .lit (.int .u8 24), .lit (.int .u8 3), .lit (.int .u8 30), .lit (.int .u8 22), .lit (.int .u8 20), .lit (.int .u8 15), .lit (.int .u8 25), .lit (.int .u8 17), .lit (.int .u8 4), .lit (.int .u8 8), .lit (.int .u8 31), .lit (.int .u8 27), .lit (.int .u8 13), .lit (.int .u8 23), .lit (.int .u8 21), .lit (.int .u8 19), .lit (.int .u8 16), .lit (.int .u8 7), .lit (.int .u8 26), .lit (.int .u8 12), .lit (.int .u8 18), .lit (.int .u8 6), .lit (.int .u8 11), .lit (.int .u8 5), .lit (.int .u8 10), .lit (.int .u8 9)]
def laid_math_bits_deBruijn64tab {H : Type} : DataW H := .agg [.lit (.int .u8 0), .lit (.int .u8 1), .lit (.int .u8 56), .lit (.int .u8 2), .lit (.int .u8 57), .lit (.int .u8 49), .lit (.int .u8 28), .lit (.int .u8 3), .lit (.int .u8 61), .lit (.int .u8 58), .lit (.int .u8 42), .lit (.int .u8 50), .lit (.int .u8 38), .lit (.int .u8 29), .lit (.int .u8 17), .lit (.int .u8 4), .lit (.int .u8 62), .lit (.int .u8 47), .lit (.int .u8 59), .lit (.int .u8 36), .lit (.int .u8 45), .lit (.int .u8 43), .lit (.int .u8 51), .lit (.int .u8 22), .lit (.int .u8 53), .lit (.int .u8 39), .lit (.int .u8 33), .lit (.int .u8 30), .lit (.int .u8 24), .lit (.int .u8 18), .lit (.int .u8 12), .lit (.int .u8 5), .lit (.int .u8 63), .lit (.int .u8 55), .lit (.int .u8 48), .lit (.int .u8 27), .lit (.int .u8 60), .lit (.int .u8 41), .lit (.int .u8 37), .lit (.int .u8 16), .lit (.int .u8 46), .lit (.int .u8 35), .lit (.int .u8 44), .lit (.int .u8 21), .lit (.int .u8 52), .lit (.int .u8 32), .lit (.int .u8 23), .lit (.int .u8 11), .lit (.int .u8 54), .lit (.int .u8 26), .lit (.int .u8 40), .lit (.int .u8 15), .lit (.int .u8 34), .lit (.int .u8 20), .lit (.int .u8 31), .lit (.int .u8 10), .lit (.int .u8 25), .lit (.int .u8 14), .lit (.int .u8 19), .lit (.int .u8 9), .lit (.int .u8 13), .lit (.int .u8 8), .lit (.int .u8 7), .lit (.int .u8 6)]
def laid_internal_strconv_uint64pow10 {H : Type} : DataW H := .agg [.lit (.int .u64 1), .lit (.int .u64 10), .lit (.int .u64 100), .lit (.int .u64 1000), .lit (.int .u64 10000), .lit (.int .u64 100000), .lit (.int .u64 1000000), .lit (.int .u64 10000000), .lit (.int .u64 100000000), .lit (.int .u64 1000000000), .lit (.int .u64 10000000000), .lit (.int .u64 100000000000), .lit (.int .u64 1000000000000), .lit (.int .u64 10000000000000), .lit (.int .u64 100000000000000), .lit (.int .u64 1000000000000000), .lit (.int .u64 10000000000000000), .lit (.int .u64 100000000000000000), .lit (.int .u64 1000000000000000000), .lit (.int .u64 10000000000000000000)]
def laid_loop_example_g01301_impl_errInvalid {H : Type} : DataW H := .iface "*errors.errorString" (.ptr (.agg [.lit (.string [105, 110, 118, 97, 108, 105, 100])]))
def laid_loop_example_g01301_impl_errRange {H : Type} : DataW H := .iface "*errors.errorString" (.ptr (.agg [.lit (.string [114, 97, 110, 103, 101])]))
def laid_loop_example_g01301_impl_errLimit {H : Type} : DataW H := .iface "*errors.errorString" (.ptr (.agg [.lit (.string [108, 105, 109, 105, 116])]))
def laid_loop_example_g01301_impl_errSyntax {H : Type} : DataW H := .iface "*errors.errorString" (.ptr (.agg [.lit (.string [115, 121, 110, 116, 97, 120])]))
def laid_loop_example_g01301_impl_errNotFound {H : Type} : DataW H := .iface "*errors.errorString" (.ptr (.agg [.lit (.string [110, 111, 116, 102, 111, 117, 110, 100])]))
def laid_loop_example_g01301_impl_shutterNames {H : Type} : DataW H := .agg [.lit (.string [49, 47, 49, 48, 48, 48]), .lit (.string [49, 47, 53, 48, 48]), .lit (.string [49, 47, 50, 53, 48]), .lit (.string [49, 47, 49, 50, 53]), .lit (.string [49, 47, 54, 48]), .lit (.string [49, 47, 51, 48]), .lit (.string [49, 47, 49, 53]), .lit (.string [49, 47, 56]), .lit (.string [49, 47, 52]), .lit (.string [49, 47, 50]), .lit (.string [49]), .lit (.string [50]), .lit (.string [52]), .lit (.string [56]), .lit (.string [49, 53]), .lit (.string [51, 48])]
def laid_loop_example_g01301_impl_apertureNames {H : Type} : DataW H := .agg [.lit (.string [102, 47, 49]), .lit (.string [102, 47, 49, 46, 52]), .lit (.string [102, 47, 50]), .lit (.string [102, 47, 50, 46, 56]), .lit (.string [102, 47, 52]), .lit (.string [102, 47, 53, 46, 54]), .lit (.string [102, 47, 56]), .lit (.string [102, 47, 49, 49]), .lit (.string [102, 47, 49, 54]), .lit (.string [102, 47, 50, 50]), .lit (.string [102, 47, 51, 50])]
def laid_loop_example_g01301_impl_thirdMarks {H : Type} : DataW H := .agg [.lit (.string []), .lit (.string [43, 49]), .lit (.string [43, 50])]
def laid_loop_example_g01301_impl_stopTimes {H : Type} : DataW H := .agg [.lit (.int .i64 1000), .lit (.int .i64 1260), .lit (.int .i64 1587)]
def laid_loop_example_g01301_impl_codeNames {H : Type} : DataW H := .agg [.lit (.string [111, 107]), .lit (.string [105, 110, 118, 97, 108, 105, 100]), .lit (.string [114, 97, 110, 103, 101]), .lit (.string [108, 105, 109, 105, 116]), .lit (.string [115, 116, 97, 116, 101]), .lit (.string [115, 121, 110, 116, 97, 120]), .lit (.string [110, 111, 116, 102, 111, 117, 110, 100]), .lit (.string [98, 117, 100, 103, 101, 116]), .lit (.string [112, 114, 111, 111, 102])]

/-- 'laws.FnSettings': WHATEVER THE INPUT: true; the input reads as it did. -/
def fnSettingsSpec : ChangeSpec := { name := "fnSettings", vars := ["loop.example/g01301/impl.errInvalid", "loop.example/g01301/impl.errRange", "loop.example/g01301/impl.errLimit", "loop.example/g01301/impl.errSyntax", "loop.example/g01301/impl.errNotFound", "loop.example/g01301/impl.shutterNames", "loop.example/g01301/impl.thirdMarks", "loop.example/g01301/impl.apertureNames"], fn := fun _ => fun
  | [d1, d2, g1, g2, g3, g4, g5, g6, g7, g8] => { results := [.lit (.bool true)], args := [d1, d2], vars := [g1, g2, g3, g4, g5, g6, g7, g8] }
  | _ => none }
def fnSettingsRow : OpenClaim := { program := "ytjkcapeacdmhaaadoor", sum := "0a6f3e27ea3c20f199a5c0b05a34e85fc1229c2422a71922ac76092e427cbbd8", func := "loop.example/g01301/laws.FnSettings", spec := "fnSettings", inPlace := ["internal/reflectlite.TypeOf", "internal/bytealg.IndexByteString", "internal/bytealg.IndexString"], unfollowed := true, recurses := true, named := ["loop.example/g01301/impl.errInvalid", "loop.example/g01301/impl.errRange", "loop.example/g01301/impl.errLimit", "loop.example/g01301/impl.errSyntax", "loop.example/g01301/impl.errNotFound", "loop.example/g01301/impl.shutterNames", "loop.example/g01301/impl.thirdMarks", "loop.example/g01301/impl.apertureNames", "internal/strconv.uint64pow10", "math/bits.deBruijn32tab", "math/bits.deBruijn64tab", "internal/bytealg.MaxLen"], ifaces := true, plainKeys := false, apart := false, laid := [("math/bits.deBruijn32tab", laid_math_bits_deBruijn32tab), ("math/bits.deBruijn64tab", laid_math_bits_deBruijn64tab), ("internal/strconv.uint64pow10", laid_internal_strconv_uint64pow10), ("loop.example/g01301/impl.errInvalid", laid_loop_example_g01301_impl_errInvalid), ("loop.example/g01301/impl.errRange", laid_loop_example_g01301_impl_errRange), ("loop.example/g01301/impl.errLimit", laid_loop_example_g01301_impl_errLimit), ("loop.example/g01301/impl.errSyntax", laid_loop_example_g01301_impl_errSyntax), ("loop.example/g01301/impl.errNotFound", laid_loop_example_g01301_impl_errNotFound), ("loop.example/g01301/impl.shutterNames", laid_loop_example_g01301_impl_shutterNames), ("loop.example/g01301/impl.apertureNames", laid_loop_example_g01301_impl_apertureNames), ("loop.example/g01301/impl.thirdMarks", laid_loop_example_g01301_impl_thirdMarks)] }
def FnSettingsSaid : Prop := fnSettingsRow.holds Tryd.pinned (OpenSpec.ofChange fnSettingsSpec)

/-- ITS FALSE NEIGHBOUR: 'it returns false'. Refute it at one input. -/
def fnSettingsWrong : ChangeSpec := { name := "fnSettings", vars := ["loop.example/g01301/impl.errInvalid", "loop.example/g01301/impl.errRange", "loop.example/g01301/impl.errLimit", "loop.example/g01301/impl.errSyntax", "loop.example/g01301/impl.errNotFound", "loop.example/g01301/impl.shutterNames", "loop.example/g01301/impl.thirdMarks", "loop.example/g01301/impl.apertureNames"], fn := fun _ => fun
  | [d1, d2, g1, g2, g3, g4, g5, g6, g7, g8] => { results := [.lit (.bool false)], args := [d1, d2], vars := [g1, g2, g3, g4, g5, g6, g7, g8] }
  | _ => none }
def FnSettingsWrongFalsely : Prop := fnSettingsRow.holds Tryd.pinned (OpenSpec.ofChange fnSettingsWrong)

/-- 'laws.FnLong': WHATEVER THE INPUT: true; the input reads as it did. -/
def fnLongSpec : ChangeSpec := { name := "fnLong", vars := ["loop.example/g01301/impl.errInvalid", "loop.example/g01301/impl.errRange", "loop.example/g01301/impl.errLimit", "loop.example/g01301/impl.errSyntax", "loop.example/g01301/impl.errNotFound", "loop.example/g01301/impl.stopTimes"], fn := fun _ => fun
  | [d1, d2, g1, g2, g3, g4, g5, g6] => { results := [.lit (.bool true)], args := [d1, d2], vars := [g1, g2, g3, g4, g5, g6] }
  | _ => none }
def fnLongRow : OpenClaim := { program := "ytjkcapeacdmhaaadoor", sum := "0a6f3e27ea3c20f199a5c0b05a34e85fc1229c2422a71922ac76092e427cbbd8", func := "loop.example/g01301/laws.FnLong", spec := "fnLong", inPlace := ["internal/reflectlite.TypeOf"], unfollowed := true, recurses := true, named := ["loop.example/g01301/impl.errInvalid", "loop.example/g01301/impl.errRange", "loop.example/g01301/impl.errLimit", "loop.example/g01301/impl.errSyntax", "loop.example/g01301/impl.errNotFound", "loop.example/g01301/impl.stopTimes"], ifaces := true, plainKeys := false, apart := false, laid := [("loop.example/g01301/impl.errInvalid", laid_loop_example_g01301_impl_errInvalid), ("loop.example/g01301/impl.errRange", laid_loop_example_g01301_impl_errRange), ("loop.example/g01301/impl.errLimit", laid_loop_example_g01301_impl_errLimit), ("loop.example/g01301/impl.errSyntax", laid_loop_example_g01301_impl_errSyntax), ("loop.example/g01301/impl.errNotFound", laid_loop_example_g01301_impl_errNotFound), ("loop.example/g01301/impl.stopTimes", laid_loop_example_g01301_impl_stopTimes)] }
def FnLongSaid : Prop := fnLongRow.holds Tryd.pinned (OpenSpec.ofChange fnLongSpec)

/-- ITS FALSE NEIGHBOUR: 'it returns false'. Refute it at one input. -/
def fnLongWrong : ChangeSpec := { name := "fnLong", vars := ["loop.example/g01301/impl.errInvalid", "loop.example/g01301/impl.errRange", "loop.example/g01301/impl.errLimit", "loop.example/g01301/impl.errSyntax", "loop.example/g01301/impl.errNotFound", "loop.example/g01301/impl.stopTimes"], fn := fun _ => fun
  | [d1, d2, g1, g2, g3, g4, g5, g6] => { results := [.lit (.bool false)], args := [d1, d2], vars := [g1, g2, g3, g4, g5, g6] }
  | _ => none }
def FnLongWrongFalsely : Prop := fnLongRow.holds Tryd.pinned (OpenSpec.ofChange fnLongWrong)

/-- 'laws.FnTimes': WHATEVER THE INPUT: true; the input reads as it did. -/
def fnTimesSpec : ChangeSpec := { name := "fnTimes", vars := ["loop.example/g01301/impl.errRange", "loop.example/g01301/impl.stopTimes", "loop.example/g01301/impl.errInvalid", "loop.example/g01301/impl.errLimit", "loop.example/g01301/impl.errSyntax", "loop.example/g01301/impl.errNotFound"], fn := fun _ => fun
  | [d1, d2, g1, g2, g3, g4, g5, g6] => { results := [.lit (.bool true)], args := [d1, d2], vars := [g1, g2, g3, g4, g5, g6] }
  | _ => none }
def fnTimesRow : OpenClaim := { program := "ytjkcapeacdmhaaadoor", sum := "0a6f3e27ea3c20f199a5c0b05a34e85fc1229c2422a71922ac76092e427cbbd8", func := "loop.example/g01301/laws.FnTimes", spec := "fnTimes", inPlace := ["internal/reflectlite.TypeOf"], unfollowed := true, recurses := true, named := ["loop.example/g01301/impl.errRange", "loop.example/g01301/impl.stopTimes", "loop.example/g01301/impl.errInvalid", "loop.example/g01301/impl.errLimit", "loop.example/g01301/impl.errSyntax", "loop.example/g01301/impl.errNotFound"], ifaces := true, plainKeys := false, apart := false, laid := [("loop.example/g01301/impl.errInvalid", laid_loop_example_g01301_impl_errInvalid), ("loop.example/g01301/impl.errRange", laid_loop_example_g01301_impl_errRange), ("loop.example/g01301/impl.errLimit", laid_loop_example_g01301_impl_errLimit), ("loop.example/g01301/impl.errSyntax", laid_loop_example_g01301_impl_errSyntax), ("loop.example/g01301/impl.errNotFound", laid_loop_example_g01301_impl_errNotFound), ("loop.example/g01301/impl.stopTimes", laid_loop_example_g01301_impl_stopTimes)] }
def FnTimesSaid : Prop := fnTimesRow.holds Tryd.pinned (OpenSpec.ofChange fnTimesSpec)

/-- ITS FALSE NEIGHBOUR: 'it returns false'. Refute it at one input. -/
def fnTimesWrong : ChangeSpec := { name := "fnTimes", vars := ["loop.example/g01301/impl.errRange", "loop.example/g01301/impl.stopTimes", "loop.example/g01301/impl.errInvalid", "loop.example/g01301/impl.errLimit", "loop.example/g01301/impl.errSyntax", "loop.example/g01301/impl.errNotFound"], fn := fun _ => fun
  | [d1, d2, g1, g2, g3, g4, g5, g6] => { results := [.lit (.bool false)], args := [d1, d2], vars := [g1, g2, g3, g4, g5, g6] }
  | _ => none }
def FnTimesWrongFalsely : Prop := fnTimesRow.holds Tryd.pinned (OpenSpec.ofChange fnTimesWrong)

/-- 'laws.FnExactCodeName': WHATEVER THE INPUT: true; the input reads as it did. -/
def fnExactCodeNameSpec : ChangeSpec := { name := "fnExactCodeName", vars := ["loop.example/g01301/impl.codeNames"], fn := fun _ => fun
  | [d, g1] => { results := [.lit (.bool true)], args := [d], vars := [g1] }
  | _ => none }
def fnExactCodeNameRow : OpenClaim := { program := "ytjkcapeacdmhaaadoor", sum := "0a6f3e27ea3c20f199a5c0b05a34e85fc1229c2422a71922ac76092e427cbbd8", func := "loop.example/g01301/laws.FnExactCodeName", spec := "fnExactCodeName", named := ["loop.example/g01301/impl.codeNames"], plainKeys := false, apart := false, laid := [("loop.example/g01301/impl.codeNames", laid_loop_example_g01301_impl_codeNames)] }
def FnExactCodeNameSaid : Prop := fnExactCodeNameRow.holds Tryd.pinned (OpenSpec.ofChange fnExactCodeNameSpec)

/-- ITS FALSE NEIGHBOUR: 'it returns false'. Refute it at one input. -/
def fnExactCodeNameWrong : ChangeSpec := { name := "fnExactCodeName", vars := ["loop.example/g01301/impl.codeNames"], fn := fun _ => fun
  | [d, g1] => { results := [.lit (.bool false)], args := [d], vars := [g1] }
  | _ => none }
def FnExactCodeNameWrongFalsely : Prop := fnExactCodeNameRow.holds Tryd.pinned (OpenSpec.ofChange fnExactCodeNameWrong)

/-- 'laws.FnExactShutterName': WHATEVER THE INPUT: true; the input reads as it did. -/
def fnExactShutterNameSpec : ChangeSpec := { name := "fnExactShutterName", vars := ["loop.example/g01301/impl.shutterNames", "loop.example/g01301/impl.thirdMarks"], fn := fun _ => fun
  | [d, g1, g2] => { results := [.lit (.bool true)], args := [d], vars := [g1, g2] }
  | _ => none }
def fnExactShutterNameRow : OpenClaim := { program := "ytjkcapeacdmhaaadoor", sum := "0a6f3e27ea3c20f199a5c0b05a34e85fc1229c2422a71922ac76092e427cbbd8", func := "loop.example/g01301/laws.FnExactShutterName", spec := "fnExactShutterName", recurses := true, named := ["loop.example/g01301/impl.shutterNames", "loop.example/g01301/impl.thirdMarks"], plainKeys := false, apart := false, laid := [("loop.example/g01301/impl.shutterNames", laid_loop_example_g01301_impl_shutterNames), ("loop.example/g01301/impl.thirdMarks", laid_loop_example_g01301_impl_thirdMarks)] }
def FnExactShutterNameSaid : Prop := fnExactShutterNameRow.holds Tryd.pinned (OpenSpec.ofChange fnExactShutterNameSpec)

/-- ITS FALSE NEIGHBOUR: 'it returns false'. Refute it at one input. -/
def fnExactShutterNameWrong : ChangeSpec := { name := "fnExactShutterName", vars := ["loop.example/g01301/impl.shutterNames", "loop.example/g01301/impl.thirdMarks"], fn := fun _ => fun
  | [d, g1, g2] => { results := [.lit (.bool false)], args := [d], vars := [g1, g2] }
  | _ => none }
def FnExactShutterNameWrongFalsely : Prop := fnExactShutterNameRow.holds Tryd.pinned (OpenSpec.ofChange fnExactShutterNameWrong)

/-- 'laws.FnExactApertureName': WHATEVER THE INPUT: true; the input reads as it did. -/
def fnExactApertureNameSpec : ChangeSpec := { name := "fnExactApertureName", vars := ["loop.example/g01301/impl.apertureNames", "loop.example/g01301/impl.thirdMarks"], fn := fun _ => fun
  | [d, g1, g2] => { results := [.lit (.bool true)], args := [d], vars := [g1, g2] }
  | _ => none }
def fnExactApertureNameRow : OpenClaim := { program := "ytjkcapeacdmhaaadoor", sum := "0a6f3e27ea3c20f199a5c0b05a34e85fc1229c2422a71922ac76092e427cbbd8", func := "loop.example/g01301/laws.FnExactApertureName", spec := "fnExactApertureName", recurses := true, named := ["loop.example/g01301/impl.apertureNames", "loop.example/g01301/impl.thirdMarks"], plainKeys := false, apart := false, laid := [("loop.example/g01301/impl.apertureNames", laid_loop_example_g01301_impl_apertureNames), ("loop.example/g01301/impl.thirdMarks", laid_loop_example_g01301_impl_thirdMarks)] }
def FnExactApertureNameSaid : Prop := fnExactApertureNameRow.holds Tryd.pinned (OpenSpec.ofChange fnExactApertureNameSpec)

/-- ITS FALSE NEIGHBOUR: 'it returns false'. Refute it at one input. -/
def fnExactApertureNameWrong : ChangeSpec := { name := "fnExactApertureName", vars := ["loop.example/g01301/impl.apertureNames", "loop.example/g01301/impl.thirdMarks"], fn := fun _ => fun
  | [d, g1, g2] => { results := [.lit (.bool false)], args := [d], vars := [g1, g2] }
  | _ => none }
def FnExactApertureNameWrongFalsely : Prop := fnExactApertureNameRow.holds Tryd.pinned (OpenSpec.ofChange fnExactApertureNameWrong)

/-- 'laws.FnExactValueOf': WHATEVER THE INPUT: true; the input reads as it did. -/
def fnExactValueOfSpec : ChangeSpec := { name := "fnExactValueOf", vars := ["loop.example/g01301/impl.errInvalid", "loop.example/g01301/impl.errRange", "loop.example/g01301/impl.errLimit", "loop.example/g01301/impl.errSyntax", "loop.example/g01301/impl.errNotFound"], fn := fun _ => fun
  | [d, g1, g2, g3, g4, g5] => { results := [.lit (.bool true)], args := [d], vars := [g1, g2, g3, g4, g5] }
  | _ => none }
def fnExactValueOfRow : OpenClaim := { program := "ytjkcapeacdmhaaadoor", sum := "0a6f3e27ea3c20f199a5c0b05a34e85fc1229c2422a71922ac76092e427cbbd8", func := "loop.example/g01301/laws.FnExactValueOf", spec := "fnExactValueOf", inPlace := ["internal/reflectlite.TypeOf"], unfollowed := true, recurses := true, named := ["loop.example/g01301/impl.errInvalid", "loop.example/g01301/impl.errRange", "loop.example/g01301/impl.errLimit", "loop.example/g01301/impl.errSyntax", "loop.example/g01301/impl.errNotFound"], ifaces := true, plainKeys := false, apart := false, laid := [("loop.example/g01301/impl.errInvalid", laid_loop_example_g01301_impl_errInvalid), ("loop.example/g01301/impl.errRange", laid_loop_example_g01301_impl_errRange), ("loop.example/g01301/impl.errLimit", laid_loop_example_g01301_impl_errLimit), ("loop.example/g01301/impl.errSyntax", laid_loop_example_g01301_impl_errSyntax), ("loop.example/g01301/impl.errNotFound", laid_loop_example_g01301_impl_errNotFound)] }
def FnExactValueOfSaid : Prop := fnExactValueOfRow.holds Tryd.pinned (OpenSpec.ofChange fnExactValueOfSpec)

/-- ITS FALSE NEIGHBOUR: 'it returns false'. Refute it at one input. -/
def fnExactValueOfWrong : ChangeSpec := { name := "fnExactValueOf", vars := ["loop.example/g01301/impl.errInvalid", "loop.example/g01301/impl.errRange", "loop.example/g01301/impl.errLimit", "loop.example/g01301/impl.errSyntax", "loop.example/g01301/impl.errNotFound"], fn := fun _ => fun
  | [d, g1, g2, g3, g4, g5] => { results := [.lit (.bool false)], args := [d], vars := [g1, g2, g3, g4, g5] }
  | _ => none }
def FnExactValueOfWrongFalsely : Prop := fnExactValueOfRow.holds Tryd.pinned (OpenSpec.ofChange fnExactValueOfWrong)

/-- 'laws.FnExactMoreLight': WHATEVER THE INPUT: true; the input reads as it did. -/
def fnExactMoreLightSpec : ChangeSpec := { name := "fnExactMoreLight", vars := ["loop.example/g01301/impl.errInvalid", "loop.example/g01301/impl.errRange", "loop.example/g01301/impl.errNotFound", "loop.example/g01301/impl.errLimit", "loop.example/g01301/impl.errSyntax"], fn := fun _ => fun
  | [d1, d2, g1, g2, g3, g4, g5] => { results := [.lit (.bool true)], args := [d1, d2], vars := [g1, g2, g3, g4, g5] }
  | _ => none }
def fnExactMoreLightRow : OpenClaim := { program := "ytjkcapeacdmhaaadoor", sum := "0a6f3e27ea3c20f199a5c0b05a34e85fc1229c2422a71922ac76092e427cbbd8", func := "loop.example/g01301/laws.FnExactMoreLight", spec := "fnExactMoreLight", inPlace := ["internal/reflectlite.TypeOf"], unfollowed := true, recurses := true, named := ["loop.example/g01301/impl.errInvalid", "loop.example/g01301/impl.errRange", "loop.example/g01301/impl.errNotFound", "loop.example/g01301/impl.errLimit", "loop.example/g01301/impl.errSyntax"], ifaces := true, plainKeys := false, apart := false, laid := [("loop.example/g01301/impl.errInvalid", laid_loop_example_g01301_impl_errInvalid), ("loop.example/g01301/impl.errRange", laid_loop_example_g01301_impl_errRange), ("loop.example/g01301/impl.errLimit", laid_loop_example_g01301_impl_errLimit), ("loop.example/g01301/impl.errSyntax", laid_loop_example_g01301_impl_errSyntax), ("loop.example/g01301/impl.errNotFound", laid_loop_example_g01301_impl_errNotFound)] }
def FnExactMoreLightSaid : Prop := fnExactMoreLightRow.holds Tryd.pinned (OpenSpec.ofChange fnExactMoreLightSpec)

/-- ITS FALSE NEIGHBOUR: 'it returns false'. Refute it at one input. -/
def fnExactMoreLightWrong : ChangeSpec := { name := "fnExactMoreLight", vars := ["loop.example/g01301/impl.errInvalid", "loop.example/g01301/impl.errRange", "loop.example/g01301/impl.errNotFound", "loop.example/g01301/impl.errLimit", "loop.example/g01301/impl.errSyntax"], fn := fun _ => fun
  | [d1, d2, g1, g2, g3, g4, g5] => { results := [.lit (.bool false)], args := [d1, d2], vars := [g1, g2, g3, g4, g5] }
  | _ => none }
def FnExactMoreLightWrongFalsely : Prop := fnExactMoreLightRow.holds Tryd.pinned (OpenSpec.ofChange fnExactMoreLightWrong)

/-- 'laws.FnExactSettingsFor': WHATEVER THE INPUT: true; the input reads as it did. -/
def fnExactSettingsForSpec : ChangeSpec := { name := "fnExactSettingsFor", vars := ["loop.example/g01301/impl.errRange", "loop.example/g01301/impl.errNotFound", "loop.example/g01301/impl.errInvalid", "loop.example/g01301/impl.errLimit", "loop.example/g01301/impl.errSyntax"], fn := fun _ => fun
  | [d1, d2, g1, g2, g3, g4, g5] => { results := [.lit (.bool true)], args := [d1, d2], vars := [g1, g2, g3, g4, g5] }
  | _ => none }
def fnExactSettingsForRow : OpenClaim := { program := "ytjkcapeacdmhaaadoor", sum := "0a6f3e27ea3c20f199a5c0b05a34e85fc1229c2422a71922ac76092e427cbbd8", func := "loop.example/g01301/laws.FnExactSettingsFor", spec := "fnExactSettingsFor", inPlace := ["internal/reflectlite.TypeOf"], unfollowed := true, recurses := true, named := ["loop.example/g01301/impl.errRange", "loop.example/g01301/impl.errNotFound", "loop.example/g01301/impl.errInvalid", "loop.example/g01301/impl.errLimit", "loop.example/g01301/impl.errSyntax"], ifaces := true, plainKeys := false, apart := false, laid := [("loop.example/g01301/impl.errInvalid", laid_loop_example_g01301_impl_errInvalid), ("loop.example/g01301/impl.errRange", laid_loop_example_g01301_impl_errRange), ("loop.example/g01301/impl.errLimit", laid_loop_example_g01301_impl_errLimit), ("loop.example/g01301/impl.errSyntax", laid_loop_example_g01301_impl_errSyntax), ("loop.example/g01301/impl.errNotFound", laid_loop_example_g01301_impl_errNotFound)] }
def FnExactSettingsForSaid : Prop := fnExactSettingsForRow.holds Tryd.pinned (OpenSpec.ofChange fnExactSettingsForSpec)

/-- ITS FALSE NEIGHBOUR: 'it returns false'. Refute it at one input. -/
def fnExactSettingsForWrong : ChangeSpec := { name := "fnExactSettingsFor", vars := ["loop.example/g01301/impl.errRange", "loop.example/g01301/impl.errNotFound", "loop.example/g01301/impl.errInvalid", "loop.example/g01301/impl.errLimit", "loop.example/g01301/impl.errSyntax"], fn := fun _ => fun
  | [d1, d2, g1, g2, g3, g4, g5] => { results := [.lit (.bool false)], args := [d1, d2], vars := [g1, g2, g3, g4, g5] }
  | _ => none }
def FnExactSettingsForWrongFalsely : Prop := fnExactSettingsForRow.holds Tryd.pinned (OpenSpec.ofChange fnExactSettingsForWrong)

/-- 'laws.FnExactNearestSettings': WHATEVER THE INPUT: true; the input reads as it did. -/
def fnExactNearestSettingsSpec : ChangeSpec := { name := "fnExactNearestSettings", vars := ["loop.example/g01301/impl.errRange", "loop.example/g01301/impl.errInvalid", "loop.example/g01301/impl.errLimit", "loop.example/g01301/impl.errSyntax", "loop.example/g01301/impl.errNotFound"], fn := fun _ => fun
  | [d1, d2, g1, g2, g3, g4, g5] => { results := [.lit (.bool true)], args := [d1, d2], vars := [g1, g2, g3, g4, g5] }
  | _ => none }
def fnExactNearestSettingsRow : OpenClaim := { program := "ytjkcapeacdmhaaadoor", sum := "0a6f3e27ea3c20f199a5c0b05a34e85fc1229c2422a71922ac76092e427cbbd8", func := "loop.example/g01301/laws.FnExactNearestSettings", spec := "fnExactNearestSettings", inPlace := ["internal/reflectlite.TypeOf"], unfollowed := true, recurses := true, named := ["loop.example/g01301/impl.errRange", "loop.example/g01301/impl.errInvalid", "loop.example/g01301/impl.errLimit", "loop.example/g01301/impl.errSyntax", "loop.example/g01301/impl.errNotFound"], ifaces := true, plainKeys := false, apart := false, laid := [("loop.example/g01301/impl.errInvalid", laid_loop_example_g01301_impl_errInvalid), ("loop.example/g01301/impl.errRange", laid_loop_example_g01301_impl_errRange), ("loop.example/g01301/impl.errLimit", laid_loop_example_g01301_impl_errLimit), ("loop.example/g01301/impl.errSyntax", laid_loop_example_g01301_impl_errSyntax), ("loop.example/g01301/impl.errNotFound", laid_loop_example_g01301_impl_errNotFound)] }
def FnExactNearestSettingsSaid : Prop := fnExactNearestSettingsRow.holds Tryd.pinned (OpenSpec.ofChange fnExactNearestSettingsSpec)

/-- ITS FALSE NEIGHBOUR: 'it returns false'. Refute it at one input. -/
def fnExactNearestSettingsWrong : ChangeSpec := { name := "fnExactNearestSettings", vars := ["loop.example/g01301/impl.errRange", "loop.example/g01301/impl.errInvalid", "loop.example/g01301/impl.errLimit", "loop.example/g01301/impl.errSyntax", "loop.example/g01301/impl.errNotFound"], fn := fun _ => fun
  | [d1, d2, g1, g2, g3, g4, g5] => { results := [.lit (.bool false)], args := [d1, d2], vars := [g1, g2, g3, g4, g5] }
  | _ => none }
def FnExactNearestSettingsWrongFalsely : Prop := fnExactNearestSettingsRow.holds Tryd.pinned (OpenSpec.ofChange fnExactNearestSettingsWrong)

/-- 'laws.FnExactBracketOf': WHATEVER THE INPUT: true; the input reads as it did. -/
def fnExactBracketOfSpec : ChangeSpec := { name := "fnExactBracketOf", vars := ["loop.example/g01301/impl.errInvalid", "loop.example/g01301/impl.errRange", "loop.example/g01301/impl.errNotFound", "loop.example/g01301/impl.errLimit", "loop.example/g01301/impl.errSyntax"], fn := fun _ => fun
  | [d1, d2, d3, g1, g2, g3, g4, g5] => { results := [.lit (.bool true)], args := [d1, d2, d3], vars := [g1, g2, g3, g4, g5] }
  | _ => none }
def fnExactBracketOfRow : OpenClaim := { program := "ytjkcapeacdmhaaadoor", sum := "0a6f3e27ea3c20f199a5c0b05a34e85fc1229c2422a71922ac76092e427cbbd8", func := "loop.example/g01301/laws.FnExactBracketOf", spec := "fnExactBracketOf", inPlace := ["internal/reflectlite.TypeOf"], unfollowed := true, recurses := true, named := ["loop.example/g01301/impl.errInvalid", "loop.example/g01301/impl.errRange", "loop.example/g01301/impl.errNotFound", "loop.example/g01301/impl.errLimit", "loop.example/g01301/impl.errSyntax"], ifaces := true, plainKeys := false, apart := false, laid := [("loop.example/g01301/impl.errInvalid", laid_loop_example_g01301_impl_errInvalid), ("loop.example/g01301/impl.errRange", laid_loop_example_g01301_impl_errRange), ("loop.example/g01301/impl.errLimit", laid_loop_example_g01301_impl_errLimit), ("loop.example/g01301/impl.errSyntax", laid_loop_example_g01301_impl_errSyntax), ("loop.example/g01301/impl.errNotFound", laid_loop_example_g01301_impl_errNotFound)] }
def FnExactBracketOfSaid : Prop := fnExactBracketOfRow.holds Tryd.pinned (OpenSpec.ofChange fnExactBracketOfSpec)

/-- ITS FALSE NEIGHBOUR: 'it returns false'. Refute it at one input. -/
def fnExactBracketOfWrong : ChangeSpec := { name := "fnExactBracketOf", vars := ["loop.example/g01301/impl.errInvalid", "loop.example/g01301/impl.errRange", "loop.example/g01301/impl.errNotFound", "loop.example/g01301/impl.errLimit", "loop.example/g01301/impl.errSyntax"], fn := fun _ => fun
  | [d1, d2, d3, g1, g2, g3, g4, g5] => { results := [.lit (.bool false)], args := [d1, d2, d3], vars := [g1, g2, g3, g4, g5] }
  | _ => none }
def FnExactBracketOfWrongFalsely : Prop := fnExactBracketOfRow.holds Tryd.pinned (OpenSpec.ofChange fnExactBracketOfWrong)

/- THE SECOND FORM. 'bulk': how many values and letters a reading holds, each counted each time it is reached (what is shared counts as often as it is met; a slice's spare places count too). A statement '..UptoSaid' is the law's where the arguments, and the package variables that the reading takes, are together of bulk at most 1048576: NARROWER than '..Said'. Prove '..Said' where nothing that the law and all that it calls make is longer than what came in: it says more and counts as full. Else prove '..UptoSaid'. A law counts once. -/
mutual
def uptoBulk {H : Type} : DataW H → Nat
  | .lit (.string bytes) => bytes.length + 1
  | .lit _ => 1
  | .nil => 1
  | .ptr d => uptoBulk d + 1
  | .slice elems spare => uptoBulkAll elems + uptoBulkAll spare + 1
  | .agg parts => uptoBulkAll parts + 1
  | .iface _ d => uptoBulk d + 1
  | .map entries => uptoBulkEntries entries + 1
  | .held _ => 1
def uptoBulkAll {H : Type} : List (DataW H) → Nat
  | [] => 0
  | d :: r => uptoBulk d + uptoBulkAll r
def uptoBulkEntries {H : Type} : List (Lit × DataW H) → Nat
  | [] => 0
  | x :: r => uptoBulkEntry x + uptoBulkEntries r
def uptoBulkEntry {H : Type} : Lit × DataW H → Nat
  | (.string bytes, d) => bytes.length + uptoBulk d + 1
  | (_, d) => uptoBulk d + 1
 end
def uptoSmall : (H : Type) → List (DataW H) → Bool := fun _ ds => decide (uptoBulkAll ds ≤ 1048576)
def OpenSpec.upto (s : _root_.Go.ChangeSpec) : _root_.Go.OpenSpec := { _root_.Go.OpenSpec.ofChange s with cond := some uptoSmall }

/-- 'laws.FnSettings', WHERE WHAT IT READS IS OF BULK AT MOST 1048576: true; the input reads as it did. -/
def fnSettingsUptoRow : OpenClaim := { program := "ytjkcapeacdmhaaadoor", sum := "0a6f3e27ea3c20f199a5c0b05a34e85fc1229c2422a71922ac76092e427cbbd8", func := "loop.example/g01301/laws.FnSettings", spec := "fnSettings", inPlace := ["internal/reflectlite.TypeOf", "internal/bytealg.IndexByteString", "internal/bytealg.IndexString"], unfollowed := true, recurses := true, named := ["loop.example/g01301/impl.errInvalid", "loop.example/g01301/impl.errRange", "loop.example/g01301/impl.errLimit", "loop.example/g01301/impl.errSyntax", "loop.example/g01301/impl.errNotFound", "loop.example/g01301/impl.shutterNames", "loop.example/g01301/impl.thirdMarks", "loop.example/g01301/impl.apertureNames", "internal/strconv.uint64pow10", "math/bits.deBruijn32tab", "math/bits.deBruijn64tab", "internal/bytealg.MaxLen"], ifaces := true, plainKeys := false, apart := false, laid := [("math/bits.deBruijn32tab", laid_math_bits_deBruijn32tab), ("math/bits.deBruijn64tab", laid_math_bits_deBruijn64tab), ("internal/strconv.uint64pow10", laid_internal_strconv_uint64pow10), ("loop.example/g01301/impl.errInvalid", laid_loop_example_g01301_impl_errInvalid), ("loop.example/g01301/impl.errRange", laid_loop_example_g01301_impl_errRange), ("loop.example/g01301/impl.errLimit", laid_loop_example_g01301_impl_errLimit), ("loop.example/g01301/impl.errSyntax", laid_loop_example_g01301_impl_errSyntax), ("loop.example/g01301/impl.errNotFound", laid_loop_example_g01301_impl_errNotFound), ("loop.example/g01301/impl.shutterNames", laid_loop_example_g01301_impl_shutterNames), ("loop.example/g01301/impl.apertureNames", laid_loop_example_g01301_impl_apertureNames), ("loop.example/g01301/impl.thirdMarks", laid_loop_example_g01301_impl_thirdMarks)], narrowed := true }
def FnSettingsUptoSaid : Prop := fnSettingsUptoRow.holds Tryd.pinned (OpenSpec.upto fnSettingsSpec)

/-- 'laws.FnLong', WHERE WHAT IT READS IS OF BULK AT MOST 1048576: true; the input reads as it did. -/
def fnLongUptoRow : OpenClaim := { program := "ytjkcapeacdmhaaadoor", sum := "0a6f3e27ea3c20f199a5c0b05a34e85fc1229c2422a71922ac76092e427cbbd8", func := "loop.example/g01301/laws.FnLong", spec := "fnLong", inPlace := ["internal/reflectlite.TypeOf"], unfollowed := true, recurses := true, named := ["loop.example/g01301/impl.errInvalid", "loop.example/g01301/impl.errRange", "loop.example/g01301/impl.errLimit", "loop.example/g01301/impl.errSyntax", "loop.example/g01301/impl.errNotFound", "loop.example/g01301/impl.stopTimes"], ifaces := true, plainKeys := false, apart := false, laid := [("loop.example/g01301/impl.errInvalid", laid_loop_example_g01301_impl_errInvalid), ("loop.example/g01301/impl.errRange", laid_loop_example_g01301_impl_errRange), ("loop.example/g01301/impl.errLimit", laid_loop_example_g01301_impl_errLimit), ("loop.example/g01301/impl.errSyntax", laid_loop_example_g01301_impl_errSyntax), ("loop.example/g01301/impl.errNotFound", laid_loop_example_g01301_impl_errNotFound), ("loop.example/g01301/impl.stopTimes", laid_loop_example_g01301_impl_stopTimes)], narrowed := true }
def FnLongUptoSaid : Prop := fnLongUptoRow.holds Tryd.pinned (OpenSpec.upto fnLongSpec)

/-- 'laws.FnTimes', WHERE WHAT IT READS IS OF BULK AT MOST 1048576: true; the input reads as it did. -/
def fnTimesUptoRow : OpenClaim := { program := "ytjkcapeacdmhaaadoor", sum := "0a6f3e27ea3c20f199a5c0b05a34e85fc1229c2422a71922ac76092e427cbbd8", func := "loop.example/g01301/laws.FnTimes", spec := "fnTimes", inPlace := ["internal/reflectlite.TypeOf"], unfollowed := true, recurses := true, named := ["loop.example/g01301/impl.errRange", "loop.example/g01301/impl.stopTimes", "loop.example/g01301/impl.errInvalid", "loop.example/g01301/impl.errLimit", "loop.example/g01301/impl.errSyntax", "loop.example/g01301/impl.errNotFound"], ifaces := true, plainKeys := false, apart := false, laid := [("loop.example/g01301/impl.errInvalid", laid_loop_example_g01301_impl_errInvalid), ("loop.example/g01301/impl.errRange", laid_loop_example_g01301_impl_errRange), ("loop.example/g01301/impl.errLimit", laid_loop_example_g01301_impl_errLimit), ("loop.example/g01301/impl.errSyntax", laid_loop_example_g01301_impl_errSyntax), ("loop.example/g01301/impl.errNotFound", laid_loop_example_g01301_impl_errNotFound), ("loop.example/g01301/impl.stopTimes", laid_loop_example_g01301_impl_stopTimes)], narrowed := true }
def FnTimesUptoSaid : Prop := fnTimesUptoRow.holds Tryd.pinned (OpenSpec.upto fnTimesSpec)

/-- 'laws.FnExactCodeName', WHERE WHAT IT READS IS OF BULK AT MOST 1048576: true; the input reads as it did. -/
def fnExactCodeNameUptoRow : OpenClaim := { program := "ytjkcapeacdmhaaadoor", sum := "0a6f3e27ea3c20f199a5c0b05a34e85fc1229c2422a71922ac76092e427cbbd8", func := "loop.example/g01301/laws.FnExactCodeName", spec := "fnExactCodeName", named := ["loop.example/g01301/impl.codeNames"], plainKeys := false, apart := false, laid := [("loop.example/g01301/impl.codeNames", laid_loop_example_g01301_impl_codeNames)], narrowed := true }
def FnExactCodeNameUptoSaid : Prop := fnExactCodeNameUptoRow.holds Tryd.pinned (OpenSpec.upto fnExactCodeNameSpec)

/-- 'laws.FnExactShutterName', WHERE WHAT IT READS IS OF BULK AT MOST 1048576: true; the input reads as it did. -/
def fnExactShutterNameUptoRow : OpenClaim := { program := "ytjkcapeacdmhaaadoor", sum := "0a6f3e27ea3c20f199a5c0b05a34e85fc1229c2422a71922ac76092e427cbbd8", func := "loop.example/g01301/laws.FnExactShutterName", spec := "fnExactShutterName", recurses := true, named := ["loop.example/g01301/impl.shutterNames", "loop.example/g01301/impl.thirdMarks"], plainKeys := false, apart := false, laid := [("loop.example/g01301/impl.shutterNames", laid_loop_example_g01301_impl_shutterNames), ("loop.example/g01301/impl.thirdMarks", laid_loop_example_g01301_impl_thirdMarks)], narrowed := true }
def FnExactShutterNameUptoSaid : Prop := fnExactShutterNameUptoRow.holds Tryd.pinned (OpenSpec.upto fnExactShutterNameSpec)

/-- 'laws.FnExactApertureName', WHERE WHAT IT READS IS OF BULK AT MOST 1048576: true; the input reads as it did. -/
def fnExactApertureNameUptoRow : OpenClaim := { program := "ytjkcapeacdmhaaadoor", sum := "0a6f3e27ea3c20f199a5c0b05a34e85fc1229c2422a71922ac76092e427cbbd8", func := "loop.example/g01301/laws.FnExactApertureName", spec := "fnExactApertureName", recurses := true, named := ["loop.example/g01301/impl.apertureNames", "loop.example/g01301/impl.thirdMarks"], plainKeys := false, apart := false, laid := [("loop.example/g01301/impl.apertureNames", laid_loop_example_g01301_impl_apertureNames), ("loop.example/g01301/impl.thirdMarks", laid_loop_example_g01301_impl_thirdMarks)], narrowed := true }
def FnExactApertureNameUptoSaid : Prop := fnExactApertureNameUptoRow.holds Tryd.pinned (OpenSpec.upto fnExactApertureNameSpec)

/-- 'laws.FnExactValueOf', WHERE WHAT IT READS IS OF BULK AT MOST 1048576: true; the input reads as it did. -/
def fnExactValueOfUptoRow : OpenClaim := { program := "ytjkcapeacdmhaaadoor", sum := "0a6f3e27ea3c20f199a5c0b05a34e85fc1229c2422a71922ac76092e427cbbd8", func := "loop.example/g01301/laws.FnExactValueOf", spec := "fnExactValueOf", inPlace := ["internal/reflectlite.TypeOf"], unfollowed := true, recurses := true, named := ["loop.example/g01301/impl.errInvalid", "loop.example/g01301/impl.errRange", "loop.example/g01301/impl.errLimit", "loop.example/g01301/impl.errSyntax", "loop.example/g01301/impl.errNotFound"], ifaces := true, plainKeys := false, apart := false, laid := [("loop.example/g01301/impl.errInvalid", laid_loop_example_g01301_impl_errInvalid), ("loop.example/g01301/impl.errRange", laid_loop_example_g01301_impl_errRange), ("loop.example/g01301/impl.errLimit", laid_loop_example_g01301_impl_errLimit), ("loop.example/g01301/impl.errSyntax", laid_loop_example_g01301_impl_errSyntax), ("loop.example/g01301/impl.errNotFound", laid_loop_example_g01301_impl_errNotFound)], narrowed := true }
def FnExactValueOfUptoSaid : Prop := fnExactValueOfUptoRow.holds Tryd.pinned (OpenSpec.upto fnExactValueOfSpec)

/-- 'laws.FnExactMoreLight', WHERE WHAT IT READS IS OF BULK AT MOST 1048576: true; the input reads as it did. -/
def fnExactMoreLightUptoRow : OpenClaim := { program := "ytjkcapeacdmhaaadoor", sum := "0a6f3e27ea3c20f199a5c0b05a34e85fc1229c2422a71922ac76092e427cbbd8", func := "loop.example/g01301/laws.FnExactMoreLight", spec := "fnExactMoreLight", inPlace := ["internal/reflectlite.TypeOf"], unfollowed := true, recurses := true, named := ["loop.example/g01301/impl.errInvalid", "loop.example/g01301/impl.errRange", "loop.example/g01301/impl.errNotFound", "loop.example/g01301/impl.errLimit", "loop.example/g01301/impl.errSyntax"], ifaces := true, plainKeys := false, apart := false, laid := [("loop.example/g01301/impl.errInvalid", laid_loop_example_g01301_impl_errInvalid), ("loop.example/g01301/impl.errRange", laid_loop_example_g01301_impl_errRange), ("loop.example/g01301/impl.errLimit", laid_loop_example_g01301_impl_errLimit), ("loop.example/g01301/impl.errSyntax", laid_loop_example_g01301_impl_errSyntax), ("loop.example/g01301/impl.errNotFound", laid_loop_example_g01301_impl_errNotFound)], narrowed := true }
def FnExactMoreLightUptoSaid : Prop := fnExactMoreLightUptoRow.holds Tryd.pinned (OpenSpec.upto fnExactMoreLightSpec)

/-- 'laws.FnExactSettingsFor', WHERE WHAT IT READS IS OF BULK AT MOST 1048576: true; the input reads as it did. -/
def fnExactSettingsForUptoRow : OpenClaim := { program := "ytjkcapeacdmhaaadoor", sum := "0a6f3e27ea3c20f199a5c0b05a34e85fc1229c2422a71922ac76092e427cbbd8", func := "loop.example/g01301/laws.FnExactSettingsFor", spec := "fnExactSettingsFor", inPlace := ["internal/reflectlite.TypeOf"], unfollowed := true, recurses := true, named := ["loop.example/g01301/impl.errRange", "loop.example/g01301/impl.errNotFound", "loop.example/g01301/impl.errInvalid", "loop.example/g01301/impl.errLimit", "loop.example/g01301/impl.errSyntax"], ifaces := true, plainKeys := false, apart := false, laid := [("loop.example/g01301/impl.errInvalid", laid_loop_example_g01301_impl_errInvalid), ("loop.example/g01301/impl.errRange", laid_loop_example_g01301_impl_errRange), ("loop.example/g01301/impl.errLimit", laid_loop_example_g01301_impl_errLimit), ("loop.example/g01301/impl.errSyntax", laid_loop_example_g01301_impl_errSyntax), ("loop.example/g01301/impl.errNotFound", laid_loop_example_g01301_impl_errNotFound)], narrowed := true }
def FnExactSettingsForUptoSaid : Prop := fnExactSettingsForUptoRow.holds Tryd.pinned (OpenSpec.upto fnExactSettingsForSpec)

/-- 'laws.FnExactNearestSettings', WHERE WHAT IT READS IS OF BULK AT MOST 1048576: true; the input reads as it did. -/
def fnExactNearestSettingsUptoRow : OpenClaim := { program := "ytjkcapeacdmhaaadoor", sum := "0a6f3e27ea3c20f199a5c0b05a34e85fc1229c2422a71922ac76092e427cbbd8", func := "loop.example/g01301/laws.FnExactNearestSettings", spec := "fnExactNearestSettings", inPlace := ["internal/reflectlite.TypeOf"], unfollowed := true, recurses := true, named := ["loop.example/g01301/impl.errRange", "loop.example/g01301/impl.errInvalid", "loop.example/g01301/impl.errLimit", "loop.example/g01301/impl.errSyntax", "loop.example/g01301/impl.errNotFound"], ifaces := true, plainKeys := false, apart := false, laid := [("loop.example/g01301/impl.errInvalid", laid_loop_example_g01301_impl_errInvalid), ("loop.example/g01301/impl.errRange", laid_loop_example_g01301_impl_errRange), ("loop.example/g01301/impl.errLimit", laid_loop_example_g01301_impl_errLimit), ("loop.example/g01301/impl.errSyntax", laid_loop_example_g01301_impl_errSyntax), ("loop.example/g01301/impl.errNotFound", laid_loop_example_g01301_impl_errNotFound)], narrowed := true }
def FnExactNearestSettingsUptoSaid : Prop := fnExactNearestSettingsUptoRow.holds Tryd.pinned (OpenSpec.upto fnExactNearestSettingsSpec)

/-- 'laws.FnExactBracketOf', WHERE WHAT IT READS IS OF BULK AT MOST 1048576: true; the input reads as it did. -/
def fnExactBracketOfUptoRow : OpenClaim := { program := "ytjkcapeacdmhaaadoor", sum := "0a6f3e27ea3c20f199a5c0b05a34e85fc1229c2422a71922ac76092e427cbbd8", func := "loop.example/g01301/laws.FnExactBracketOf", spec := "fnExactBracketOf", inPlace := ["internal/reflectlite.TypeOf"], unfollowed := true, recurses := true, named := ["loop.example/g01301/impl.errInvalid", "loop.example/g01301/impl.errRange", "loop.example/g01301/impl.errNotFound", "loop.example/g01301/impl.errLimit", "loop.example/g01301/impl.errSyntax"], ifaces := true, plainKeys := false, apart := false, laid := [("loop.example/g01301/impl.errInvalid", laid_loop_example_g01301_impl_errInvalid), ("loop.example/g01301/impl.errRange", laid_loop_example_g01301_impl_errRange), ("loop.example/g01301/impl.errLimit", laid_loop_example_g01301_impl_errLimit), ("loop.example/g01301/impl.errSyntax", laid_loop_example_g01301_impl_errSyntax), ("loop.example/g01301/impl.errNotFound", laid_loop_example_g01301_impl_errNotFound)], narrowed := true }
def FnExactBracketOfUptoSaid : Prop := fnExactBracketOfUptoRow.holds Tryd.pinned (OpenSpec.upto fnExactBracketOfSpec)

end Rows
end Go.Proofs.YtjkcapeacdmhaaaDoor
