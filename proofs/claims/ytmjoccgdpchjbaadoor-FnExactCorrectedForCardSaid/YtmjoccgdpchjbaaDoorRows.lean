/-
  NARROWER THAN 'FOR EVERY INPUT', by the rows' own cells (each row's printed sentence says how): FnExactCodeName: laid · FnExactShutterName: laid · FnExactApertureName: laid · FnExactValueOf: ifaces, laid · FnExactMoreLight: ifaces, laid · FnExactBracketOf: ifaces, laid · FnExactFactorThirds: ifaces, laid · FnExactWithFilters: ifaces, laid · FnExactExtraFor: ifaces, laid · FnExactCorrectedFor: ifaces, laid.
  DERIVED. THE GIVEN ROWS OF THIS SEAT. 10 by the template 'for every input the law returns true; each argument reads behind the call as it read before'; 0 by the template 'total and deterministic' (their statements: YtmjoccgdpchjbaaDoorTotals.lean).
  GIVEN WITH THE SEED: the statements are not yours to turn. If you find one false, say at which input.
  Laid BY PROGRAM, IN A SANDBOX (cutbox-rows.mjs): the forced cells as the released guide's own fill.sh prints them over the translation a96e6d170b2f17bf… (all of the seat's roots in one cut). By AI agents, Wed Nov 11 2026. No macro, syntax, notation, axiom, sorry.
-/
import Derived.Test.YtmjoccgdpchjbaaDoorChecked
import GoSem.Claim
import GoSem.ClaimJoined
import GoSem.ClaimMapViews
import Derived.JoinedTies
import Derived.KernelRfl
namespace Go.Proofs.YtmjoccgdpchjbaaDoor
/- THE CELL 'sum', in the pinned program and in every row, IS THE sha256 OF THE DUMP (.gsa) THAT YtmjoccgdpchjbaaDoorProg.lean LOADS. Nothing in Lean hashes anything: it is a label: what it is worth is what the hold of that sum in a sandbox is worth. -/
noncomputable def Tryd.pinned : Pinned := { name := "ytmjoccgdpchjbaadoor", sum := "a96e6d170b2f17bf35a6968053da5b57c8b23ee0ff0fabeadc29eb5df3b76177", checked := Tryd.checked }
namespace Rows
def none {H : Type} : Left H := { results := [], args := [] }

/- WHAT THE LISTED PACKAGE-LEVEL VARIABLES READ AS WHEN THE CALL BEGINS. Each datum BY PROGRAM (the guide's laid-datum.mjs) off the statement by which the dump's own 'gosem.cut.vars' lays the variable. In a bare row this is a premise. The card (YtmjoccgdpchjbaaDoorCards.lean) ties it to the program's text. -/
def laid_loop_example_g01301_impl_codeNames {H : Type} : DataW H := .agg [.lit (.string [111, 107]), .lit (.string [105, 110, 118, 97, 108, 105, 100]), .lit (.string [114, 97, 110, 103, 101]), .lit (.string [108, 105, 109, 105, 116]), .lit (.string [115, 116, 97, 116, 101]), .lit (.string [115, 121, 110, 116, 97, 120]), .lit (.string [110, 111, 116, 102, 111, 117, 110, 100]), .lit (.string [98, 117, 100, 103, 101, 116]), .lit (.string [112, 114, 111, 111, 102])]
def laid_loop_example_g01301_impl_shutterNames {H : Type} : DataW H := .agg [.lit (.string [49, 47, 49, 48, 48, 48]), .lit (.string [49, 47, 53, 48, 48]), .lit (.string [49, 47, 50, 53, 48]), .lit (.string [49, 47, 49, 50, 53]), .lit (.string [49, 47, 54, 48]), .lit (.string [49, 47, 51, 48]), .lit (.string [49, 47, 49, 53]), .lit (.string [49, 47, 56]), .lit (.string [49, 47, 52]), .lit (.string [49, 47, 50]), .lit (.string [49]), .lit (.string [50]), .lit (.string [52]), .lit (.string [56]), .lit (.string [49, 53]), .lit (.string [51, 48])]
def laid_loop_example_g01301_impl_thirdMarks {H : Type} : DataW H := .agg [.lit (.string []), .lit (.string [43, 49]), .lit (.string [43, 50])]
def laid_loop_example_g01301_impl_apertureNames {H : Type} : DataW H := .agg [.lit (.string [102, 47, 49]), .lit (.string [102, 47, 49, 46, 52]), .lit (.string [102, 47, 50]), .lit (.string [102, 47, 50, 46, 56]), .lit (.string [102, 47, 52]), .lit (.string [102, 47, 53, 46, 54]), .lit (.string [102, 47, 56]), .lit (.string [102, 47, 49, 49]), .lit (.string [102, 47, 49, 54]), .lit (.string [102, 47, 50, 50]), .lit (.string [102, 47, 51, 50])]
def laid_loop_example_g01301_impl_errInvalid {H : Type} : DataW H := .iface "*errors.errorString" (.ptr (.agg [.lit (.string [105, 110, 118, 97, 108, 105, 100])]))
def laid_loop_example_g01301_impl_errRange {H : Type} : DataW H := .iface "*errors.errorString" (.ptr (.agg [.lit (.string [114, 97, 110, 103, 101])]))
def laid_loop_example_g01301_impl_errLimit {H : Type} : DataW H := .iface "*errors.errorString" (.ptr (.agg [.lit (.string [108, 105, 109, 105, 116])]))
def laid_loop_example_g01301_impl_errState {H : Type} : DataW H := .iface "*errors.errorString" (.ptr (.agg [.lit (.string [115, 116, 97, 116, 101])]))
def laid_loop_example_g01301_impl_errSyntax {H : Type} : DataW H := .iface "*errors.errorString" (.ptr (.agg [.lit (.string [115, 121, 110, 116, 97, 120])]))
def laid_loop_example_g01301_impl_errNotFound {H : Type} : DataW H := .iface "*errors.errorString" (.ptr (.agg [.lit (.string [110, 111, 116, 102, 111, 117, 110, 100])]))
def laid_loop_example_g01301_impl_stopTimes {H : Type} : DataW H := .agg [.lit (.int .i64 1000), .lit (.int .i64 1260), .lit (.int .i64 1587)]

/-- 'laws.FnExactCodeName': WHATEVER THE INPUT: true; the input reads as it did. -/
def fnExactCodeNameSpec : ChangeSpec := { name := "fnExactCodeName", vars := ["loop.example/g01301/impl.codeNames"], fn := fun _ => fun
  | [d, g1] => { results := [.lit (.bool true)], args := [d], vars := [g1] }
  | _ => none }
def fnExactCodeNameRow : OpenClaim := { program := "ytmjoccgdpchjbaadoor", sum := "a96e6d170b2f17bf35a6968053da5b57c8b23ee0ff0fabeadc29eb5df3b76177", func := "loop.example/g01301/laws.FnExactCodeName", spec := "fnExactCodeName", named := ["loop.example/g01301/impl.codeNames"], apart := false, laid := [("loop.example/g01301/impl.codeNames", laid_loop_example_g01301_impl_codeNames)] }
def FnExactCodeNameSaid : Prop := fnExactCodeNameRow.holds Tryd.pinned (OpenSpec.ofChange fnExactCodeNameSpec)

/-- ITS FALSE NEIGHBOUR: 'it returns false'. Refute it at one input. -/
def fnExactCodeNameWrong : ChangeSpec := { name := "fnExactCodeName", vars := ["loop.example/g01301/impl.codeNames"], fn := fun _ => fun
  | [d, g1] => { results := [.lit (.bool false)], args := [d], vars := [g1] }
  | _ => none }
def FnExactCodeNameWrongFalsely : Prop := fnExactCodeNameRow.holds Tryd.pinned (OpenSpec.ofChange fnExactCodeNameWrong)

/-- 'laws.FnExactShutterName': WHATEVER THE INPUT: true; the input reads as it did. -/
def fnExactShutterNameSpec : ChangeSpec := { name := "fnExactShutterName", vars := ["loop.example/g01301/impl.shutterNames", "loop.example/g01301/impl.thirdMarks"], fn := fun _ => fun
  | [d, g1, g2] => { results := [.lit (.bool true)], args := [d], vars := [g1, g2] }
  | _ => none }
def fnExactShutterNameRow : OpenClaim := { program := "ytmjoccgdpchjbaadoor", sum := "a96e6d170b2f17bf35a6968053da5b57c8b23ee0ff0fabeadc29eb5df3b76177", func := "loop.example/g01301/laws.FnExactShutterName", spec := "fnExactShutterName", recurses := true, named := ["loop.example/g01301/impl.shutterNames", "loop.example/g01301/impl.thirdMarks"], apart := false, laid := [("loop.example/g01301/impl.shutterNames", laid_loop_example_g01301_impl_shutterNames), ("loop.example/g01301/impl.thirdMarks", laid_loop_example_g01301_impl_thirdMarks)] }
def FnExactShutterNameSaid : Prop := fnExactShutterNameRow.holds Tryd.pinned (OpenSpec.ofChange fnExactShutterNameSpec)

/-- ITS FALSE NEIGHBOUR: 'it returns false'. Refute it at one input. -/
def fnExactShutterNameWrong : ChangeSpec := { name := "fnExactShutterName", vars := ["loop.example/g01301/impl.shutterNames", "loop.example/g01301/impl.thirdMarks"], fn := fun _ => fun
  | [d, g1, g2] => { results := [.lit (.bool false)], args := [d], vars := [g1, g2] }
  | _ => none }
def FnExactShutterNameWrongFalsely : Prop := fnExactShutterNameRow.holds Tryd.pinned (OpenSpec.ofChange fnExactShutterNameWrong)

/-- 'laws.FnExactApertureName': WHATEVER THE INPUT: true; the input reads as it did. -/
def fnExactApertureNameSpec : ChangeSpec := { name := "fnExactApertureName", vars := ["loop.example/g01301/impl.apertureNames", "loop.example/g01301/impl.thirdMarks"], fn := fun _ => fun
  | [d, g1, g2] => { results := [.lit (.bool true)], args := [d], vars := [g1, g2] }
  | _ => none }
def fnExactApertureNameRow : OpenClaim := { program := "ytmjoccgdpchjbaadoor", sum := "a96e6d170b2f17bf35a6968053da5b57c8b23ee0ff0fabeadc29eb5df3b76177", func := "loop.example/g01301/laws.FnExactApertureName", spec := "fnExactApertureName", recurses := true, named := ["loop.example/g01301/impl.apertureNames", "loop.example/g01301/impl.thirdMarks"], apart := false, laid := [("loop.example/g01301/impl.apertureNames", laid_loop_example_g01301_impl_apertureNames), ("loop.example/g01301/impl.thirdMarks", laid_loop_example_g01301_impl_thirdMarks)] }
def FnExactApertureNameSaid : Prop := fnExactApertureNameRow.holds Tryd.pinned (OpenSpec.ofChange fnExactApertureNameSpec)

/-- ITS FALSE NEIGHBOUR: 'it returns false'. Refute it at one input. -/
def fnExactApertureNameWrong : ChangeSpec := { name := "fnExactApertureName", vars := ["loop.example/g01301/impl.apertureNames", "loop.example/g01301/impl.thirdMarks"], fn := fun _ => fun
  | [d, g1, g2] => { results := [.lit (.bool false)], args := [d], vars := [g1, g2] }
  | _ => none }
def FnExactApertureNameWrongFalsely : Prop := fnExactApertureNameRow.holds Tryd.pinned (OpenSpec.ofChange fnExactApertureNameWrong)

/-- 'laws.FnExactValueOf': WHATEVER THE INPUT: true; the input reads as it did. -/
def fnExactValueOfSpec : ChangeSpec := { name := "fnExactValueOf", vars := ["loop.example/g01301/impl.errInvalid", "loop.example/g01301/impl.errRange", "loop.example/g01301/impl.errLimit", "loop.example/g01301/impl.errState", "loop.example/g01301/impl.errSyntax", "loop.example/g01301/impl.errNotFound"], fn := fun _ => fun
  | [d, g1, g2, g3, g4, g5, g6] => { results := [.lit (.bool true)], args := [d], vars := [g1, g2, g3, g4, g5, g6] }
  | _ => none }
def fnExactValueOfRow : OpenClaim := { program := "ytmjoccgdpchjbaadoor", sum := "a96e6d170b2f17bf35a6968053da5b57c8b23ee0ff0fabeadc29eb5df3b76177", func := "loop.example/g01301/laws.FnExactValueOf", spec := "fnExactValueOf", inPlace := ["internal/reflectlite.TypeOf"], unfollowed := true, recurses := true, named := ["loop.example/g01301/impl.errInvalid", "loop.example/g01301/impl.errRange", "loop.example/g01301/impl.errLimit", "loop.example/g01301/impl.errState", "loop.example/g01301/impl.errSyntax", "loop.example/g01301/impl.errNotFound"], ifaces := true, apart := false, laid := [("loop.example/g01301/impl.errInvalid", laid_loop_example_g01301_impl_errInvalid), ("loop.example/g01301/impl.errRange", laid_loop_example_g01301_impl_errRange), ("loop.example/g01301/impl.errLimit", laid_loop_example_g01301_impl_errLimit), ("loop.example/g01301/impl.errState", laid_loop_example_g01301_impl_errState), ("loop.example/g01301/impl.errSyntax", laid_loop_example_g01301_impl_errSyntax), ("loop.example/g01301/impl.errNotFound", laid_loop_example_g01301_impl_errNotFound)] }
def FnExactValueOfSaid : Prop := fnExactValueOfRow.holds Tryd.pinned (OpenSpec.ofChange fnExactValueOfSpec)

/-- ITS FALSE NEIGHBOUR: 'it returns false'. Refute it at one input. -/
def fnExactValueOfWrong : ChangeSpec := { name := "fnExactValueOf", vars := ["loop.example/g01301/impl.errInvalid", "loop.example/g01301/impl.errRange", "loop.example/g01301/impl.errLimit", "loop.example/g01301/impl.errState", "loop.example/g01301/impl.errSyntax", "loop.example/g01301/impl.errNotFound"], fn := fun _ => fun
  | [d, g1, g2, g3, g4, g5, g6] => { results := [.lit (.bool false)], args := [d], vars := [g1, g2, g3, g4, g5, g6] }
  | _ => none }
def FnExactValueOfWrongFalsely : Prop := fnExactValueOfRow.holds Tryd.pinned (OpenSpec.ofChange fnExactValueOfWrong)

/-- 'laws.FnExactMoreLight': WHATEVER THE INPUT: true; the input reads as it did. -/
def fnExactMoreLightSpec : ChangeSpec := { name := "fnExactMoreLight", vars := ["loop.example/g01301/impl.errInvalid", "loop.example/g01301/impl.errRange", "loop.example/g01301/impl.errNotFound", "loop.example/g01301/impl.errLimit", "loop.example/g01301/impl.errState", "loop.example/g01301/impl.errSyntax"], fn := fun _ => fun
  | [d1, d2, g1, g2, g3, g4, g5, g6] => { results := [.lit (.bool true)], args := [d1, d2], vars := [g1, g2, g3, g4, g5, g6] }
  | _ => none }
def fnExactMoreLightRow : OpenClaim := { program := "ytmjoccgdpchjbaadoor", sum := "a96e6d170b2f17bf35a6968053da5b57c8b23ee0ff0fabeadc29eb5df3b76177", func := "loop.example/g01301/laws.FnExactMoreLight", spec := "fnExactMoreLight", inPlace := ["internal/reflectlite.TypeOf"], unfollowed := true, recurses := true, named := ["loop.example/g01301/impl.errInvalid", "loop.example/g01301/impl.errRange", "loop.example/g01301/impl.errNotFound", "loop.example/g01301/impl.errLimit", "loop.example/g01301/impl.errState", "loop.example/g01301/impl.errSyntax"], ifaces := true, apart := false, laid := [("loop.example/g01301/impl.errInvalid", laid_loop_example_g01301_impl_errInvalid), ("loop.example/g01301/impl.errRange", laid_loop_example_g01301_impl_errRange), ("loop.example/g01301/impl.errLimit", laid_loop_example_g01301_impl_errLimit), ("loop.example/g01301/impl.errState", laid_loop_example_g01301_impl_errState), ("loop.example/g01301/impl.errSyntax", laid_loop_example_g01301_impl_errSyntax), ("loop.example/g01301/impl.errNotFound", laid_loop_example_g01301_impl_errNotFound)] }
def FnExactMoreLightSaid : Prop := fnExactMoreLightRow.holds Tryd.pinned (OpenSpec.ofChange fnExactMoreLightSpec)

/-- ITS FALSE NEIGHBOUR: 'it returns false'. Refute it at one input. -/
def fnExactMoreLightWrong : ChangeSpec := { name := "fnExactMoreLight", vars := ["loop.example/g01301/impl.errInvalid", "loop.example/g01301/impl.errRange", "loop.example/g01301/impl.errNotFound", "loop.example/g01301/impl.errLimit", "loop.example/g01301/impl.errState", "loop.example/g01301/impl.errSyntax"], fn := fun _ => fun
  | [d1, d2, g1, g2, g3, g4, g5, g6] => { results := [.lit (.bool false)], args := [d1, d2], vars := [g1, g2, g3, g4, g5, g6] }
  | _ => none }
def FnExactMoreLightWrongFalsely : Prop := fnExactMoreLightRow.holds Tryd.pinned (OpenSpec.ofChange fnExactMoreLightWrong)

/-- 'laws.FnExactBracketOf': WHATEVER THE INPUT: true; the input reads as it did. -/
def fnExactBracketOfSpec : ChangeSpec := { name := "fnExactBracketOf", vars := ["loop.example/g01301/impl.errInvalid", "loop.example/g01301/impl.errRange", "loop.example/g01301/impl.errNotFound", "loop.example/g01301/impl.errLimit", "loop.example/g01301/impl.errState", "loop.example/g01301/impl.errSyntax"], fn := fun _ => fun
  | [d1, d2, d3, g1, g2, g3, g4, g5, g6] => { results := [.lit (.bool true)], args := [d1, d2, d3], vars := [g1, g2, g3, g4, g5, g6] }
  | _ => none }
def fnExactBracketOfRow : OpenClaim := { program := "ytmjoccgdpchjbaadoor", sum := "a96e6d170b2f17bf35a6968053da5b57c8b23ee0ff0fabeadc29eb5df3b76177", func := "loop.example/g01301/laws.FnExactBracketOf", spec := "fnExactBracketOf", inPlace := ["internal/reflectlite.TypeOf"], unfollowed := true, recurses := true, named := ["loop.example/g01301/impl.errInvalid", "loop.example/g01301/impl.errRange", "loop.example/g01301/impl.errNotFound", "loop.example/g01301/impl.errLimit", "loop.example/g01301/impl.errState", "loop.example/g01301/impl.errSyntax"], ifaces := true, apart := false, laid := [("loop.example/g01301/impl.errInvalid", laid_loop_example_g01301_impl_errInvalid), ("loop.example/g01301/impl.errRange", laid_loop_example_g01301_impl_errRange), ("loop.example/g01301/impl.errLimit", laid_loop_example_g01301_impl_errLimit), ("loop.example/g01301/impl.errState", laid_loop_example_g01301_impl_errState), ("loop.example/g01301/impl.errSyntax", laid_loop_example_g01301_impl_errSyntax), ("loop.example/g01301/impl.errNotFound", laid_loop_example_g01301_impl_errNotFound)] }
def FnExactBracketOfSaid : Prop := fnExactBracketOfRow.holds Tryd.pinned (OpenSpec.ofChange fnExactBracketOfSpec)

/-- ITS FALSE NEIGHBOUR: 'it returns false'. Refute it at one input. -/
def fnExactBracketOfWrong : ChangeSpec := { name := "fnExactBracketOf", vars := ["loop.example/g01301/impl.errInvalid", "loop.example/g01301/impl.errRange", "loop.example/g01301/impl.errNotFound", "loop.example/g01301/impl.errLimit", "loop.example/g01301/impl.errState", "loop.example/g01301/impl.errSyntax"], fn := fun _ => fun
  | [d1, d2, d3, g1, g2, g3, g4, g5, g6] => { results := [.lit (.bool false)], args := [d1, d2, d3], vars := [g1, g2, g3, g4, g5, g6] }
  | _ => none }
def FnExactBracketOfWrongFalsely : Prop := fnExactBracketOfRow.holds Tryd.pinned (OpenSpec.ofChange fnExactBracketOfWrong)

/-- 'laws.FnExactFactorThirds': WHATEVER THE INPUT: true; the input reads as it did. -/
def fnExactFactorThirdsSpec : ChangeSpec := { name := "fnExactFactorThirds", vars := ["loop.example/g01301/impl.errRange", "loop.example/g01301/impl.stopTimes", "loop.example/g01301/impl.errInvalid", "loop.example/g01301/impl.errLimit", "loop.example/g01301/impl.errState", "loop.example/g01301/impl.errSyntax", "loop.example/g01301/impl.errNotFound"], fn := fun _ => fun
  | [d, g1, g2, g3, g4, g5, g6, g7] => { results := [.lit (.bool true)], args := [d], vars := [g1, g2, g3, g4, g5, g6, g7] }
  | _ => none }
def fnExactFactorThirdsRow : OpenClaim := { program := "ytmjoccgdpchjbaadoor", sum := "a96e6d170b2f17bf35a6968053da5b57c8b23ee0ff0fabeadc29eb5df3b76177", func := "loop.example/g01301/laws.FnExactFactorThirds", spec := "fnExactFactorThirds", inPlace := ["internal/reflectlite.TypeOf"], unfollowed := true, recurses := true, named := ["loop.example/g01301/impl.errRange", "loop.example/g01301/impl.stopTimes", "loop.example/g01301/impl.errInvalid", "loop.example/g01301/impl.errLimit", "loop.example/g01301/impl.errState", "loop.example/g01301/impl.errSyntax", "loop.example/g01301/impl.errNotFound"], ifaces := true, apart := false, laid := [("loop.example/g01301/impl.errInvalid", laid_loop_example_g01301_impl_errInvalid), ("loop.example/g01301/impl.errRange", laid_loop_example_g01301_impl_errRange), ("loop.example/g01301/impl.errLimit", laid_loop_example_g01301_impl_errLimit), ("loop.example/g01301/impl.errState", laid_loop_example_g01301_impl_errState), ("loop.example/g01301/impl.errSyntax", laid_loop_example_g01301_impl_errSyntax), ("loop.example/g01301/impl.errNotFound", laid_loop_example_g01301_impl_errNotFound), ("loop.example/g01301/impl.stopTimes", laid_loop_example_g01301_impl_stopTimes)] }
def FnExactFactorThirdsSaid : Prop := fnExactFactorThirdsRow.holds Tryd.pinned (OpenSpec.ofChange fnExactFactorThirdsSpec)

/-- ITS FALSE NEIGHBOUR: 'it returns false'. Refute it at one input. -/
def fnExactFactorThirdsWrong : ChangeSpec := { name := "fnExactFactorThirds", vars := ["loop.example/g01301/impl.errRange", "loop.example/g01301/impl.stopTimes", "loop.example/g01301/impl.errInvalid", "loop.example/g01301/impl.errLimit", "loop.example/g01301/impl.errState", "loop.example/g01301/impl.errSyntax", "loop.example/g01301/impl.errNotFound"], fn := fun _ => fun
  | [d, g1, g2, g3, g4, g5, g6, g7] => { results := [.lit (.bool false)], args := [d], vars := [g1, g2, g3, g4, g5, g6, g7] }
  | _ => none }
def FnExactFactorThirdsWrongFalsely : Prop := fnExactFactorThirdsRow.holds Tryd.pinned (OpenSpec.ofChange fnExactFactorThirdsWrong)

/-- 'laws.FnExactWithFilters': WHATEVER THE INPUT: true; the input reads as it did. -/
def fnExactWithFiltersSpec : ChangeSpec := { name := "fnExactWithFilters", vars := ["loop.example/g01301/impl.errInvalid", "loop.example/g01301/impl.errLimit", "loop.example/g01301/impl.errRange", "loop.example/g01301/impl.stopTimes", "loop.example/g01301/impl.errNotFound", "loop.example/g01301/impl.errState", "loop.example/g01301/impl.errSyntax"], fn := fun _ => fun
  | [d1, d2, g1, g2, g3, g4, g5, g6, g7] => { results := [.lit (.bool true)], args := [d1, d2], vars := [g1, g2, g3, g4, g5, g6, g7] }
  | _ => none }
def fnExactWithFiltersRow : OpenClaim := { program := "ytmjoccgdpchjbaadoor", sum := "a96e6d170b2f17bf35a6968053da5b57c8b23ee0ff0fabeadc29eb5df3b76177", func := "loop.example/g01301/laws.FnExactWithFilters", spec := "fnExactWithFilters", inPlace := ["internal/reflectlite.TypeOf"], unfollowed := true, recurses := true, named := ["loop.example/g01301/impl.errInvalid", "loop.example/g01301/impl.errLimit", "loop.example/g01301/impl.errRange", "loop.example/g01301/impl.stopTimes", "loop.example/g01301/impl.errNotFound", "loop.example/g01301/impl.errState", "loop.example/g01301/impl.errSyntax"], ifaces := true, apart := false, laid := [("loop.example/g01301/impl.errInvalid", laid_loop_example_g01301_impl_errInvalid), ("loop.example/g01301/impl.errRange", laid_loop_example_g01301_impl_errRange), ("loop.example/g01301/impl.errLimit", laid_loop_example_g01301_impl_errLimit), ("loop.example/g01301/impl.errState", laid_loop_example_g01301_impl_errState), ("loop.example/g01301/impl.errSyntax", laid_loop_example_g01301_impl_errSyntax), ("loop.example/g01301/impl.errNotFound", laid_loop_example_g01301_impl_errNotFound), ("loop.example/g01301/impl.stopTimes", laid_loop_example_g01301_impl_stopTimes)] }
def FnExactWithFiltersSaid : Prop := fnExactWithFiltersRow.holds Tryd.pinned (OpenSpec.ofChange fnExactWithFiltersSpec)

/-- ITS FALSE NEIGHBOUR: 'it returns false'. Refute it at one input. -/
def fnExactWithFiltersWrong : ChangeSpec := { name := "fnExactWithFilters", vars := ["loop.example/g01301/impl.errInvalid", "loop.example/g01301/impl.errLimit", "loop.example/g01301/impl.errRange", "loop.example/g01301/impl.stopTimes", "loop.example/g01301/impl.errNotFound", "loop.example/g01301/impl.errState", "loop.example/g01301/impl.errSyntax"], fn := fun _ => fun
  | [d1, d2, g1, g2, g3, g4, g5, g6, g7] => { results := [.lit (.bool false)], args := [d1, d2], vars := [g1, g2, g3, g4, g5, g6, g7] }
  | _ => none }
def FnExactWithFiltersWrongFalsely : Prop := fnExactWithFiltersRow.holds Tryd.pinned (OpenSpec.ofChange fnExactWithFiltersWrong)

/-- 'laws.FnExactExtraFor': WHATEVER THE INPUT: true; the input reads as it did. -/
def fnExactExtraForSpec : ChangeSpec := { name := "fnExactExtraFor", vars := ["loop.example/g01301/impl.errInvalid", "loop.example/g01301/impl.errRange", "loop.example/g01301/impl.errLimit", "loop.example/g01301/impl.errState", "loop.example/g01301/impl.errSyntax", "loop.example/g01301/impl.errNotFound"], fn := fun _ => fun
  | [d1, d2, g1, g2, g3, g4, g5, g6] => { results := [.lit (.bool true)], args := [d1, d2], vars := [g1, g2, g3, g4, g5, g6] }
  | _ => none }
def fnExactExtraForRow : OpenClaim := { program := "ytmjoccgdpchjbaadoor", sum := "a96e6d170b2f17bf35a6968053da5b57c8b23ee0ff0fabeadc29eb5df3b76177", func := "loop.example/g01301/laws.FnExactExtraFor", spec := "fnExactExtraFor", inPlace := ["internal/reflectlite.TypeOf"], unfollowed := true, recurses := true, named := ["loop.example/g01301/impl.errInvalid", "loop.example/g01301/impl.errRange", "loop.example/g01301/impl.errLimit", "loop.example/g01301/impl.errState", "loop.example/g01301/impl.errSyntax", "loop.example/g01301/impl.errNotFound"], ifaces := true, apart := false, laid := [("loop.example/g01301/impl.errInvalid", laid_loop_example_g01301_impl_errInvalid), ("loop.example/g01301/impl.errRange", laid_loop_example_g01301_impl_errRange), ("loop.example/g01301/impl.errLimit", laid_loop_example_g01301_impl_errLimit), ("loop.example/g01301/impl.errState", laid_loop_example_g01301_impl_errState), ("loop.example/g01301/impl.errSyntax", laid_loop_example_g01301_impl_errSyntax), ("loop.example/g01301/impl.errNotFound", laid_loop_example_g01301_impl_errNotFound)] }
def FnExactExtraForSaid : Prop := fnExactExtraForRow.holds Tryd.pinned (OpenSpec.ofChange fnExactExtraForSpec)

/-- ITS FALSE NEIGHBOUR: 'it returns false'. Refute it at one input. -/
def fnExactExtraForWrong : ChangeSpec := { name := "fnExactExtraFor", vars := ["loop.example/g01301/impl.errInvalid", "loop.example/g01301/impl.errRange", "loop.example/g01301/impl.errLimit", "loop.example/g01301/impl.errState", "loop.example/g01301/impl.errSyntax", "loop.example/g01301/impl.errNotFound"], fn := fun _ => fun
  | [d1, d2, g1, g2, g3, g4, g5, g6] => { results := [.lit (.bool false)], args := [d1, d2], vars := [g1, g2, g3, g4, g5, g6] }
  | _ => none }
def FnExactExtraForWrongFalsely : Prop := fnExactExtraForRow.holds Tryd.pinned (OpenSpec.ofChange fnExactExtraForWrong)

/-- 'laws.FnExactCorrectedFor': WHATEVER THE INPUT: true; the input reads as it did. -/
def fnExactCorrectedForSpec : ChangeSpec := { name := "fnExactCorrectedFor", vars := ["loop.example/g01301/impl.errInvalid", "loop.example/g01301/impl.errNotFound", "loop.example/g01301/impl.errRange", "loop.example/g01301/impl.errLimit", "loop.example/g01301/impl.errState", "loop.example/g01301/impl.errSyntax"], fn := fun _ => fun
  | [d1, d2, g1, g2, g3, g4, g5, g6] => { results := [.lit (.bool true)], args := [d1, d2], vars := [g1, g2, g3, g4, g5, g6] }
  | _ => none }
def fnExactCorrectedForRow : OpenClaim := { program := "ytmjoccgdpchjbaadoor", sum := "a96e6d170b2f17bf35a6968053da5b57c8b23ee0ff0fabeadc29eb5df3b76177", func := "loop.example/g01301/laws.FnExactCorrectedFor", spec := "fnExactCorrectedFor", inPlace := ["internal/reflectlite.TypeOf"], unfollowed := true, recurses := true, named := ["loop.example/g01301/impl.errInvalid", "loop.example/g01301/impl.errNotFound", "loop.example/g01301/impl.errRange", "loop.example/g01301/impl.errLimit", "loop.example/g01301/impl.errState", "loop.example/g01301/impl.errSyntax"], ifaces := true, apart := false, laid := [("loop.example/g01301/impl.errInvalid", laid_loop_example_g01301_impl_errInvalid), ("loop.example/g01301/impl.errRange", laid_loop_example_g01301_impl_errRange), ("loop.example/g01301/impl.errLimit", laid_loop_example_g01301_impl_errLimit), ("loop.example/g01301/impl.errState", laid_loop_example_g01301_impl_errState), ("loop.example/g01301/impl.errSyntax", laid_loop_example_g01301_impl_errSyntax), ("loop.example/g01301/impl.errNotFound", laid_loop_example_g01301_impl_errNotFound)] }
def FnExactCorrectedForSaid : Prop := fnExactCorrectedForRow.holds Tryd.pinned (OpenSpec.ofChange fnExactCorrectedForSpec)

/-- ITS FALSE NEIGHBOUR: 'it returns false'. Refute it at one input. -/
def fnExactCorrectedForWrong : ChangeSpec := { name := "fnExactCorrectedFor", vars := ["loop.example/g01301/impl.errInvalid", "loop.example/g01301/impl.errNotFound", "loop.example/g01301/impl.errRange", "loop.example/g01301/impl.errLimit", "loop.example/g01301/impl.errState", "loop.example/g01301/impl.errSyntax"], fn := fun _ => fun
  | [d1, d2, g1, g2, g3, g4, g5, g6] => { results := [.lit (.bool false)], args := [d1, d2], vars := [g1, g2, g3, g4, g5, g6] }
  | _ => none }
def FnExactCorrectedForWrongFalsely : Prop := fnExactCorrectedForRow.holds Tryd.pinned (OpenSpec.ofChange fnExactCorrectedForWrong)

/- THE SECOND FORM. 'bulk': how many values and letters a reading holds, each counted each time it is reached (what is shared counts as often as it is met; a slice's spare places count too). A statement '..UptoSaid' is the law's where the arguments, and the package variables that the reading takes, are together of bulk at most 1048576: NARROWER than '..Said'. Prove '..Said' where nothing that the law and all that it calls make is longer than what came in: it says more and counts as full. Else prove '..UptoSaid'. A law counts once. -/
mutual
def uptoBulk {H : Type} : DataW H → Nat
  | .lit (.string bytes) => bytes.length + 1
  | .lit _ => 1
  | .nil => 1
  | .ptr d => uptoBulk d + 1
  | .slice elems spare => uptoBulkAll elems + uptoBulkAll spare + 1
  | .agg parts => uptoBulkAll parts + 1
  | .iface _ d => uptoBulk d + 1
  | .map entries => uptoBulkEntries entries + 1
  | .held _ => 1
def uptoBulkAll {H : Type} : List (DataW H) → Nat
  | [] => 0
  | d :: r => uptoBulk d + uptoBulkAll r
def uptoBulkEntries {H : Type} : List (Lit × DataW H) → Nat
  | [] => 0
  | x :: r => uptoBulkEntry x + uptoBulkEntries r
def uptoBulkEntry {H : Type} : Lit × DataW H → Nat
  | (.string bytes, d) => bytes.length + uptoBulk d + 1
  | (_, d) => uptoBulk d + 1
 end
def uptoSmall : (H : Type) → List (DataW H) → Bool := fun _ ds => decide (uptoBulkAll ds ≤ 1048576)
def OpenSpec.upto (s : _root_.Go.ChangeSpec) : _root_.Go.OpenSpec := { _root_.Go.OpenSpec.ofChange s with cond := some uptoSmall }

/-- 'laws.FnExactCodeName', WHERE WHAT IT READS IS OF BULK AT MOST 1048576: true; the input reads as it did. -/
def fnExactCodeNameUptoRow : OpenClaim := { program := "ytmjoccgdpchjbaadoor", sum := "a96e6d170b2f17bf35a6968053da5b57c8b23ee0ff0fabeadc29eb5df3b76177", func := "loop.example/g01301/laws.FnExactCodeName", spec := "fnExactCodeName", named := ["loop.example/g01301/impl.codeNames"], apart := false, laid := [("loop.example/g01301/impl.codeNames", laid_loop_example_g01301_impl_codeNames)], narrowed := true }
def FnExactCodeNameUptoSaid : Prop := fnExactCodeNameUptoRow.holds Tryd.pinned (OpenSpec.upto fnExactCodeNameSpec)

/-- 'laws.FnExactShutterName', WHERE WHAT IT READS IS OF BULK AT MOST 1048576: true; the input reads as it did. -/
def fnExactShutterNameUptoRow : OpenClaim := { program := "ytmjoccgdpchjbaadoor", sum := "a96e6d170b2f17bf35a6968053da5b57c8b23ee0ff0fabeadc29eb5df3b76177", func := "loop.example/g01301/laws.FnExactShutterName", spec := "fnExactShutterName", recurses := true, named := ["loop.example/g01301/impl.shutterNames", "loop.example/g01301/impl.thirdMarks"], apart := false, laid := [("loop.example/g01301/impl.shutterNames", laid_loop_example_g01301_impl_shutterNames), ("loop.example/g01301/impl.thirdMarks", laid_loop_example_g01301_impl_thirdMarks)], narrowed := true }
def FnExactShutterNameUptoSaid : Prop := fnExactShutterNameUptoRow.holds Tryd.pinned (OpenSpec.upto fnExactShutterNameSpec)

/-- 'laws.FnExactApertureName', WHERE WHAT IT READS IS OF BULK AT MOST 1048576: true; the input reads as it did. -/
def fnExactApertureNameUptoRow : OpenClaim := { program := "ytmjoccgdpchjbaadoor", sum := "a96e6d170b2f17bf35a6968053da5b57c8b23ee0ff0fabeadc29eb5df3b76177", func := "loop.example/g01301/laws.FnExactApertureName", spec := "fnExactApertureName", recurses := true, named := ["loop.example/g01301/impl.apertureNames", "loop.example/g01301/impl.thirdMarks"], apart := false, laid := [("loop.example/g01301/impl.apertureNames", laid_loop_example_g01301_impl_apertureNames), ("loop.example/g01301/impl.thirdMarks", laid_loop_example_g01301_impl_thirdMarks)], narrowed := true }
def FnExactApertureNameUptoSaid : Prop := fnExactApertureNameUptoRow.holds Tryd.pinned (OpenSpec.upto fnExactApertureNameSpec)

/-- 'laws.FnExactValueOf', WHERE WHAT IT READS IS OF BULK AT MOST 1048576: true; the input reads as it did. -/
def fnExactValueOfUptoRow : OpenClaim := { program := "ytmjoccgdpchjbaadoor", sum := "a96e6d170b2f17bf35a6968053da5b57c8b23ee0ff0fabeadc29eb5df3b76177", func := "loop.example/g01301/laws.FnExactValueOf", spec := "fnExactValueOf", inPlace := ["internal/reflectlite.TypeOf"], unfollowed := true, recurses := true, named := ["loop.example/g01301/impl.errInvalid", "loop.example/g01301/impl.errRange", "loop.example/g01301/impl.errLimit", "loop.example/g01301/impl.errState", "loop.example/g01301/impl.errSyntax", "loop.example/g01301/impl.errNotFound"], ifaces := true, apart := false, laid := [("loop.example/g01301/impl.errInvalid", laid_loop_example_g01301_impl_errInvalid), ("loop.example/g01301/impl.errRange", laid_loop_example_g01301_impl_errRange), ("loop.example/g01301/impl.errLimit", laid_loop_example_g01301_impl_errLimit), ("loop.example/g01301/impl.errState", laid_loop_example_g01301_impl_errState), ("loop.example/g01301/impl.errSyntax", laid_loop_example_g01301_impl_errSyntax), ("loop.example/g01301/impl.errNotFound", laid_loop_example_g01301_impl_errNotFound)], narrowed := true }
def FnExactValueOfUptoSaid : Prop := fnExactValueOfUptoRow.holds Tryd.pinned (OpenSpec.upto fnExactValueOfSpec)

/-- 'laws.FnExactMoreLight', WHERE WHAT IT READS IS OF BULK AT MOST 1048576: true; the input reads as it did. -/
def fnExactMoreLightUptoRow : OpenClaim := { program := "ytmjoccgdpchjbaadoor", sum := "a96e6d170b2f17bf35a6968053da5b57c8b23ee0ff0fabeadc29eb5df3b76177", func := "loop.example/g01301/laws.FnExactMoreLight", spec := "fnExactMoreLight", inPlace := ["internal/reflectlite.TypeOf"], unfollowed := true, recurses := true, named := ["loop.example/g01301/impl.errInvalid", "loop.example/g01301/impl.errRange", "loop.example/g01301/impl.errNotFound", "loop.example/g01301/impl.errLimit", "loop.example/g01301/impl.errState", "loop.example/g01301/impl.errSyntax"], ifaces := true, apart := false, laid := [("loop.example/g01301/impl.errInvalid", laid_loop_example_g01301_impl_errInvalid), ("loop.example/g01301/impl.errRange", laid_loop_example_g01301_impl_errRange), ("loop.example/g01301/impl.errLimit", laid_loop_example_g01301_impl_errLimit), ("loop.example/g01301/impl.errState", laid_loop_example_g01301_impl_errState), ("loop.example/g01301/impl.errSyntax", laid_loop_example_g01301_impl_errSyntax), ("loop.example/g01301/impl.errNotFound", laid_loop_example_g01301_impl_errNotFound)], narrowed := true }
def FnExactMoreLightUptoSaid : Prop := fnExactMoreLightUptoRow.holds Tryd.pinned (OpenSpec.upto fnExactMoreLightSpec)

/-- 'laws.FnExactBracketOf', WHERE WHAT IT READS IS OF BULK AT MOST 1048576: true; the input reads as it did. -/
def fnExactBracketOfUptoRow : OpenClaim := { program := "ytmjoccgdpchjbaadoor", sum := "a96e6d170b2f17bf35a6968053da5b57c8b23ee0ff0fabeadc29eb5df3b76177", func := "loop.example/g01301/laws.FnExactBracketOf", spec := "fnExactBracketOf", inPlace := ["internal/reflectlite.TypeOf"], unfollowed := true, recurses := true, named := ["loop.example/g01301/impl.errInvalid", "loop.example/g01301/impl.errRange", "loop.example/g01301/impl.errNotFound", "loop.example/g01301/impl.errLimit", "loop.example/g01301/impl.errState", "loop.example/g01301/impl.errSyntax"], ifaces := true, apart := false, laid := [("loop.example/g01301/impl.errInvalid", laid_loop_example_g01301_impl_errInvalid), ("loop.example/g01301/impl.errRange", laid_loop_example_g01301_impl_errRange), ("loop.example/g01301/impl.errLimit", laid_loop_example_g01301_impl_errLimit), ("loop.example/g01301/impl.errState", laid_loop_example_g01301_impl_errState), ("loop.example/g01301/impl.errSyntax", laid_loop_example_g01301_impl_errSyntax), ("loop.example/g01301/impl.errNotFound", laid_loop_example_g01301_impl_errNotFound)], narrowed := true }
def FnExactBracketOfUptoSaid : Prop := fnExactBracketOfUptoRow.holds Tryd.pinned (OpenSpec.upto fnExactBracketOfSpec)

/-- 'laws.FnExactFactorThirds', WHERE WHAT IT READS IS OF BULK AT MOST 1048576: true; the input reads as it did. -/
def fnExactFactorThirdsUptoRow : OpenClaim := { program := "ytmjoccgdpchjbaadoor", sum := "a96e6d170b2f17bf35a6968053da5b57c8b23ee0ff0fabeadc29eb5df3b76177", func := "loop.example/g01301/laws.FnExactFactorThirds", spec := "fnExactFactorThirds", inPlace := ["internal/reflectlite.TypeOf"], unfollowed := true, recurses := true, named := ["loop.example/g01301/impl.errRange", "loop.example/g01301/impl.stopTimes", "loop.example/g01301/impl.errInvalid", "loop.example/g01301/impl.errLimit", "loop.example/g01301/impl.errState", "loop.example/g01301/impl.errSyntax", "loop.example/g01301/impl.errNotFound"], ifaces := true, apart := false, laid := [("loop.example/g01301/impl.errInvalid", laid_loop_example_g01301_impl_errInvalid), ("loop.example/g01301/impl.errRange", laid_loop_example_g01301_impl_errRange), ("loop.example/g01301/impl.errLimit", laid_loop_example_g01301_impl_errLimit), ("loop.example/g01301/impl.errState", laid_loop_example_g01301_impl_errState), ("loop.example/g01301/impl.errSyntax", laid_loop_example_g01301_impl_errSyntax), ("loop.example/g01301/impl.errNotFound", laid_loop_example_g01301_impl_errNotFound), ("loop.example/g01301/impl.stopTimes", laid_loop_example_g01301_impl_stopTimes)], narrowed := true }
def FnExactFactorThirdsUptoSaid : Prop := fnExactFactorThirdsUptoRow.holds Tryd.pinned (OpenSpec.upto fnExactFactorThirdsSpec)

/-- 'laws.FnExactWithFilters', WHERE WHAT IT READS IS OF BULK AT MOST 1048576: true; the input reads as it did. -/
def fnExactWithFiltersUptoRow : OpenClaim := { program := "ytmjoccgdpchjbaadoor", sum := "a96e6d170b2f17bf35a6968053da5b57c8b23ee0ff0fabeadc29eb5df3b76177", func := "loop.example/g01301/laws.FnExactWithFilters", spec := "fnExactWithFilters", inPlace := ["internal/reflectlite.TypeOf"], unfollowed := true, recurses := true, named := ["loop.example/g01301/impl.errInvalid", "loop.example/g01301/impl.errLimit", "loop.example/g01301/impl.errRange", "loop.example/g01301/impl.stopTimes", "loop.example/g01301/impl.errNotFound", "loop.example/g01301/impl.errState", "loop.example/g01301/impl.errSyntax"], ifaces := true, apart := false, laid := [("loop.example/g01301/impl.errInvalid", laid_loop_example_g01301_impl_errInvalid), ("loop.example/g01301/impl.errRange", laid_loop_example_g01301_impl_errRange), ("loop.example/g01301/impl.errLimit", laid_loop_example_g01301_impl_errLimit), ("loop.example/g01301/impl.errState", laid_loop_example_g01301_impl_errState), ("loop.example/g01301/impl.errSyntax", laid_loop_example_g01301_impl_errSyntax), ("loop.example/g01301/impl.errNotFound", laid_loop_example_g01301_impl_errNotFound), ("loop.example/g01301/impl.stopTimes", laid_loop_example_g01301_impl_stopTimes)], narrowed := true }
def FnExactWithFiltersUptoSaid : Prop := fnExactWithFiltersUptoRow.holds Tryd.pinned (OpenSpec.upto fnExactWithFiltersSpec)

/-- 'laws.FnExactExtraFor', WHERE WHAT IT READS IS OF BULK AT MOST 1048576: true; the input reads as it did. -/
def fnExactExtraForUptoRow : OpenClaim := { program := "ytmjoccgdpchjbaadoor", sum := "a96e6d170b2f17bf35a6968053da5b57c8b23ee0ff0fabeadc29eb5df3b76177", func := "loop.example/g01301/laws.FnExactExtraFor", spec := "fnExactExtraFor", inPlace := ["internal/reflectlite.TypeOf"], unfollowed := true, recurses := true, named := ["loop.example/g01301/impl.errInvalid", "loop.example/g01301/impl.errRange", "loop.example/g01301/impl.errLimit", "loop.example/g01301/impl.errState", "loop.example/g01301/impl.errSyntax", "loop.example/g01301/impl.errNotFound"], ifaces := true, apart := false, laid := [("loop.example/g01301/impl.errInvalid", laid_loop_example_g01301_impl_errInvalid), ("loop.example/g01301/impl.errRange", laid_loop_example_g01301_impl_errRange), ("loop.example/g01301/impl.errLimit", laid_loop_example_g01301_impl_errLimit), ("loop.example/g01301/impl.errState", laid_loop_example_g01301_impl_errState), ("loop.example/g01301/impl.errSyntax", laid_loop_example_g01301_impl_errSyntax), ("loop.example/g01301/impl.errNotFound", laid_loop_example_g01301_impl_errNotFound)], narrowed := true }
def FnExactExtraForUptoSaid : Prop := fnExactExtraForUptoRow.holds Tryd.pinned (OpenSpec.upto fnExactExtraForSpec)

/-- 'laws.FnExactCorrectedFor', WHERE WHAT IT READS IS OF BULK AT MOST 1048576: true; the input reads as it did. -/
def fnExactCorrectedForUptoRow : OpenClaim := { program := "ytmjoccgdpchjbaadoor", sum := "a96e6d170b2f17bf35a6968053da5b57c8b23ee0ff0fabeadc29eb5df3b76177", func := "loop.example/g01301/laws.FnExactCorrectedFor", spec := "fnExactCorrectedFor", inPlace := ["internal/reflectlite.TypeOf"], unfollowed := true, recurses := true, named := ["loop.example/g01301/impl.errInvalid", "loop.example/g01301/impl.errNotFound", "loop.example/g01301/impl.errRange", "loop.example/g01301/impl.errLimit", "loop.example/g01301/impl.errState", "loop.example/g01301/impl.errSyntax"], ifaces := true, apart := false, laid := [("loop.example/g01301/impl.errInvalid", laid_loop_example_g01301_impl_errInvalid), ("loop.example/g01301/impl.errRange", laid_loop_example_g01301_impl_errRange), ("loop.example/g01301/impl.errLimit", laid_loop_example_g01301_impl_errLimit), ("loop.example/g01301/impl.errState", laid_loop_example_g01301_impl_errState), ("loop.example/g01301/impl.errSyntax", laid_loop_example_g01301_impl_errSyntax), ("loop.example/g01301/impl.errNotFound", laid_loop_example_g01301_impl_errNotFound)], narrowed := true }
def FnExactCorrectedForUptoSaid : Prop := fnExactCorrectedForUptoRow.holds Tryd.pinned (OpenSpec.upto fnExactCorrectedForSpec)

end Rows
end Go.Proofs.YtmjoccgdpchjbaaDoor
