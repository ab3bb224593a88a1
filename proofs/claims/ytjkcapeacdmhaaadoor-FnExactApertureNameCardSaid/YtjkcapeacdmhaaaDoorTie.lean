/-
  DERIVED. GIVEN WITH THE SEED: THE PROGRAM's TIES (one call each: nine closed facts by the kernel) AND EACH ROW's TIE, after the 31st guide's Derived/Test/Toyas{Tie, Card}.lean. No idea stands in it: it is a product of the set-up. Laid BY PROGRAM, IN A SANDBOX (cutbox-door.mjs). By AI agents, Wed Nov 11 2026. No macro, syntax, notation, axiom, sorry.
-/
import Derived.Test.YtjkcapeacdmhaaaDoorRows
import Derived.LaidByTextLater
import Derived.SevenTiedAt
import Derived.LaidSub
import Derived.LaidOnce
namespace Go.Proofs.YtjkcapeacdmhaaaDoor
open Go
set_option maxRecDepth 100000
theorem seatTie1 : Tryd.prog.laidByTextLater [("math/bits.deBruijn32tab", Rows.laid_math_bits_deBruijn32tab), ("math/bits.deBruijn64tab", Rows.laid_math_bits_deBruijn64tab), ("internal/strconv.uint64pow10", Rows.laid_internal_strconv_uint64pow10), ("loop.example/g01301/impl.errInvalid", Rows.laid_loop_example_g01301_impl_errInvalid), ("loop.example/g01301/impl.errRange", Rows.laid_loop_example_g01301_impl_errRange), ("loop.example/g01301/impl.errLimit", Rows.laid_loop_example_g01301_impl_errLimit), ("loop.example/g01301/impl.errSyntax", Rows.laid_loop_example_g01301_impl_errSyntax), ("loop.example/g01301/impl.errNotFound", Rows.laid_loop_example_g01301_impl_errNotFound), ("loop.example/g01301/impl.codeNames", Rows.laid_loop_example_g01301_impl_codeNames), ("loop.example/g01301/impl.shutterNames", Rows.laid_loop_example_g01301_impl_shutterNames), ("loop.example/g01301/impl.apertureNames", Rows.laid_loop_example_g01301_impl_apertureNames), ("loop.example/g01301/impl.thirdMarks", Rows.laid_loop_example_g01301_impl_thirdMarks), ("loop.example/g01301/impl.stopTimes", Rows.laid_loop_example_g01301_impl_stopTimes)] [.data, .data, .data, .sentinel, .sentinel, .sentinel, .sentinel, .sentinel, .data, .data, .data, .data, .data] true :=
  Program.laidByTextLater_by_one 144 8 65 (by kernel_rfl) (by kernel_rfl) (by kernel_rfl) (by kernel_rfl) (by kernel_rfl) (by kernel_rfl) (fun _ _ => by kernel_rfl)
theorem noOwnUnsafe : Tryd.pinned.checked.prog.headLifts.contains "ownunsafe" = false := by kernel_rfl
theorem tie : Tryd.prog.laidByTextLater [("math/bits.deBruijn32tab", Rows.laid_math_bits_deBruijn32tab), ("math/bits.deBruijn64tab", Rows.laid_math_bits_deBruijn64tab), ("internal/strconv.uint64pow10", Rows.laid_internal_strconv_uint64pow10), ("loop.example/g01301/impl.errInvalid", Rows.laid_loop_example_g01301_impl_errInvalid), ("loop.example/g01301/impl.errRange", Rows.laid_loop_example_g01301_impl_errRange), ("loop.example/g01301/impl.errLimit", Rows.laid_loop_example_g01301_impl_errLimit), ("loop.example/g01301/impl.errSyntax", Rows.laid_loop_example_g01301_impl_errSyntax), ("loop.example/g01301/impl.errNotFound", Rows.laid_loop_example_g01301_impl_errNotFound), ("loop.example/g01301/impl.shutterNames", Rows.laid_loop_example_g01301_impl_shutterNames), ("loop.example/g01301/impl.apertureNames", Rows.laid_loop_example_g01301_impl_apertureNames), ("loop.example/g01301/impl.thirdMarks", Rows.laid_loop_example_g01301_impl_thirdMarks)] [.data, .data, .data, .sentinel, .sentinel, .sentinel, .sentinel, .sentinel, .data, .data, .data] true :=
  Program.laidByTextLater.sub seatTie1 ["math/bits.deBruijn32tab", "math/bits.deBruijn64tab", "internal/strconv.uint64pow10", "loop.example/g01301/impl.errInvalid", "loop.example/g01301/impl.errRange", "loop.example/g01301/impl.errLimit", "loop.example/g01301/impl.errSyntax", "loop.example/g01301/impl.errNotFound", "loop.example/g01301/impl.shutterNames", "loop.example/g01301/impl.apertureNames", "loop.example/g01301/impl.thirdMarks"] (by kernel_rfl) (by kernel_rfl)
theorem fnSettings_row_tie : Rows.fnSettingsRow.laidByTextAt .later Tryd.pinned [.data, .data, .data, .sentinel, .sentinel, .sentinel, .sentinel, .sentinel, .data, .data, .data] true :=
  OpenClaim.laidByTextAt_later rfl rfl tie noOwnUnsafe
theorem tie2 : Tryd.prog.laidByTextLater [("loop.example/g01301/impl.errInvalid", Rows.laid_loop_example_g01301_impl_errInvalid), ("loop.example/g01301/impl.errRange", Rows.laid_loop_example_g01301_impl_errRange), ("loop.example/g01301/impl.errLimit", Rows.laid_loop_example_g01301_impl_errLimit), ("loop.example/g01301/impl.errSyntax", Rows.laid_loop_example_g01301_impl_errSyntax), ("loop.example/g01301/impl.errNotFound", Rows.laid_loop_example_g01301_impl_errNotFound), ("loop.example/g01301/impl.stopTimes", Rows.laid_loop_example_g01301_impl_stopTimes)] [.sentinel, .sentinel, .sentinel, .sentinel, .sentinel, .data] true :=
  Program.laidByTextLater.sub seatTie1 ["loop.example/g01301/impl.errInvalid", "loop.example/g01301/impl.errRange", "loop.example/g01301/impl.errLimit", "loop.example/g01301/impl.errSyntax", "loop.example/g01301/impl.errNotFound", "loop.example/g01301/impl.stopTimes"] (by kernel_rfl) (by kernel_rfl)
theorem fnLong_row_tie : Rows.fnLongRow.laidByTextAt .later Tryd.pinned [.sentinel, .sentinel, .sentinel, .sentinel, .sentinel, .data] true :=
  OpenClaim.laidByTextAt_later rfl rfl tie2 noOwnUnsafe
theorem fnTimes_row_tie : Rows.fnTimesRow.laidByTextAt .later Tryd.pinned [.sentinel, .sentinel, .sentinel, .sentinel, .sentinel, .data] true :=
  OpenClaim.laidByTextAt_later rfl rfl tie2 noOwnUnsafe
theorem tie3 : Tryd.prog.laidByTextLater [("loop.example/g01301/impl.codeNames", Rows.laid_loop_example_g01301_impl_codeNames)] [.data] true :=
  Program.laidByTextLater.sub seatTie1 ["loop.example/g01301/impl.codeNames"] (by kernel_rfl) (by kernel_rfl)
theorem fnExactCodeName_row_tie : Rows.fnExactCodeNameRow.laidByTextAt .later Tryd.pinned [.data] true :=
  OpenClaim.laidByTextAt_later rfl rfl tie3 noOwnUnsafe
theorem tie4 : Tryd.prog.laidByTextLater [("loop.example/g01301/impl.shutterNames", Rows.laid_loop_example_g01301_impl_shutterNames), ("loop.example/g01301/impl.thirdMarks", Rows.laid_loop_example_g01301_impl_thirdMarks)] [.data, .data] true :=
  Program.laidByTextLater.sub seatTie1 ["loop.example/g01301/impl.shutterNames", "loop.example/g01301/impl.thirdMarks"] (by kernel_rfl) (by kernel_rfl)
theorem fnExactShutterName_row_tie : Rows.fnExactShutterNameRow.laidByTextAt .later Tryd.pinned [.data, .data] true :=
  OpenClaim.laidByTextAt_later rfl rfl tie4 noOwnUnsafe
theorem tie5 : Tryd.prog.laidByTextLater [("loop.example/g01301/impl.apertureNames", Rows.laid_loop_example_g01301_impl_apertureNames), ("loop.example/g01301/impl.thirdMarks", Rows.laid_loop_example_g01301_impl_thirdMarks)] [.data, .data] true :=
  Program.laidByTextLater.sub seatTie1 ["loop.example/g01301/impl.apertureNames", "loop.example/g01301/impl.thirdMarks"] (by kernel_rfl) (by kernel_rfl)
theorem fnExactApertureName_row_tie : Rows.fnExactApertureNameRow.laidByTextAt .later Tryd.pinned [.data, .data] true :=
  OpenClaim.laidByTextAt_later rfl rfl tie5 noOwnUnsafe
theorem tie6 : Tryd.prog.laidByTextLater [("loop.example/g01301/impl.errInvalid", Rows.laid_loop_example_g01301_impl_errInvalid), ("loop.example/g01301/impl.errRange", Rows.laid_loop_example_g01301_impl_errRange), ("loop.example/g01301/impl.errLimit", Rows.laid_loop_example_g01301_impl_errLimit), ("loop.example/g01301/impl.errSyntax", Rows.laid_loop_example_g01301_impl_errSyntax), ("loop.example/g01301/impl.errNotFound", Rows.laid_loop_example_g01301_impl_errNotFound)] [.sentinel, .sentinel, .sentinel, .sentinel, .sentinel] true :=
  Program.laidByTextLater.sub seatTie1 ["loop.example/g01301/impl.errInvalid", "loop.example/g01301/impl.errRange", "loop.example/g01301/impl.errLimit", "loop.example/g01301/impl.errSyntax", "loop.example/g01301/impl.errNotFound"] (by kernel_rfl) (by kernel_rfl)
theorem fnExactValueOf_row_tie : Rows.fnExactValueOfRow.laidByTextAt .later Tryd.pinned [.sentinel, .sentinel, .sentinel, .sentinel, .sentinel] true :=
  OpenClaim.laidByTextAt_later rfl rfl tie6 noOwnUnsafe
theorem fnExactMoreLight_row_tie : Rows.fnExactMoreLightRow.laidByTextAt .later Tryd.pinned [.sentinel, .sentinel, .sentinel, .sentinel, .sentinel] true :=
  OpenClaim.laidByTextAt_later rfl rfl tie6 noOwnUnsafe
theorem fnExactSettingsFor_row_tie : Rows.fnExactSettingsForRow.laidByTextAt .later Tryd.pinned [.sentinel, .sentinel, .sentinel, .sentinel, .sentinel] true :=
  OpenClaim.laidByTextAt_later rfl rfl tie6 noOwnUnsafe
theorem fnExactNearestSettings_row_tie : Rows.fnExactNearestSettingsRow.laidByTextAt .later Tryd.pinned [.sentinel, .sentinel, .sentinel, .sentinel, .sentinel] true :=
  OpenClaim.laidByTextAt_later rfl rfl tie6 noOwnUnsafe
theorem fnExactBracketOf_row_tie : Rows.fnExactBracketOfRow.laidByTextAt .later Tryd.pinned [.sentinel, .sentinel, .sentinel, .sentinel, .sentinel] true :=
  OpenClaim.laidByTextAt_later rfl rfl tie6 noOwnUnsafe
theorem fnSettingsUpto_row_tie : Rows.fnSettingsUptoRow.laidByTextAt .later Tryd.pinned [.data, .data, .data, .sentinel, .sentinel, .sentinel, .sentinel, .sentinel, .data, .data, .data] true :=
  OpenClaim.laidByTextAt_later rfl rfl tie noOwnUnsafe
theorem fnLongUpto_row_tie : Rows.fnLongUptoRow.laidByTextAt .later Tryd.pinned [.sentinel, .sentinel, .sentinel, .sentinel, .sentinel, .data] true :=
  OpenClaim.laidByTextAt_later rfl rfl tie2 noOwnUnsafe
theorem fnTimesUpto_row_tie : Rows.fnTimesUptoRow.laidByTextAt .later Tryd.pinned [.sentinel, .sentinel, .sentinel, .sentinel, .sentinel, .data] true :=
  OpenClaim.laidByTextAt_later rfl rfl tie2 noOwnUnsafe
theorem fnExactCodeNameUpto_row_tie : Rows.fnExactCodeNameUptoRow.laidByTextAt .later Tryd.pinned [.data] true :=
  OpenClaim.laidByTextAt_later rfl rfl tie3 noOwnUnsafe
theorem fnExactShutterNameUpto_row_tie : Rows.fnExactShutterNameUptoRow.laidByTextAt .later Tryd.pinned [.data, .data] true :=
  OpenClaim.laidByTextAt_later rfl rfl tie4 noOwnUnsafe
theorem fnExactApertureNameUpto_row_tie : Rows.fnExactApertureNameUptoRow.laidByTextAt .later Tryd.pinned [.data, .data] true :=
  OpenClaim.laidByTextAt_later rfl rfl tie5 noOwnUnsafe
theorem fnExactValueOfUpto_row_tie : Rows.fnExactValueOfUptoRow.laidByTextAt .later Tryd.pinned [.sentinel, .sentinel, .sentinel, .sentinel, .sentinel] true :=
  OpenClaim.laidByTextAt_later rfl rfl tie6 noOwnUnsafe
theorem fnExactMoreLightUpto_row_tie : Rows.fnExactMoreLightUptoRow.laidByTextAt .later Tryd.pinned [.sentinel, .sentinel, .sentinel, .sentinel, .sentinel] true :=
  OpenClaim.laidByTextAt_later rfl rfl tie6 noOwnUnsafe
theorem fnExactSettingsForUpto_row_tie : Rows.fnExactSettingsForUptoRow.laidByTextAt .later Tryd.pinned [.sentinel, .sentinel, .sentinel, .sentinel, .sentinel] true :=
  OpenClaim.laidByTextAt_later rfl rfl tie6 noOwnUnsafe
theorem fnExactNearestSettingsUpto_row_tie : Rows.fnExactNearestSettingsUptoRow.laidByTextAt .later Tryd.pinned [.sentinel, .sentinel, .sentinel, .sentinel, .sentinel] true :=
  OpenClaim.laidByTextAt_later rfl rfl tie6 noOwnUnsafe
theorem fnExactBracketOfUpto_row_tie : Rows.fnExactBracketOfUptoRow.laidByTextAt .later Tryd.pinned [.sentinel, .sentinel, .sentinel, .sentinel, .sentinel] true :=
  OpenClaim.laidByTextAt_later rfl rfl tie6 noOwnUnsafe
end Go.Proofs.YtjkcapeacdmhaaaDoor
