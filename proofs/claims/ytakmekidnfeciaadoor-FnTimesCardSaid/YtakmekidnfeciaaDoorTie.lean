/-
  DERIVED. GIVEN WITH THE SEED: THE PROGRAM's TIES (one call each: nine closed facts by the kernel) AND EACH ROW's TIE, after the 31st guide's Derived/Test/Toyas{Tie, Card}.lean. No idea stands in it: it is a product of the set-up. Laid BY PROGRAM, IN A SANDBOX (cutbox-door.mjs). By AI agents, Wed Nov 11 2026. No macro, syntax, notation, axiom, sorry.
-/
import Derived.Test.YtakmekidnfeciaaDoorRows
import Derived.LaidByTextLater
import Derived.SevenTiedAt
import Derived.LaidSub
import Derived.LaidOnce
namespace Go.Proofs.YtakmekidnfeciaaDoor
open Go
set_option maxRecDepth 100000
theorem seatTie1 : Tryd.prog.laidByTextLater [("math/bits.deBruijn32tab", Rows.laid_math_bits_deBruijn32tab), ("math/bits.deBruijn64tab", Rows.laid_math_bits_deBruijn64tab), ("internal/strconv.uint64pow10", Rows.laid_internal_strconv_uint64pow10), ("loop.example/g01301/impl.errInvalid", Rows.laid_loop_example_g01301_impl_errInvalid), ("loop.example/g01301/impl.errRange", Rows.laid_loop_example_g01301_impl_errRange), ("loop.example/g01301/impl.errLimit", Rows.laid_loop_example_g01301_impl_errLimit), ("loop.example/g01301/impl.errState", Rows.laid_loop_example_g01301_impl_errState), ("loop.example/g01301/impl.errSyntax", Rows.laid_loop_example_g01301_impl_errSyntax), ("loop.example/g01301/impl.errNotFound", Rows.laid_loop_example_g01301_impl_errNotFound), ("loop.example/g01301/impl.shutterNames", Rows.laid_loop_example_g01301_impl_shutterNames), ("loop.example/g01301/impl.apertureNames", Rows.laid_loop_example_g01301_impl_apertureNames), ("loop.example/g01301/impl.thirdMarks", Rows.laid_loop_example_g01301_impl_thirdMarks), ("loop.example/g01301/impl.stopTimes", Rows.laid_loop_example_g01301_impl_stopTimes)] [.data, .data, .data, .sentinel, .sentinel, .sentinel, .sentinel, .sentinel, .sentinel, .data, .data, .data, .data] true :=
  Program.laidByTextLater_by_one 158 8 65 (by kernel_rfl) (by kernel_rfl) (by kernel_rfl) (by kernel_rfl) (by kernel_rfl) (by kernel_rfl) (fun _ _ => by kernel_rfl)
theorem noOwnUnsafe : Tryd.pinned.checked.prog.headLifts.contains "ownunsafe" = false := by kernel_rfl
theorem tie : Tryd.prog.laidByTextLater [("loop.example/g01301/impl.errInvalid", Rows.laid_loop_example_g01301_impl_errInvalid), ("loop.example/g01301/impl.errRange", Rows.laid_loop_example_g01301_impl_errRange), ("loop.example/g01301/impl.errLimit", Rows.laid_loop_example_g01301_impl_errLimit), ("loop.example/g01301/impl.errState", Rows.laid_loop_example_g01301_impl_errState), ("loop.example/g01301/impl.errSyntax", Rows.laid_loop_example_g01301_impl_errSyntax), ("loop.example/g01301/impl.errNotFound", Rows.laid_loop_example_g01301_impl_errNotFound)] [.sentinel, .sentinel, .sentinel, .sentinel, .sentinel, .sentinel] true :=
  Program.laidByTextLater.sub seatTie1 ["loop.example/g01301/impl.errInvalid", "loop.example/g01301/impl.errRange", "loop.example/g01301/impl.errLimit", "loop.example/g01301/impl.errState", "loop.example/g01301/impl.errSyntax", "loop.example/g01301/impl.errNotFound"] (by kernel_rfl) (by kernel_rfl)
theorem fnExactMeteredFor_row_tie : Rows.fnExactMeteredForRow.laidByTextAt .later Tryd.pinned [.sentinel, .sentinel, .sentinel, .sentinel, .sentinel, .sentinel] true :=
  OpenClaim.laidByTextAt_later rfl rfl tie noOwnUnsafe
theorem tie2 : Tryd.prog.laidByTextLater [("loop.example/g01301/impl.errInvalid", Rows.laid_loop_example_g01301_impl_errInvalid), ("loop.example/g01301/impl.errRange", Rows.laid_loop_example_g01301_impl_errRange), ("loop.example/g01301/impl.errLimit", Rows.laid_loop_example_g01301_impl_errLimit), ("loop.example/g01301/impl.errState", Rows.laid_loop_example_g01301_impl_errState), ("loop.example/g01301/impl.errSyntax", Rows.laid_loop_example_g01301_impl_errSyntax), ("loop.example/g01301/impl.errNotFound", Rows.laid_loop_example_g01301_impl_errNotFound), ("loop.example/g01301/impl.stopTimes", Rows.laid_loop_example_g01301_impl_stopTimes)] [.sentinel, .sentinel, .sentinel, .sentinel, .sentinel, .sentinel, .data] true :=
  Program.laidByTextLater.sub seatTie1 ["loop.example/g01301/impl.errInvalid", "loop.example/g01301/impl.errRange", "loop.example/g01301/impl.errLimit", "loop.example/g01301/impl.errState", "loop.example/g01301/impl.errSyntax", "loop.example/g01301/impl.errNotFound", "loop.example/g01301/impl.stopTimes"] (by kernel_rfl) (by kernel_rfl)
theorem fnExactTimeOf_row_tie : Rows.fnExactTimeOfRow.laidByTextAt .later Tryd.pinned [.sentinel, .sentinel, .sentinel, .sentinel, .sentinel, .sentinel, .data] true :=
  OpenClaim.laidByTextAt_later rfl rfl tie2 noOwnUnsafe
theorem fnExactThirdsIn_row_tie : Rows.fnExactThirdsInRow.laidByTextAt .later Tryd.pinned [.sentinel, .sentinel, .sentinel, .sentinel, .sentinel, .sentinel, .data] true :=
  OpenClaim.laidByTextAt_later rfl rfl tie2 noOwnUnsafe
theorem fnExactNearestThirds_row_tie : Rows.fnExactNearestThirdsRow.laidByTextAt .later Tryd.pinned [.sentinel, .sentinel, .sentinel, .sentinel, .sentinel, .sentinel, .data] true :=
  OpenClaim.laidByTextAt_later rfl rfl tie2 noOwnUnsafe
theorem fnExactTimesOf_row_tie : Rows.fnExactTimesOfRow.laidByTextAt .later Tryd.pinned [.sentinel, .sentinel, .sentinel, .sentinel, .sentinel, .sentinel, .data] true :=
  OpenClaim.laidByTextAt_later rfl rfl tie2 noOwnUnsafe
theorem fnExactEnlargedBy_row_tie : Rows.fnExactEnlargedByRow.laidByTextAt .later Tryd.pinned [.sentinel, .sentinel, .sentinel, .sentinel, .sentinel, .sentinel, .data] true :=
  OpenClaim.laidByTextAt_later rfl rfl tie2 noOwnUnsafe
theorem fnLong_row_tie : Rows.fnLongRow.laidByTextAt .later Tryd.pinned [.sentinel, .sentinel, .sentinel, .sentinel, .sentinel, .sentinel, .data] true :=
  OpenClaim.laidByTextAt_later rfl rfl tie2 noOwnUnsafe
theorem fnTimes_row_tie : Rows.fnTimesRow.laidByTextAt .later Tryd.pinned [.sentinel, .sentinel, .sentinel, .sentinel, .sentinel, .sentinel, .data] true :=
  OpenClaim.laidByTextAt_later rfl rfl tie2 noOwnUnsafe
theorem tie3 : Tryd.prog.laidByTextLater [("math/bits.deBruijn32tab", Rows.laid_math_bits_deBruijn32tab), ("math/bits.deBruijn64tab", Rows.laid_math_bits_deBruijn64tab), ("internal/strconv.uint64pow10", Rows.laid_internal_strconv_uint64pow10), ("loop.example/g01301/impl.shutterNames", Rows.laid_loop_example_g01301_impl_shutterNames), ("loop.example/g01301/impl.apertureNames", Rows.laid_loop_example_g01301_impl_apertureNames), ("loop.example/g01301/impl.thirdMarks", Rows.laid_loop_example_g01301_impl_thirdMarks)] [.data, .data, .data, .data, .data, .data] true :=
  Program.laidByTextLater.sub seatTie1 ["math/bits.deBruijn32tab", "math/bits.deBruijn64tab", "internal/strconv.uint64pow10", "loop.example/g01301/impl.shutterNames", "loop.example/g01301/impl.apertureNames", "loop.example/g01301/impl.thirdMarks"] (by kernel_rfl) (by kernel_rfl)
theorem fnExactSettingText_row_tie : Rows.fnExactSettingTextRow.laidByTextAt .later Tryd.pinned [.data, .data, .data, .data, .data, .data] true :=
  OpenClaim.laidByTextAt_later rfl rfl tie3 noOwnUnsafe
theorem tie4 : Tryd.prog.laidByTextLater [("math/bits.deBruijn32tab", Rows.laid_math_bits_deBruijn32tab), ("math/bits.deBruijn64tab", Rows.laid_math_bits_deBruijn64tab), ("internal/strconv.uint64pow10", Rows.laid_internal_strconv_uint64pow10), ("loop.example/g01301/impl.errInvalid", Rows.laid_loop_example_g01301_impl_errInvalid), ("loop.example/g01301/impl.errRange", Rows.laid_loop_example_g01301_impl_errRange), ("loop.example/g01301/impl.errLimit", Rows.laid_loop_example_g01301_impl_errLimit), ("loop.example/g01301/impl.errState", Rows.laid_loop_example_g01301_impl_errState), ("loop.example/g01301/impl.errSyntax", Rows.laid_loop_example_g01301_impl_errSyntax), ("loop.example/g01301/impl.errNotFound", Rows.laid_loop_example_g01301_impl_errNotFound), ("loop.example/g01301/impl.shutterNames", Rows.laid_loop_example_g01301_impl_shutterNames), ("loop.example/g01301/impl.apertureNames", Rows.laid_loop_example_g01301_impl_apertureNames), ("loop.example/g01301/impl.thirdMarks", Rows.laid_loop_example_g01301_impl_thirdMarks)] [.data, .data, .data, .sentinel, .sentinel, .sentinel, .sentinel, .sentinel, .sentinel, .data, .data, .data] true :=
  Program.laidByTextLater.sub seatTie1 ["math/bits.deBruijn32tab", "math/bits.deBruijn64tab", "internal/strconv.uint64pow10", "loop.example/g01301/impl.errInvalid", "loop.example/g01301/impl.errRange", "loop.example/g01301/impl.errLimit", "loop.example/g01301/impl.errState", "loop.example/g01301/impl.errSyntax", "loop.example/g01301/impl.errNotFound", "loop.example/g01301/impl.shutterNames", "loop.example/g01301/impl.apertureNames", "loop.example/g01301/impl.thirdMarks"] (by kernel_rfl) (by kernel_rfl)
theorem fnExactReadSetting_row_tie : Rows.fnExactReadSettingRow.laidByTextAt .later Tryd.pinned [.data, .data, .data, .sentinel, .sentinel, .sentinel, .sentinel, .sentinel, .sentinel, .data, .data, .data] true :=
  OpenClaim.laidByTextAt_later rfl rfl tie4 noOwnUnsafe
theorem fnExactMeteredForUpto_row_tie : Rows.fnExactMeteredForUptoRow.laidByTextAt .later Tryd.pinned [.sentinel, .sentinel, .sentinel, .sentinel, .sentinel, .sentinel] true :=
  OpenClaim.laidByTextAt_later rfl rfl tie noOwnUnsafe
theorem fnExactTimeOfUpto_row_tie : Rows.fnExactTimeOfUptoRow.laidByTextAt .later Tryd.pinned [.sentinel, .sentinel, .sentinel, .sentinel, .sentinel, .sentinel, .data] true :=
  OpenClaim.laidByTextAt_later rfl rfl tie2 noOwnUnsafe
theorem fnExactThirdsInUpto_row_tie : Rows.fnExactThirdsInUptoRow.laidByTextAt .later Tryd.pinned [.sentinel, .sentinel, .sentinel, .sentinel, .sentinel, .sentinel, .data] true :=
  OpenClaim.laidByTextAt_later rfl rfl tie2 noOwnUnsafe
theorem fnExactNearestThirdsUpto_row_tie : Rows.fnExactNearestThirdsUptoRow.laidByTextAt .later Tryd.pinned [.sentinel, .sentinel, .sentinel, .sentinel, .sentinel, .sentinel, .data] true :=
  OpenClaim.laidByTextAt_later rfl rfl tie2 noOwnUnsafe
theorem fnExactTimesOfUpto_row_tie : Rows.fnExactTimesOfUptoRow.laidByTextAt .later Tryd.pinned [.sentinel, .sentinel, .sentinel, .sentinel, .sentinel, .sentinel, .data] true :=
  OpenClaim.laidByTextAt_later rfl rfl tie2 noOwnUnsafe
theorem fnExactEnlargedByUpto_row_tie : Rows.fnExactEnlargedByUptoRow.laidByTextAt .later Tryd.pinned [.sentinel, .sentinel, .sentinel, .sentinel, .sentinel, .sentinel, .data] true :=
  OpenClaim.laidByTextAt_later rfl rfl tie2 noOwnUnsafe
theorem fnExactSettingTextUpto_row_tie : Rows.fnExactSettingTextUptoRow.laidByTextAt .later Tryd.pinned [.data, .data, .data, .data, .data, .data] true :=
  OpenClaim.laidByTextAt_later rfl rfl tie3 noOwnUnsafe
theorem fnExactReadSettingUpto_row_tie : Rows.fnExactReadSettingUptoRow.laidByTextAt .later Tryd.pinned [.data, .data, .data, .sentinel, .sentinel, .sentinel, .sentinel, .sentinel, .sentinel, .data, .data, .data] true :=
  OpenClaim.laidByTextAt_later rfl rfl tie4 noOwnUnsafe
theorem fnLongUpto_row_tie : Rows.fnLongUptoRow.laidByTextAt .later Tryd.pinned [.sentinel, .sentinel, .sentinel, .sentinel, .sentinel, .sentinel, .data] true :=
  OpenClaim.laidByTextAt_later rfl rfl tie2 noOwnUnsafe
theorem fnTimesUpto_row_tie : Rows.fnTimesUptoRow.laidByTextAt .later Tryd.pinned [.sentinel, .sentinel, .sentinel, .sentinel, .sentinel, .sentinel, .data] true :=
  OpenClaim.laidByTextAt_later rfl rfl tie2 noOwnUnsafe
end Go.Proofs.YtakmekidnfeciaaDoor
