/-
  DERIVED. GIVEN WITH THE SEED: THE PROGRAM's TIES (one call each: nine closed facts by the kernel) AND EACH ROW's TIE, after the 31st guide's Derived/Test/Toyas{Tie, Card}.lean. No idea stands in it: it is a product of the set-up. Laid BY PROGRAM, IN A SANDBOX (cutbox-door.mjs). By AI agents, Wed Nov 11 2026. No macro, syntax, notation, axiom, sorry.
-/
import Derived.Test.YtkeigoighebjpaaDoorRows
import Derived.LaidByTextLater
import Derived.SevenTiedAt
import Derived.LaidSub
import Derived.LaidOnce
namespace Go.Proofs.YtkeigoighebjpaaDoor
open Go
set_option maxRecDepth 100000
theorem seatTie1 : Tryd.prog.laidByTextLater [("math/bits.deBruijn32tab", Rows.laid_math_bits_deBruijn32tab), ("math/bits.deBruijn64tab", Rows.laid_math_bits_deBruijn64tab), ("internal/strconv.uint64pow10", Rows.laid_internal_strconv_uint64pow10), ("strconv.ErrRange", Rows.laid_strconv_ErrRange), ("strconv.ErrSyntax", Rows.laid_strconv_ErrSyntax), ("loop.example/g01301/impl.errInvalid", Rows.laid_loop_example_g01301_impl_errInvalid), ("loop.example/g01301/impl.errRange", Rows.laid_loop_example_g01301_impl_errRange), ("loop.example/g01301/impl.errLimit", Rows.laid_loop_example_g01301_impl_errLimit), ("loop.example/g01301/impl.errState", Rows.laid_loop_example_g01301_impl_errState), ("loop.example/g01301/impl.errSyntax", Rows.laid_loop_example_g01301_impl_errSyntax), ("loop.example/g01301/impl.errNotFound", Rows.laid_loop_example_g01301_impl_errNotFound)] [.data, .data, .data, .sentinel, .sentinel, .sentinel, .sentinel, .sentinel, .sentinel, .sentinel, .sentinel] true :=
  Program.laidByTextLater_by_one 176 8 65 (by kernel_rfl) (by kernel_rfl) (by kernel_rfl) (by kernel_rfl) (by kernel_rfl) (by kernel_rfl) (fun _ _ => by kernel_rfl)
theorem noOwnUnsafe : Tryd.pinned.checked.prog.headLifts.contains "ownunsafe" = false := by kernel_rfl
theorem tie : Tryd.prog.laidByTextLater [("loop.example/g01301/impl.errInvalid", Rows.laid_loop_example_g01301_impl_errInvalid), ("loop.example/g01301/impl.errRange", Rows.laid_loop_example_g01301_impl_errRange), ("loop.example/g01301/impl.errLimit", Rows.laid_loop_example_g01301_impl_errLimit), ("loop.example/g01301/impl.errState", Rows.laid_loop_example_g01301_impl_errState), ("loop.example/g01301/impl.errSyntax", Rows.laid_loop_example_g01301_impl_errSyntax), ("loop.example/g01301/impl.errNotFound", Rows.laid_loop_example_g01301_impl_errNotFound)] [.sentinel, .sentinel, .sentinel, .sentinel, .sentinel, .sentinel] true :=
  Program.laidByTextLater.sub seatTie1 ["loop.example/g01301/impl.errInvalid", "loop.example/g01301/impl.errRange", "loop.example/g01301/impl.errLimit", "loop.example/g01301/impl.errState", "loop.example/g01301/impl.errSyntax", "loop.example/g01301/impl.errNotFound"] (by kernel_rfl) (by kernel_rfl)
theorem fnExactMisfitOf_row_tie : Rows.fnExactMisfitOfRow.laidByTextAt .later Tryd.pinned [.sentinel, .sentinel, .sentinel, .sentinel, .sentinel, .sentinel] true :=
  OpenClaim.laidByTextAt_later rfl rfl tie noOwnUnsafe
theorem fnExactBlackTime_row_tie : Rows.fnExactBlackTimeRow.laidByTextAt .later Tryd.pinned [.sentinel, .sentinel, .sentinel, .sentinel, .sentinel, .sentinel] true :=
  OpenClaim.laidByTextAt_later rfl rfl tie noOwnUnsafe
theorem fnExactOrderGrades_row_tie : Rows.fnExactOrderGradesRow.laidByTextAt .later Tryd.pinned [.sentinel, .sentinel, .sentinel, .sentinel, .sentinel, .sentinel] true :=
  OpenClaim.laidByTextAt_later rfl rfl tie noOwnUnsafe
theorem tie2 : Tryd.prog.laidByTextLater [("math/bits.deBruijn32tab", Rows.laid_math_bits_deBruijn32tab), ("math/bits.deBruijn64tab", Rows.laid_math_bits_deBruijn64tab), ("internal/strconv.uint64pow10", Rows.laid_internal_strconv_uint64pow10)] [.data, .data, .data] true :=
  Program.laidByTextLater.sub seatTie1 ["math/bits.deBruijn32tab", "math/bits.deBruijn64tab", "internal/strconv.uint64pow10"] (by kernel_rfl) (by kernel_rfl)
theorem fnExactStripText_row_tie : Rows.fnExactStripTextRow.laidByTextAt .later Tryd.pinned [.data, .data, .data] true :=
  OpenClaim.laidByTextAt_later rfl rfl tie2 noOwnUnsafe
theorem tie3 : Tryd.prog.laidByTextLater [("math/bits.deBruijn32tab", Rows.laid_math_bits_deBruijn32tab), ("math/bits.deBruijn64tab", Rows.laid_math_bits_deBruijn64tab), ("internal/strconv.uint64pow10", Rows.laid_internal_strconv_uint64pow10), ("strconv.ErrRange", Rows.laid_strconv_ErrRange), ("strconv.ErrSyntax", Rows.laid_strconv_ErrSyntax), ("loop.example/g01301/impl.errInvalid", Rows.laid_loop_example_g01301_impl_errInvalid), ("loop.example/g01301/impl.errRange", Rows.laid_loop_example_g01301_impl_errRange), ("loop.example/g01301/impl.errLimit", Rows.laid_loop_example_g01301_impl_errLimit), ("loop.example/g01301/impl.errState", Rows.laid_loop_example_g01301_impl_errState), ("loop.example/g01301/impl.errSyntax", Rows.laid_loop_example_g01301_impl_errSyntax), ("loop.example/g01301/impl.errNotFound", Rows.laid_loop_example_g01301_impl_errNotFound)] [.data, .data, .data, .sentinel, .sentinel, .sentinel, .sentinel, .sentinel, .sentinel, .sentinel, .sentinel] true :=
  Program.laidByTextLater.sub seatTie1 ["math/bits.deBruijn32tab", "math/bits.deBruijn64tab", "internal/strconv.uint64pow10", "strconv.ErrRange", "strconv.ErrSyntax", "loop.example/g01301/impl.errInvalid", "loop.example/g01301/impl.errRange", "loop.example/g01301/impl.errLimit", "loop.example/g01301/impl.errState", "loop.example/g01301/impl.errSyntax", "loop.example/g01301/impl.errNotFound"] (by kernel_rfl) (by kernel_rfl)
theorem fnExactReadStrip_row_tie : Rows.fnExactReadStripRow.laidByTextAt .later Tryd.pinned [.data, .data, .data, .sentinel, .sentinel, .sentinel, .sentinel, .sentinel, .sentinel, .sentinel, .sentinel] true :=
  OpenClaim.laidByTextAt_later rfl rfl tie3 noOwnUnsafe
theorem fnExactMisfitOfUpto_row_tie : Rows.fnExactMisfitOfUptoRow.laidByTextAt .later Tryd.pinned [.sentinel, .sentinel, .sentinel, .sentinel, .sentinel, .sentinel] true :=
  OpenClaim.laidByTextAt_later rfl rfl tie noOwnUnsafe
theorem fnExactBlackTimeUpto_row_tie : Rows.fnExactBlackTimeUptoRow.laidByTextAt .later Tryd.pinned [.sentinel, .sentinel, .sentinel, .sentinel, .sentinel, .sentinel] true :=
  OpenClaim.laidByTextAt_later rfl rfl tie noOwnUnsafe
theorem fnExactOrderGradesUpto_row_tie : Rows.fnExactOrderGradesUptoRow.laidByTextAt .later Tryd.pinned [.sentinel, .sentinel, .sentinel, .sentinel, .sentinel, .sentinel] true :=
  OpenClaim.laidByTextAt_later rfl rfl tie noOwnUnsafe
theorem fnExactStripTextUpto_row_tie : Rows.fnExactStripTextUptoRow.laidByTextAt .later Tryd.pinned [.data, .data, .data] true :=
  OpenClaim.laidByTextAt_later rfl rfl tie2 noOwnUnsafe
theorem fnExactReadStripUpto_row_tie : Rows.fnExactReadStripUptoRow.laidByTextAt .later Tryd.pinned [.data, .data, .data, .sentinel, .sentinel, .sentinel, .sentinel, .sentinel, .sentinel, .sentinel, .sentinel] true :=
  OpenClaim.laidByTextAt_later rfl rfl tie3 noOwnUnsafe
end Go.Proofs.YtkeigoighebjpaaDoor
