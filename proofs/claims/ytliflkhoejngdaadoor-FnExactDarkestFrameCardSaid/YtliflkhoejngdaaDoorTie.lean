/-
  DERIVED. GIVEN WITH THE SEED: THE PROGRAM's TIES (one call each: nine closed facts by the kernel) AND EACH ROW's TIE, after the 31st guide's Derived/Test/Toyas{Tie, Card}.lean. No idea stands in it: it is a product of the set-up. Laid BY PROGRAM, IN A SANDBOX (cutbox-door.mjs). By AI agents, Wed Nov 11 2026. No macro, syntax, notation, axiom, sorry.
-/
import Derived.Test.YtliflkhoejngdaaDoorRows
import Derived.LaidByTextLater
import Derived.SevenTiedAt
import Derived.LaidSub
import Derived.LaidOnce
namespace Go.Proofs.YtliflkhoejngdaaDoor
open Go
set_option maxRecDepth 100000
theorem seatTie1 : Tryd.prog.laidByTextLater [("math/bits.deBruijn64tab", Rows.laid_math_bits_deBruijn64tab), ("unicode/utf8.acceptRanges", Rows.laid_unicode_utf8_acceptRanges), ("loop.example/g01301/impl.errInvalid", Rows.laid_loop_example_g01301_impl_errInvalid), ("loop.example/g01301/impl.errRange", Rows.laid_loop_example_g01301_impl_errRange), ("loop.example/g01301/impl.errLimit", Rows.laid_loop_example_g01301_impl_errLimit), ("loop.example/g01301/impl.errState", Rows.laid_loop_example_g01301_impl_errState), ("loop.example/g01301/impl.errSyntax", Rows.laid_loop_example_g01301_impl_errSyntax), ("loop.example/g01301/impl.errNotFound", Rows.laid_loop_example_g01301_impl_errNotFound)] [.data, .data, .sentinel, .sentinel, .sentinel, .sentinel, .sentinel, .sentinel] true :=
  Program.laidByTextLater_by_one 138 8 65 (by kernel_rfl) (by kernel_rfl) (by kernel_rfl) (by kernel_rfl) (by kernel_rfl) (by kernel_rfl) (fun _ _ => by kernel_rfl)
theorem pin_laid_unicode_utf8_first : Tryd.pinned.checked.prog.pinnedFits "unicode/utf8.first" = true := by kernel_rfl
theorem noOwnUnsafe : Tryd.pinned.checked.prog.headLifts.contains "ownunsafe" = false := by kernel_rfl
theorem tie : Tryd.prog.laidByTextLater [("math/bits.deBruijn64tab", Rows.laid_math_bits_deBruijn64tab), ("loop.example/g01301/impl.errInvalid", Rows.laid_loop_example_g01301_impl_errInvalid), ("loop.example/g01301/impl.errRange", Rows.laid_loop_example_g01301_impl_errRange), ("loop.example/g01301/impl.errLimit", Rows.laid_loop_example_g01301_impl_errLimit), ("loop.example/g01301/impl.errState", Rows.laid_loop_example_g01301_impl_errState), ("loop.example/g01301/impl.errSyntax", Rows.laid_loop_example_g01301_impl_errSyntax), ("loop.example/g01301/impl.errNotFound", Rows.laid_loop_example_g01301_impl_errNotFound)] [.data, .sentinel, .sentinel, .sentinel, .sentinel, .sentinel, .sentinel] true :=
  Program.laidByTextLater.sub seatTie1 ["math/bits.deBruijn64tab", "loop.example/g01301/impl.errInvalid", "loop.example/g01301/impl.errRange", "loop.example/g01301/impl.errLimit", "loop.example/g01301/impl.errState", "loop.example/g01301/impl.errSyntax", "loop.example/g01301/impl.errNotFound"] (by kernel_rfl) (by kernel_rfl)
theorem fnExactRepairCells_row_tie : Rows.fnExactRepairCellsRow.laidByTextAt .later Tryd.pinned [.data, .sentinel, .sentinel, .sentinel, .sentinel, .sentinel, .sentinel] true :=
  OpenClaim.laidByTextAt_later rfl rfl tie noOwnUnsafe
theorem fnExactDarkestFrame_row_tie : Rows.fnExactDarkestFrameRow.laidByTextAt .later Tryd.pinned [.data, .sentinel, .sentinel, .sentinel, .sentinel, .sentinel, .sentinel] true :=
  OpenClaim.laidByTextAt_later rfl rfl tie noOwnUnsafe
theorem fnExactBestOfCopies_row_tie : Rows.fnExactBestOfCopiesRow.laidByTextAt .later Tryd.pinned [.data, .sentinel, .sentinel, .sentinel, .sentinel, .sentinel, .sentinel] true :=
  OpenClaim.laidByTextAt_later rfl rfl tie noOwnUnsafe
theorem fnFrames_row_tie : Rows.fnFramesRow.laidByTextAt .later Tryd.pinned [.data, .sentinel, .sentinel, .sentinel, .sentinel, .sentinel, .sentinel] true :=
  OpenClaim.laidByTextAt_later rfl rfl tie noOwnUnsafe
theorem tie2 : Tryd.prog.laidByTextLater [("loop.example/g01301/impl.errInvalid", Rows.laid_loop_example_g01301_impl_errInvalid), ("loop.example/g01301/impl.errRange", Rows.laid_loop_example_g01301_impl_errRange), ("loop.example/g01301/impl.errLimit", Rows.laid_loop_example_g01301_impl_errLimit), ("loop.example/g01301/impl.errState", Rows.laid_loop_example_g01301_impl_errState), ("loop.example/g01301/impl.errSyntax", Rows.laid_loop_example_g01301_impl_errSyntax), ("loop.example/g01301/impl.errNotFound", Rows.laid_loop_example_g01301_impl_errNotFound)] [.sentinel, .sentinel, .sentinel, .sentinel, .sentinel, .sentinel] true :=
  Program.laidByTextLater.sub seatTie1 ["loop.example/g01301/impl.errInvalid", "loop.example/g01301/impl.errRange", "loop.example/g01301/impl.errLimit", "loop.example/g01301/impl.errState", "loop.example/g01301/impl.errSyntax", "loop.example/g01301/impl.errNotFound"] (by kernel_rfl) (by kernel_rfl)
theorem fnExactMedianPrint_row_tie : Rows.fnExactMedianPrintRow.laidByTextAt .later Tryd.pinned [.sentinel, .sentinel, .sentinel, .sentinel, .sentinel, .sentinel] true :=
  OpenClaim.laidByTextAt_later rfl rfl tie2 noOwnUnsafe
theorem fnExactSwapFrames_row_tie : Rows.fnExactSwapFramesRow.laidByTextAt .later Tryd.pinned [.sentinel, .sentinel, .sentinel, .sentinel, .sentinel, .sentinel] true :=
  OpenClaim.laidByTextAt_later rfl rfl tie2 noOwnUnsafe
theorem fnExactDropFrame_row_tie : Rows.fnExactDropFrameRow.laidByTextAt .later Tryd.pinned [.sentinel, .sentinel, .sentinel, .sentinel, .sentinel, .sentinel] true :=
  OpenClaim.laidByTextAt_later rfl rfl tie2 noOwnUnsafe
theorem fnExactPickFrames_row_tie : Rows.fnExactPickFramesRow.laidByTextAt .later Tryd.pinned [.sentinel, .sentinel, .sentinel, .sentinel, .sentinel, .sentinel] true :=
  OpenClaim.laidByTextAt_later rfl rfl tie2 noOwnUnsafe
theorem fnExactDustIn_row_tie : Rows.fnExactDustInRow.laidByTextAt .later Tryd.pinned [.sentinel, .sentinel, .sentinel, .sentinel, .sentinel, .sentinel] true :=
  OpenClaim.laidByTextAt_later rfl rfl tie2 noOwnUnsafe
theorem fnExactCleanestCopy_row_tie : Rows.fnExactCleanestCopyRow.laidByTextAt .later Tryd.pinned [.sentinel, .sentinel, .sentinel, .sentinel, .sentinel, .sentinel] true :=
  OpenClaim.laidByTextAt_later rfl rfl tie2 noOwnUnsafe
theorem fnExactFewestCopies_row_tie : Rows.fnExactFewestCopiesRow.laidByTextAt .later Tryd.pinned [.sentinel, .sentinel, .sentinel, .sentinel, .sentinel, .sentinel] true :=
  OpenClaim.laidByTextAt_later rfl rfl tie2 noOwnUnsafe
theorem fits3 : Tryd.pinned.checked.prog.listedFits [("unicode/utf8.acceptRanges", Rows.laid_unicode_utf8_acceptRanges), ("loop.example/g01301/impl.errInvalid", Rows.laid_loop_example_g01301_impl_errInvalid), ("loop.example/g01301/impl.errRange", Rows.laid_loop_example_g01301_impl_errRange), ("loop.example/g01301/impl.errLimit", Rows.laid_loop_example_g01301_impl_errLimit), ("loop.example/g01301/impl.errState", Rows.laid_loop_example_g01301_impl_errState), ("loop.example/g01301/impl.errSyntax", Rows.laid_loop_example_g01301_impl_errSyntax), ("loop.example/g01301/impl.errNotFound", Rows.laid_loop_example_g01301_impl_errNotFound), ("unicode/utf8.first", Rows.laid_unicode_utf8_first)] = true := by
  unfold Program.listedFits
  rw [noOwnUnsafe]
  kernel_rfl
theorem tie3 : Tryd.prog.laidByTextLater [("unicode/utf8.acceptRanges", Rows.laid_unicode_utf8_acceptRanges), ("loop.example/g01301/impl.errInvalid", Rows.laid_loop_example_g01301_impl_errInvalid), ("loop.example/g01301/impl.errRange", Rows.laid_loop_example_g01301_impl_errRange), ("loop.example/g01301/impl.errLimit", Rows.laid_loop_example_g01301_impl_errLimit), ("loop.example/g01301/impl.errState", Rows.laid_loop_example_g01301_impl_errState), ("loop.example/g01301/impl.errSyntax", Rows.laid_loop_example_g01301_impl_errSyntax), ("loop.example/g01301/impl.errNotFound", Rows.laid_loop_example_g01301_impl_errNotFound)] [.data, .sentinel, .sentinel, .sentinel, .sentinel, .sentinel, .sentinel] true :=
  Program.laidByTextLater.sub seatTie1 ["unicode/utf8.acceptRanges", "loop.example/g01301/impl.errInvalid", "loop.example/g01301/impl.errRange", "loop.example/g01301/impl.errLimit", "loop.example/g01301/impl.errState", "loop.example/g01301/impl.errSyntax", "loop.example/g01301/impl.errNotFound"] (by kernel_rfl) (by kernel_rfl)
theorem fnExactReadMask_row_tie : Rows.fnExactReadMaskRow.laidByTextAt .later Tryd.pinned [.data, .sentinel, .sentinel, .sentinel, .sentinel, .sentinel, .sentinel, .pinned] true :=
  OpenClaim.laidByTextAt_pinned rfl rfl tie3 rfl rfl rfl rfl (fun y hy _e => by
    simp only [Rows.fnExactReadMaskRow, List.zip_cons_cons, List.zip_nil_right, List.mem_cons, List.mem_nil_iff, or_false] at hy
    rcases hy with rfl | rfl | rfl | rfl | rfl | rfl | rfl | rfl
    · cases _e
    · cases _e
    · cases _e
    · cases _e
    · cases _e
    · cases _e
    · cases _e
    · exact ⟨pin_laid_unicode_utf8_first, by kernel_rfl⟩) fits3
theorem fnExactRepairCellsUpto_row_tie : Rows.fnExactRepairCellsUptoRow.laidByTextAt .later Tryd.pinned [.data, .sentinel, .sentinel, .sentinel, .sentinel, .sentinel, .sentinel] true :=
  OpenClaim.laidByTextAt_later rfl rfl tie noOwnUnsafe
theorem fnExactDarkestFrameUpto_row_tie : Rows.fnExactDarkestFrameUptoRow.laidByTextAt .later Tryd.pinned [.data, .sentinel, .sentinel, .sentinel, .sentinel, .sentinel, .sentinel] true :=
  OpenClaim.laidByTextAt_later rfl rfl tie noOwnUnsafe
theorem fnExactBestOfCopiesUpto_row_tie : Rows.fnExactBestOfCopiesUptoRow.laidByTextAt .later Tryd.pinned [.data, .sentinel, .sentinel, .sentinel, .sentinel, .sentinel, .sentinel] true :=
  OpenClaim.laidByTextAt_later rfl rfl tie noOwnUnsafe
theorem fnExactMedianPrintUpto_row_tie : Rows.fnExactMedianPrintUptoRow.laidByTextAt .later Tryd.pinned [.sentinel, .sentinel, .sentinel, .sentinel, .sentinel, .sentinel] true :=
  OpenClaim.laidByTextAt_later rfl rfl tie2 noOwnUnsafe
theorem fnExactSwapFramesUpto_row_tie : Rows.fnExactSwapFramesUptoRow.laidByTextAt .later Tryd.pinned [.sentinel, .sentinel, .sentinel, .sentinel, .sentinel, .sentinel] true :=
  OpenClaim.laidByTextAt_later rfl rfl tie2 noOwnUnsafe
theorem fnExactDropFrameUpto_row_tie : Rows.fnExactDropFrameUptoRow.laidByTextAt .later Tryd.pinned [.sentinel, .sentinel, .sentinel, .sentinel, .sentinel, .sentinel] true :=
  OpenClaim.laidByTextAt_later rfl rfl tie2 noOwnUnsafe
theorem fnExactPickFramesUpto_row_tie : Rows.fnExactPickFramesUptoRow.laidByTextAt .later Tryd.pinned [.sentinel, .sentinel, .sentinel, .sentinel, .sentinel, .sentinel] true :=
  OpenClaim.laidByTextAt_later rfl rfl tie2 noOwnUnsafe
theorem fnExactDustInUpto_row_tie : Rows.fnExactDustInUptoRow.laidByTextAt .later Tryd.pinned [.sentinel, .sentinel, .sentinel, .sentinel, .sentinel, .sentinel] true :=
  OpenClaim.laidByTextAt_later rfl rfl tie2 noOwnUnsafe
theorem fnExactCleanestCopyUpto_row_tie : Rows.fnExactCleanestCopyUptoRow.laidByTextAt .later Tryd.pinned [.sentinel, .sentinel, .sentinel, .sentinel, .sentinel, .sentinel] true :=
  OpenClaim.laidByTextAt_later rfl rfl tie2 noOwnUnsafe
theorem fnExactReadMaskUpto_row_tie : Rows.fnExactReadMaskUptoRow.laidByTextAt .later Tryd.pinned [.data, .sentinel, .sentinel, .sentinel, .sentinel, .sentinel, .sentinel, .pinned] true :=
  OpenClaim.laidByTextAt_pinned rfl rfl tie3 rfl rfl rfl rfl (fun y hy _e => by
    simp only [Rows.fnExactReadMaskUptoRow, List.zip_cons_cons, List.zip_nil_right, List.mem_cons, List.mem_nil_iff, or_false] at hy
    rcases hy with rfl | rfl | rfl | rfl | rfl | rfl | rfl | rfl
    · cases _e
    · cases _e
    · cases _e
    · cases _e
    · cases _e
    · cases _e
    · cases _e
    · exact ⟨pin_laid_unicode_utf8_first, by kernel_rfl⟩) fits3
theorem fnFramesUpto_row_tie : Rows.fnFramesUptoRow.laidByTextAt .later Tryd.pinned [.data, .sentinel, .sentinel, .sentinel, .sentinel, .sentinel, .sentinel] true :=
  OpenClaim.laidByTextAt_later rfl rfl tie noOwnUnsafe
theorem fnExactFewestCopiesUpto_row_tie : Rows.fnExactFewestCopiesUptoRow.laidByTextAt .later Tryd.pinned [.sentinel, .sentinel, .sentinel, .sentinel, .sentinel, .sentinel] true :=
  OpenClaim.laidByTextAt_later rfl rfl tie2 noOwnUnsafe
end Go.Proofs.YtliflkhoejngdaaDoor
