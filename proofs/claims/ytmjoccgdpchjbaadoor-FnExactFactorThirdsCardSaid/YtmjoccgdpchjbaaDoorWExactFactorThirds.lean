/-
  The walk of the law FnExactFactorThirds: it returns true for every argument. Condition: the listed variables hold what the row lists.
-/
import Derived.Test.YtmjoccgdpchjbaaDoorEnv
import Derived.Test.YtmjoccgdpchjbaaDoorTimes2
namespace Go.Proofs.YtmjoccgdpchjbaaDoor
open Go.RowKit

set_option maxHeartbeats 400000 in
theorem walk_FnExactFactorThirds (f : Int) (_hf : -9223372036854775808 ≤ f) (_gf : f ≤ 9223372036854775807) (w : World) (hL : laidMetH Tryd.prog Rows.fnExactFactorThirdsRow.laid w) :
    Calls Tryd.prog 9 #[.int .i64 f] w fun e w' => e = .returned (.bool true) ∧ Below w.heap.size w w' := by
  obtain ⟨s, hE⟩ := errEnv_of_row hL (by kernel_rfl) (by kernel_rfl)
  have hT := timEnv_of_row hL (by kernel_rfl) (by kernel_rfl)
  go_enter Tryd.func9, Tryd.ntmps9
  go_wp2_with fail
  refine (specFactorThirds_any f _).mono ?_; rintro e w1 ⟨rfl, hb1⟩
  go_wp2_with fail
  refine (FactorThirds_any s f _ (hT.below hb1 (Nat.le_refl _)) (hE.below hb1 (Nat.le_refl _))).mono ?_; rintro e w2 ⟨rfl, hb2⟩
  go_wp2_with fail
  go_ret
  exact ⟨rfl, hb1.trans (hb2.mono hb1.size)⟩
end Go.Proofs.YtmjoccgdpchjbaaDoor
