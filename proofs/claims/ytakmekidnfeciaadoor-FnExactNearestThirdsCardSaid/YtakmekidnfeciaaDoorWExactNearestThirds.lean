/-
  The walk of the law FnExactNearestThirds: it returns true for every argument. Condition: the listed variables hold what the row lists.
-/
import Derived.Test.YtakmekidnfeciaaDoorEnv
import Derived.Test.YtakmekidnfeciaaDoorTimes3
namespace Go.Proofs.YtakmekidnfeciaaDoor
open Go.RowKit

set_option maxHeartbeats 400000 in
theorem walk_FnExactNearestThirds (n : Int) (_hn : -9223372036854775808 ≤ n) (_gn : n ≤ 9223372036854775807) (w : World) (hL : laidMetH Tryd.prog Rows.fnExactNearestThirdsRow.laid w) :
    Calls Tryd.prog 6 #[.int .i64 n] w fun e w' => e = .returned (.bool true) ∧ Below w.heap.size w w' := by
  obtain ⟨s, hE⟩ := errEnv_of_row hL (by kernel_rfl) (by kernel_rfl)
  have hT := timEnv_of_row hL (by kernel_rfl) (by kernel_rfl)
  go_enter Tryd.func6, Tryd.ntmps6
  go_wp2_with fail
  refine (specNearestThirds_any n _).mono ?_; rintro e w1 ⟨rfl, hb1⟩
  go_wp2_with fail
  refine (NearestThirds_any s n _ (hT.below hb1 (Nat.le_refl _)) (hE.below hb1 (Nat.le_refl _))).mono ?_; rintro e w2 ⟨rfl, hb2⟩
  go_wp2_with fail
  go_ret
  exact ⟨rfl, hb1.trans (hb2.mono hb1.size)⟩
end Go.Proofs.YtakmekidnfeciaaDoor
