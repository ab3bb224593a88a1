/-
  The walk of the law FnExactTimeOf: it returns true for every argument. Condition: the listed variables hold what the row lists.
-/
import Derived.Test.YtakmekidnfeciaaDoorEnv
import Derived.Test.YtakmekidnfeciaaDoorTimes
namespace Go.Proofs.YtakmekidnfeciaaDoor
open Go.RowKit

set_option maxHeartbeats 400000 in
theorem walk_FnExactTimeOf (k : Int) (_hk : -9223372036854775808 ≤ k) (_gk : k ≤ 9223372036854775807) (w : World) (hL : laidMetH Tryd.prog Rows.fnExactTimeOfRow.laid w) :
    Calls Tryd.prog 4 #[.int .i64 k] w fun e w' => e = .returned (.bool true) ∧ Below w.heap.size w w' := by
  obtain ⟨s, hE⟩ := errEnv_of_row hL (by kernel_rfl) (by kernel_rfl)
  have hT := timEnv_of_row hL (by kernel_rfl) (by kernel_rfl)
  go_enter Tryd.func4, Tryd.ntmps4
  go_wp2_with fail
  refine (specTimeOf_any k _).mono ?_; rintro e w1 ⟨rfl, hb1⟩
  go_wp2_with fail
  refine (TimeOf_any s k _ (hT.below hb1 (Nat.le_refl _)) (hE.below hb1 (Nat.le_refl _))).mono ?_; rintro e w2 ⟨rfl, hb2⟩
  go_wp2_with fail
  go_ret
  exact ⟨rfl, hb1.trans (hb2.mono hb1.size)⟩
end Go.Proofs.YtakmekidnfeciaaDoor
