/-
  The walk of the law FnExactCodeName: it returns true for every number. Condition: the listed variables hold what the row lists.
-/
import Derived.Test.YtmjoccgdpchjbaaDoorEnvN
namespace Go.Proofs.YtmjoccgdpchjbaaDoor
open Go.RowKit

set_option maxHeartbeats 400000 in
theorem walk_FnExactCodeName (n : Int) (_h : -9223372036854775808 ≤ n) (_h' : n ≤ 9223372036854775807) (w : World) (hL : laidMetH Tryd.prog Rows.fnExactCodeNameRow.laid w) :
    Calls Tryd.prog 3 #[.int .i64 n] w fun e w' => e = .returned (.bool true) ∧ Below w.heap.size w w' := by
  have hN := codeEnv hL (by kernel_rfl) (by kernel_rfl)
  go_enter Tryd.func3, Tryd.ntmps3
  go_wp2_with fail
  refine (specCodeName_any n _).mono ?_; rintro e w1 ⟨rfl, hb1⟩
  go_wp2_with fail
  refine (CodeName_any n _ (hN.below hb1 (Nat.le_refl _))).mono ?_; rintro e w2 ⟨rfl, rfl⟩
  go_wp2_with fail
  go_ret
  exact ⟨rfl, hb1⟩
end Go.Proofs.YtmjoccgdpchjbaaDoor
