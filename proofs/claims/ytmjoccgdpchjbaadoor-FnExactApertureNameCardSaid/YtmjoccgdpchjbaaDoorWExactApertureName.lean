/-
  The walk of the law FnExactApertureName: it returns true for every number. Condition: the listed variables hold what the row lists.
-/
import Derived.Test.YtmjoccgdpchjbaaDoorEnvN
namespace Go.Proofs.YtmjoccgdpchjbaaDoor
open Go.RowKit

set_option maxHeartbeats 400000 in
theorem walk_FnExactApertureName (n : Int) (_h : -9223372036854775808 ≤ n) (_h' : n ≤ 9223372036854775807) (w : World) (hL : laidMetH Tryd.prog Rows.fnExactApertureNameRow.laid w) :
    Calls Tryd.prog 5 #[.int .i64 n] w fun e w' => e = .returned (.bool true) ∧ Below w.heap.size w w' := by
  have hN := aperEnv hL (by kernel_rfl) (by kernel_rfl)
  have hM := markEnv hL (by kernel_rfl) (by kernel_rfl)
  go_enter Tryd.func5, Tryd.ntmps5
  go_wp2_with fail
  refine (specApertureName_any n _).mono ?_; rintro e w1 ⟨rfl, hb1⟩
  go_wp2_with fail
  refine (ApertureName_any n _ (hN.below hb1 (Nat.le_refl _)) (hM.below hb1 (Nat.le_refl _))).mono ?_; rintro e w2 ⟨rfl, m, rfl⟩
  go_wp2_with fail
  go_ret
  exact ⟨rfl, below_drewN' hb1 _⟩
end Go.Proofs.YtmjoccgdpchjbaaDoor
