/-
  The walk of the law FnExactEnlargedBy: it returns true for every argument. Condition: the listed variables hold what the row lists.
-/
import Derived.Test.YtakmekidnfeciaaDoorEnv
import Derived.Test.YtakmekidnfeciaaDoorTimes3
namespace Go.Proofs.YtakmekidnfeciaaDoor
open Go.RowKit

set_option maxHeartbeats 400000 in
theorem walk_FnExactEnlargedBy (k : Int) (_hk : -9223372036854775808 ≤ k) (_gk : k ≤ 9223372036854775807) (b : Int) (_hb : -9223372036854775808 ≤ b) (_gb : b ≤ 9223372036854775807) (a : Int) (_ha : -9223372036854775808 ≤ a) (_ga : a ≤ 9223372036854775807) (w : World) (hL : laidMetH Tryd.prog Rows.fnExactEnlargedByRow.laid w) :
    Calls Tryd.prog 8 #[.int .i64 k, .int .i64 b, .int .i64 a] w fun e w' => e = .returned (.bool true) ∧ Below w.heap.size w w' := by
  obtain ⟨s, hE⟩ := errEnv_of_row hL (by kernel_rfl) (by kernel_rfl)
  have hT := timEnv_of_row hL (by kernel_rfl) (by kernel_rfl)
  go_enter Tryd.func8, Tryd.ntmps8
  go_wp2_with fail
  refine (specEnlargedBy_any k b a _).mono ?_; rintro e w1 ⟨rfl, hb1⟩
  go_wp2_with fail
  refine (EnlargedBy_any s k b a _ (hT.below hb1 (Nat.le_refl _)) (hE.below hb1 (Nat.le_refl _))).mono ?_; rintro e w2 ⟨rfl, hb2⟩
  go_wp2_with fail
  go_ret
  exact ⟨rfl, hb1.trans (hb2.mono hb1.size)⟩
end Go.Proofs.YtakmekidnfeciaaDoor
