/-
  The walk of the law FnExactGrowMask: it returns true for every argument. No condition.
-/
import Derived.Test.YtbghpcblkfiipaaGrow
namespace Go.Proofs.Ytbghpcblkfiipaa
open Go.RowKit

set_option maxHeartbeats 1000000 in
theorem walk_FnExactGrowMask (x : Int) (h0 : 0 ≤ x) (h1 : x ≤ 18446744073709551615) (w : World) :
    Calls Try.prog 6 #[.int .u64 x] w fun e w' => e = .returned (.bool true) ∧ Below w.heap.size w w' := by
  obtain ⟨m, rfl⟩ := bvI_of h0 h1
  have hs := Lib.hid (specGrowMask_any m)
  have hi := Lib.hid (GrowMask_any m)
  generalize bvI (growB m) = G at *
  go_enter Try.func6, Try.ntmps6
  go_wp2_with (first | (go_at_call 18; refine (hs.out _).mono ?_; rintro e w' ⟨rfl, rfl⟩) | (go_at_call 19; refine (hi.out _).mono ?_; rintro e w1 ⟨rfl, k1⟩))
  go_ret
  exact ⟨rfl, k1⟩
end Go.Proofs.Ytbghpcblkfiipaa
