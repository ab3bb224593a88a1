/-
  The walk of the law FnExactMaskText: it returns true for every argument. No condition.
-/
import Derived.Test.YtbghpcblkfiipaaMtx
namespace Go.Proofs.Ytbghpcblkfiipaa
open Go.RowKit

set_option maxHeartbeats 1000000 in
theorem walk_FnExactMaskText (x : Int) (h0 : 0 ≤ x) (h1 : x ≤ 18446744073709551615) (w : World) :
    Calls Try.prog 8 #[.int .u64 x] w fun e w' => e = .returned (.bool true) ∧ Below w.heap.size w w' := by
  obtain ⟨m, rfl⟩ := bvI_of h0 h1
  have hs := Lib.hid (MaskText_spec m)
  have hi := Lib.hid (MaskText_any m)
  generalize mtx m 64 = G at *
  go_enter Try.func8, Try.ntmps8
  go_wp2_with (first | (go_at_call 25; refine (hs.out _).mono ?_; rintro e w1 ⟨rfl, k1⟩) | (go_at_call 26; refine (hi.out _).mono ?_; rintro e w' ⟨rfl, rfl⟩))
  go_ret
  exact ⟨rfl, k1⟩
end Go.Proofs.Ytbghpcblkfiipaa
