/-
  The walk of the law FnExactMaskOf: it returns true for every argument. Condition: the program's variables hold their own errors.
-/
import Derived.Test.YtbpiajnkfccndaaDoorMaskS
import Derived.Test.YtbpiajnkfccndaaDoorEnv
import Derived.Test.YtbpiajnkfccndaaDoorRows
namespace Go.Proofs.YtbpiajnkfccndaaDoor
open Go.RowKit

set_option maxRecDepth 100000 in
set_option maxHeartbeats 2000000 in
theorem walk_FnExactMaskOf (W : Int) (_h1 : -9223372036854775808 ≤ W) (_h2 : W ≤ 9223372036854775807) (N : Int) (_h3 : -9223372036854775808 ≤ N) (_h4 : N ≤ 9223372036854775807) (E : Int) (_h5 : -9223372036854775808 ≤ E) (_h6 : E ≤ 9223372036854775807) (S : Int) (_h7 : -9223372036854775808 ≤ S) (_h8 : S ≤ 9223372036854775807) (w : World) (hL : laidMetH Tryd.prog Rows.fnExactMaskOfRow.laid w) :
    Calls Tryd.prog 3 #[.int .i64 W, .int .i64 N, .int .i64 E, .int .i64 S] w fun e w' => e = .returned (.bool true) ∧ Below w.heap.size w w' := by
  clear _h1 _h2 _h3 _h4 _h5 _h6 _h7 _h8
  obtain ⟨s, hE⟩ := errEnv_of_row hL (by kernel_rfl) (by rfl)
  have hs := fun V => specMaskOf_any W N E S V
  have hi := fun V h => MaskOf_any s W N E S V h
  generalize rctV W N E S = X at *
  generalize rctC W N E S = C at *
  have Hs := Lib.hid hs; clear hs
  have Hi := Lib.hid hi; clear hi hL
  go_enter Tryd.func3, Tryd.ntmps3
  go_wp2_with fail
  refine (Hs.out _).mono ?_; rintro e w1 ⟨rfl, rfl⟩
  go_wp2_with fail
  refine (Hi.out _ hE).mono ?_; rintro e w2 ⟨rfl, hb2⟩
  go_wp2_with fail
  go_ret
  exact ⟨rfl, hb2⟩
end Go.Proofs.YtbpiajnkfccndaaDoor
