/-
  The reference's least and greatest of two numbers, and the size of one. No condition.
-/
import Derived.Test.YtalpgamhiofeeaaDoorBase
namespace Go.Proofs.YtalpgamhiofeeaaDoor
open Go.RowKit

theorem inRange_yes (n lo hi : Int) (h : lo ≤ n ∧ n ≤ hi) (w : World) :
    Calls Tryd.prog 52 #[.int .i64 n, .int .i64 lo, .int .i64 hi] w fun e w' => e = .returned (.bool true) ∧ w = w' := by
  have := inRange_any n lo hi w
  rwa [inB_true.2 h] at this

theorem inRange_no (n lo hi : Int) (h : ¬ (lo ≤ n ∧ n ≤ hi)) (w : World) :
    Calls Tryd.prog 52 #[.int .i64 n, .int .i64 lo, .int .i64 hi] w fun e w' => e = .returned (.bool false) ∧ w = w' := by
  have := inRange_any n lo hi w
  rwa [inB_false.2 h] at this
end Go.Proofs.YtalpgamhiofeeaaDoor
