/-
  The reference's least and greatest of two numbers, and the size of one. No condition.
-/
import Derived.Test.YtakmekidnfeciaaDoorBase
namespace Go.Proofs.YtakmekidnfeciaaDoor
open Go.RowKit

theorem maxI_any (a b : Int) (w : World) :
    Calls Tryd.prog 98 #[.int .i64 a, .int .i64 b] w fun e w' => e = .returned (.int .i64 (max a b)) ∧ w = w' := by
  by_cases h : b < a
  all_goals
    go_enter Tryd.func98, Tryd.ntmps98
    go_wp2
    all_goals
      go_ret
      exact ⟨ret_int (by omega), rfl⟩

theorem minI_any (a b : Int) (w : World) :
    Calls Tryd.prog 108 #[.int .i64 a, .int .i64 b] w fun e w' => e = .returned (.int .i64 (min a b)) ∧ w = w' := by
  by_cases h : a < b
  all_goals
    go_enter Tryd.func108, Tryd.ntmps108
    go_wp2
    all_goals
      go_ret
      exact ⟨ret_int (by omega), rfl⟩

theorem inRange_yes (n lo hi : Int) (h : lo ≤ n ∧ n ≤ hi) (w : World) :
    Calls Tryd.prog 89 #[.int .i64 n, .int .i64 lo, .int .i64 hi] w fun e w' => e = .returned (.bool true) ∧ w = w' := by
  have := inRange_any n lo hi w
  rwa [inB_true.2 h] at this

theorem inRange_no (n lo hi : Int) (h : ¬ (lo ≤ n ∧ n ≤ hi)) (w : World) :
    Calls Tryd.prog 89 #[.int .i64 n, .int .i64 lo, .int .i64 hi] w fun e w' => e = .returned (.bool false) ∧ w = w' := by
  have := inRange_any n lo hi w
  rwa [inB_false.2 h] at this
end Go.Proofs.YtakmekidnfeciaaDoor
