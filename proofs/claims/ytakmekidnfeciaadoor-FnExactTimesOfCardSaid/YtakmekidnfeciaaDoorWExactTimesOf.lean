/-
  The walk of the law FnExactTimesOf: it returns true for every list. Condition: the listed variables hold what the row lists.
-/
import Derived.Test.YtakmekidnfeciaaDoorTimesOf
import Derived.Test.YtakmekidnfeciaaDoorEnv
namespace Go.Proofs.YtakmekidnfeciaaDoor
open Go.RowKit

set_option maxHeartbeats 1000000 in
theorem walk_FnExactTimesOf (A : Option Addr) (n cap : Nat) (xs : Nat → Int) (w : World) (hL : laidMetH Tryd.prog Rows.fnExactTimesOfRow.laid w) (hr : IntsIn w A n xs) (hm : n ≤ maxLen) :
    Calls Tryd.prog 7 #[.slice A n cap] w fun e w' => e = .returned (.bool true) ∧ Below w.heap.size w w' := by
  obtain ⟨s, hE⟩ := errEnv_of_row hL (by kernel_rfl) (by kernel_rfl)
  have hT := timEnv_of_row hL (by kernel_rfl) (by kernel_rfl)
  unfold maxLen at hm
  by_cases hn : n ≤ 1048576
  · go_enter Tryd.func7, Tryd.ntmps7
    go_wp2_with fail
    refine (toInt64S_any A n cap xs hn _ hr).mono ?_; rintro e w1 ⟨rfl, hr1, hb1⟩
    go_wp2_with fail
    refine (specTimesOf_any _ n n xs hn _ hr1).mono ?_; rintro e w2 ⟨rfl, hb2⟩
    have k2 := hb1.trans (hb2.mono hb1.size)
    go_wp2_with fail
    refine (toInt64S_any A n cap xs hn _ (hr.below k2 (Nat.le_refl _))).mono ?_; rintro e w3 ⟨rfl, hr3, hb3⟩
    have k3 := k2.trans (hb3.mono k2.size)
    go_wp2_with fail
    refine (TimesOf_any s _ n n xs _ hr3 (hT.below k3 (Nat.le_refl _)) (hE.below k3 (Nat.le_refl _))).mono ?_; rintro e w4 ⟨rfl, hb4⟩
    have k4 := k3.trans (hb4.mono k3.size)
    have hr4 := rowIs_below hr3 hb4 hr3.lt
    go_wp2_with fail
    refine (toInt64S_any A n cap xs hn _ (hr.below k4 (Nat.le_refl _))).mono ?_; rintro e w5 ⟨rfl, hr5, hb5⟩
    have k5 := k4.trans (hb5.mono k4.size)
    have hr6 := rowIs_below hr4 hb5 hr4.lt
    go_wp2_with fail
    refine (eqInt64S_same _ _ n n n xs hn _ hr6 hr5).mono ?_; rintro e w6 ⟨rfl, hb6⟩
    go_wp2_with fail
    go_ret
    exact ⟨rfl, k5.trans (hb6.mono k5.size)⟩
  · go_enter Tryd.func7, Tryd.ntmps7
    go_wp2
    go_ret
    exact ⟨rfl, Below.refl _ _⟩
end Go.Proofs.YtakmekidnfeciaaDoor
