/-
  The walk of the law FnExactExtraFor: it returns true for every argument. Condition: the listed variables hold what the row lists.
-/
import Derived.Test.YtmjoccgdpchjbaaDoorOpenL
import Derived.Test.YtmjoccgdpchjbaaDoorExtra
import Derived.Test.YtmjoccgdpchjbaaDoorEnv
namespace Go.Proofs.YtmjoccgdpchjbaaDoor
open Go.RowKit

set_option maxHeartbeats 1000000 in
theorem walk_FnExactExtraFor (A : Option Addr) (n cap : Nat) (fs es : Nat → Int) (sh : Int) (_h : -9223372036854775808 ≤ sh) (_h' : sh ≤ 9223372036854775807) (w : World) (hL : laidMetH Tryd.prog Rows.fnExactExtraForRow.laid w) (hr : LongsIn w A n fs es) (hm : n ≤ maxLen) (hs : Small n fs es) :
    Calls Tryd.prog 11 #[.slice A n cap, .int .i64 sh] w fun e w' => e = .returned (.bool true) ∧ Below w.heap.size w w' := by
  obtain ⟨s, hE⟩ := errEnv_of_row hL (by kernel_rfl) (by kernel_rfl)
  unfold maxLen at hm
  have hsz := szLongS_any A n cap
  by_cases hn : n ≤ 1048576
  · have hle : (n : Int) ≤ 1048576 := by omega
    rw [if_pos hle] at hsz
    have Hsz := Lib.hid hsz; clear hsz
    go_enter Tryd.func11, Tryd.ntmps11
    go_wp2_with fail
    refine (Hsz.out (by omega) _).mono ?_; rintro e w0 ⟨rfl, rfl⟩
    go_wp2_with fail
    refine (toLongS_any A n cap fs es hn _ hr).mono ?_; rintro e w1 ⟨rfl, hr1, hb1⟩
    go_wp2_with fail
    refine (specExtraFor_any _ n n fs es sh hn hs _ hr1).mono ?_; rintro e w2 ⟨rfl, rfl⟩
    go_wp2_with fail
    refine (toLongS_any A n cap fs es hn _ (hr.below hb1 (Nat.le_refl _))).mono ?_; rintro e w3 ⟨rfl, hr3, hb3⟩
    have k3 := hb1.trans (hb3.mono hb1.size)
    go_wp2_with fail
    refine (ExtraFor_any s _ n n fs es sh hn hs _ hr3 (hE.below k3 (Nat.le_refl _))).mono ?_; rintro e w4 ⟨rfl, hb4⟩
    have k4 := k3.trans (hb4.mono k3.size)
    have hr4 := hr3.below hb4 hr3.lt
    go_wp2_with fail
    refine (toLongS_any A n cap fs es hn _ (hr.below k4 (Nat.le_refl _))).mono ?_; rintro e w5 ⟨rfl, hr5, hb5⟩
    have k5 := k4.trans (hb5.mono k4.size)
    have hr6 := hr4.below hb5 hr4.lt
    go_wp2_with fail
    refine (eqLongS_same _ _ n n n fs es hn _ hr6 hr5).mono ?_; rintro e w6 ⟨rfl, hb6⟩
    go_wp2_with fail
    go_ret
    exact ⟨rfl, k5.trans (hb6.mono k5.size)⟩
  · have hle : ¬ (n : Int) ≤ 1048576 := by omega
    rw [if_neg hle] at hsz
    have Hsz := Lib.hid hsz; clear hsz
    go_enter Tryd.func11, Tryd.ntmps11
    go_wp2_with fail
    refine (Hsz.out hm _).mono ?_; rintro e w0 ⟨rfl, rfl⟩
    go_wp2
    go_ret
    exact ⟨rfl, Below.refl _ _⟩
end Go.Proofs.YtmjoccgdpchjbaaDoor
