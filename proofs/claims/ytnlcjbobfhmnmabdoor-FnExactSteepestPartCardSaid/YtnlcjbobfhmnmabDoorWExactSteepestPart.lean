/-
  The walk of the law FnExactSteepestPart: it returns true for every argument. Condition: the listed variables hold what the row lists.
-/
import Derived.Test.YtnlcjbobfhmnmabDoorOpenP
import Derived.Test.YtnlcjbobfhmnmabDoorSteepS
import Derived.Test.YtnlcjbobfhmnmabDoorSteepK
import Derived.Test.YtnlcjbobfhmnmabDoorEnv
namespace Go.Proofs.YtnlcjbobfhmnmabDoor
open Go.RowKit

set_option maxRecDepth 100000 in
set_option maxHeartbeats 1000000 in
theorem walk_FnExactSteepestPart (A0 : Option Addr) (n0 cap0 : Nat) (fs0 es0 : Nat → Int) (w : World) (hL : laidMetH Tryd.prog Rows.fnExactSteepestPartRow.laid w) (hr0 : PtsIn w A0 n0 fs0 es0) (hm0 : n0 ≤ maxLen) (hs0 : SmallP n0 fs0 es0) :
    Calls Tryd.prog 3 #[.slice A0 n0 cap0] w fun e w' => e = .returned (.bool true) ∧ Below w.heap.size w w' := by
  obtain ⟨s, hE⟩ := errEnv_of_row hL (by kernel_rfl) (by kernel_rfl)
  unfold maxLen at hm0
  by_cases hn0 : n0 ≤ 1048576
  rotate_left
  · clear hr0
    have hz0 := szCurve_any A0 n0 cap0 (1048576) (by omega) (by omega) hm0
    rw [if_neg (by omega)] at hz0
    have Hz0 := Lib.hid hz0; clear hz0
    go_enter Tryd.func3, Tryd.ntmps3
    go_wp2_with fail
    refine (Hz0.out _).mono ?_; rintro e z0 ⟨rfl, rfl⟩
    go_wp2
    go_ret
    exact ⟨rfl, Below.refl _ _⟩
  have hz0 := szCurve_any A0 n0 cap0 (1048576) (by omega) (by omega) hm0
  rw [if_pos (by omega)] at hz0
  have hN0 : n0 ≤ 1048576 := by omega
  have Hz0 := Lib.hid hz0; clear hz0
  have hsp := fun b0 (W : World) hW0 => specSteepestPart_any b0 n0 n0 fs0 es0 hN0 hs0 W hW0
  have him := fun b0 (W : World) hW0 hEW => SteepestPart_any s b0 n0 n0 fs0 es0 hN0 hs0 W hW0 hEW
  have Hsp := Lib.hid hsp; clear hsp
  have Him := Lib.hid him; clear him
  have k0 := Below.refl w.heap.size w
  go_enter Tryd.func3, Tryd.ntmps3
  go_wp2_with fail
  refine (Hz0.out _).mono ?_; rintro e z0 ⟨rfl, rfl⟩
  go_wp2_with fail
  refine (toCurve_any A0 n0 cap0 fs0 es0 hN0 _ (hr0.below k0 (Nat.le_refl _))).mono ?_; rintro e w1 ⟨rfl, ra0, hb1⟩
  have k1 := k0.trans (hb1.mono k0.size)
  go_wp2_with fail
  refine (Hsp.out _ _ ra0).mono ?_; rintro e w2 ⟨rfl, hb2⟩
  have k2 := k1.trans (hb2.mono k1.size)
  have ra0 := ra0.below hb2 ra0.lt
  go_wp2_with fail
  refine (toCurve_any A0 n0 cap0 fs0 es0 hN0 _ (hr0.below k2 (Nat.le_refl _))).mono ?_; rintro e w3 ⟨rfl, rb0, hb3⟩
  have k3 := k2.trans (hb3.mono k2.size)
  go_wp2_with fail
  refine (Him.out _ _ rb0 (hE.below k3 (Nat.le_refl _))).mono ?_; rintro e w4 ⟨rfl, hb4⟩
  have k4 := k3.trans (hb4.mono k3.size)
  have rb0 := rb0.below hb4 rb0.lt
  go_wp2_with fail
  refine (toCurve_any A0 n0 cap0 fs0 es0 hN0 _ (hr0.below k4 (Nat.le_refl _))).mono ?_; rintro e w5 ⟨rfl, rc0, hb5⟩
  have k5 := k4.trans (hb5.mono k4.size)
  have rb0 := rb0.below hb5 rb0.lt
  go_wp2_with fail
  refine (eqCurve_same _ _ n0 n0 n0 fs0 es0 hN0 _ rb0 rc0).mono ?_; rintro e w6 ⟨rfl, hb6⟩
  have k6 := k5.trans (hb6.mono k5.size)
  have rb0 := rb0.below hb6 rb0.lt
  have rc0 := rc0.below hb6 rc0.lt
  go_wp2_with fail
  go_ret
  exact ⟨rfl, k6⟩
end Go.Proofs.YtnlcjbobfhmnmabDoor
