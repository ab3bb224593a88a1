/-
  The walk of the law FnExactPrintedRange: it returns true for every argument. Condition: the listed variables hold what the row lists.
-/
import Derived.Test.YtajojnelkddpkaaDoorOpenP
import Derived.Test.YtajojnelkddpkaaDoorRng2
import Derived.Test.YtajojnelkddpkaaDoorEnv
namespace Go.Proofs.YtajojnelkddpkaaDoor
open Go.RowKit

set_option maxRecDepth 100000 in
set_option maxHeartbeats 1000000 in
theorem walk_FnExactPrintedRange (A0 : Option Addr) (n0 cap0 : Nat) (fs0 es0 : Nat → Int) (A1 : Option Addr) (n1 cap1 : Nat) (fs1 es1 : Nat → Int) (x2 : Int) (bl2 : -9223372036854775808 ≤ x2) (bh2 : x2 ≤ 9223372036854775807) (x3 : Int) (bl3 : -9223372036854775808 ≤ x3) (bh3 : x3 ≤ 9223372036854775807) (x4 : Int) (bl4 : -9223372036854775808 ≤ x4) (bh4 : x4 ≤ 9223372036854775807) (w : World) (hL : laidMetH Tryd.prog Rows.fnExactPrintedRangeRow.laid w) (hr0 : PtsIn w A0 n0 fs0 es0) (hm0 : n0 ≤ maxLen) (hs0 : SmallP n0 fs0 es0) (hr1 : PtsIn w A1 n1 fs1 es1) (hm1 : n1 ≤ maxLen) (hs1 : SmallP n1 fs1 es1) :
    Calls Tryd.prog 4 #[.slice A0 n0 cap0, .slice A1 n1 cap1, .int .i64 x2, .int .i64 x3, .int .i64 x4] w fun e w' => e = .returned (.bool true) ∧ Below w.heap.size w w' := by
  obtain ⟨s, hE⟩ := errEnv_of_row hL (by kernel_rfl) (by kernel_rfl)
  unfold maxLen at hm0 hm1
  by_cases hn0 : n0 ≤ 1048576
  rotate_left
  · clear hr0 hr1
    have hz0 := szCurve_any A0 n0 cap0 (1048576) (by omega) (by omega) hm0
    rw [if_neg (by omega)] at hz0
    have Hz0 := Lib.hid hz0; clear hz0
    go_enter Tryd.func4, Tryd.ntmps4
    go_wp2_with fail
    refine (Hz0.out _).mono ?_; rintro e z0 ⟨rfl, rfl⟩
    go_wp2
    go_ret
    exact ⟨rfl, Below.refl _ _⟩
  by_cases hn1 : n0 + n1 ≤ 1048576
  rotate_left
  · clear hr0 hr1
    have hz0 := szCurve_any A0 n0 cap0 (1048576) (by omega) (by omega) hm0
    rw [if_pos (by omega)] at hz0
    have hz1 := szCurve_any A1 n1 cap1 (1048576 - (n0 : Int)) (by omega) (by omega) hm1
    rw [if_neg (by omega)] at hz1
    have Hz0 := Lib.hid hz0; clear hz0
    have Hz1 := Lib.hid hz1; clear hz1
    go_enter Tryd.func4, Tryd.ntmps4
    go_wp2_with fail
    refine (Hz0.out _).mono ?_; rintro e z0 ⟨rfl, rfl⟩
    go_wp2_with fail
    refine (Hz1.out _).mono ?_; rintro e z1 ⟨rfl, rfl⟩
    go_wp2
    go_ret
    exact ⟨rfl, Below.refl _ _⟩
  have hz0 := szCurve_any A0 n0 cap0 (1048576) (by omega) (by omega) hm0
  rw [if_pos (by omega)] at hz0
  have hN0 : n0 ≤ 1048576 := by omega
  have hz1 := szCurve_any A1 n1 cap1 (1048576 - (n0 : Int)) (by omega) (by omega) hm1
  rw [if_pos (by omega)] at hz1
  have hN1 : n1 ≤ 1048576 := by omega
  have Hz0 := Lib.hid hz0; clear hz0
  have Hz1 := Lib.hid hz1; clear hz1
  have hsp := fun b0 b1 (W : World) hW0 hW1 => specPrintedRange_ex b0 n0 n0 fs0 es0 b1 n1 n1 fs1 es1 x2 x3 x4 hN0 hN1 hs0 hs1 W hW0 hW1
  have him := fun b0 b1 (W : World) hW0 hW1 hEW => PrintedRange_ex s b0 n0 n0 fs0 es0 b1 n1 n1 fs1 es1 x2 x3 x4 hN0 hN1 hs0 hs1 W hW0 hW1 hEW
  have Hsp := Lib.hid hsp; clear hsp
  have Him := Lib.hid him; clear him
  have k0 := Below.refl w.heap.size w
  go_enter Tryd.func4, Tryd.ntmps4
  go_wp2_with fail
  refine (Hz0.out _).mono ?_; rintro e z0 ⟨rfl, rfl⟩
  go_wp2_with fail
  refine (Hz1.out _).mono ?_; rintro e z1 ⟨rfl, rfl⟩
  go_wp2_with fail
  refine (toCurve_any A0 n0 cap0 fs0 es0 hN0 _ (hr0.below k0 (Nat.le_refl _))).mono ?_; rintro e w1 ⟨rfl, ra0, hb1⟩
  have k1 := k0.trans (hb1.mono k0.size)
  go_wp2_with fail
  refine (toCurve_any A1 n1 cap1 fs1 es1 hN1 _ (hr1.below k1 (Nat.le_refl _))).mono ?_; rintro e w2 ⟨rfl, ra1, hb2⟩
  have k2 := k1.trans (hb2.mono k1.size)
  have ra0 := ra0.below hb2 ra0.lt
  go_wp2_with fail
  refine (Hsp.out _ _ _ ra0 ra1).mono ?_; rintro e w3 ⟨rfl, hb3⟩
  have k3 := k2.trans (hb3.mono k2.size)
  have ra0 := ra0.below hb3 ra0.lt
  have ra1 := ra1.below hb3 ra1.lt
  go_wp2_with fail
  refine (toCurve_any A0 n0 cap0 fs0 es0 hN0 _ (hr0.below k3 (Nat.le_refl _))).mono ?_; rintro e w4 ⟨rfl, rb0, hb4⟩
  have k4 := k3.trans (hb4.mono k3.size)
  go_wp2_with fail
  refine (toCurve_any A1 n1 cap1 fs1 es1 hN1 _ (hr1.below k4 (Nat.le_refl _))).mono ?_; rintro e w5 ⟨rfl, rb1, hb5⟩
  have k5 := k4.trans (hb5.mono k4.size)
  have rb0 := rb0.below hb5 rb0.lt
  go_wp2_with fail
  refine (Him.out _ _ _ rb0 rb1 (hE.below k5 (Nat.le_refl _))).mono ?_; rintro e w6 ⟨rfl, hb6⟩
  have k6 := k5.trans (hb6.mono k5.size)
  have rb0 := rb0.below hb6 rb0.lt
  have rb1 := rb1.below hb6 rb1.lt
  go_wp2_with fail
  refine (toCurve_any A0 n0 cap0 fs0 es0 hN0 _ (hr0.below k6 (Nat.le_refl _))).mono ?_; rintro e w7 ⟨rfl, rc0, hb7⟩
  have k7 := k6.trans (hb7.mono k6.size)
  have rb0 := rb0.below hb7 rb0.lt
  have rb1 := rb1.below hb7 rb1.lt
  go_wp2_with fail
  refine (eqCurve_same _ _ n0 n0 n0 fs0 es0 hN0 _ rb0 rc0).mono ?_; rintro e w8 ⟨rfl, hb8⟩
  have k8 := k7.trans (hb8.mono k7.size)
  have rb0 := rb0.below hb8 rb0.lt
  have rb1 := rb1.below hb8 rb1.lt
  have rc0 := rc0.below hb8 rc0.lt
  go_wp2_with fail
  refine (toCurve_any A1 n1 cap1 fs1 es1 hN1 _ (hr1.below k8 (Nat.le_refl _))).mono ?_; rintro e w9 ⟨rfl, rc1, hb9⟩
  have k9 := k8.trans (hb9.mono k8.size)
  have rb1 := rb1.below hb9 rb1.lt
  go_wp2_with fail
  refine (eqCurve_same _ _ n1 n1 n1 fs1 es1 hN1 _ rb1 rc1).mono ?_; rintro e w10 ⟨rfl, hb10⟩
  have k10 := k9.trans (hb10.mono k9.size)
  have rb1 := rb1.below hb10 rb1.lt
  have rc1 := rc1.below hb10 rc1.lt
  go_wp2_with fail
  go_ret
  exact ⟨rfl, k10⟩
end Go.Proofs.YtajojnelkddpkaaDoor
