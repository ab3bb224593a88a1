/-
  The walk of the law FnExactCoveredLights: it returns true for every argument. Condition: the listed variables hold what the row lists.
-/
import Derived.Test.YtkhahffdacopdaaDoorOwnInts
import Derived.Test.YtkhahffdacopdaaDoorStripC
import Derived.Test.YtkhahffdacopdaaDoorEnv
namespace Go.Proofs.YtkhahffdacopdaaDoor
open Go.RowKit

set_option maxRecDepth 100000 in
set_option maxHeartbeats 4000000 in
theorem walk_FnExactCoveredLights (a0 b0 c0 : Int) (la0 : -128 ≤ a0) (ha0 : a0 ≤ 127) (lb0 : -128 ≤ b0) (hb0 : b0 ≤ 127) (lc0 : -128 ≤ c0) (hc0 : c0 ≤ 127) (w : World) (hL : laidMetH Tryd.prog Rows.fnExactCoveredLightsRow.laid w) :
    Calls Tryd.prog 4 #[stV a0 b0 c0] w fun e w' => e = .returned (.bool true) ∧ Below w.heap.size w w' := by
  obtain ⟨s, hE⟩ := errEnv_of_row hL (by kernel_rfl) (by kernel_rfl)
  have hT := timEnv_of_row hL (by kernel_rfl) (by kernel_rfl)
  have hsp := fun (W : World) => specCoveredLights_any a0 b0 c0 la0 ha0 lb0 hb0 lc0 hc0  W 
  have him := fun (W : World) hTW hEW => CoveredLights_any s a0 b0 c0 la0 ha0 lb0 hb0 lc0 hc0  W  hTW hEW
  unfold LstC at hsp him
  have hNN : lenC (stC a0 b0 c0) c0.toNat ≤ 1048576 := by have := lenC_le (stC a0 b0 c0) c0.toNat; omega
  generalize lenC (stC a0 b0 c0) c0.toNat = NN at hsp him hNN
  generalize stC a0 b0 c0 = CC at hsp him
  generalize (covT a0 b0) = XX at hsp him
  have Hsp := Lib.hid hsp; clear hsp
  have Him := Lib.hid him; clear him
  have HE := Lib.hid hE; clear hE hL
  have HT := Lib.hid hT; clear hT
  have k0 : Below w.heap.size w (w.alloc (.cells #[.int .i8 a0, .int .i8 b0, .int .i8 c0] 24)) := (Below.refl _ _).alloc (Nat.le_refl _) _
  have S0 := StAt.new w 24 a0 b0 c0
  have sl0 := S0.lt
  go_enter Tryd.func4, Tryd.ntmps4
  go_wp2_with fail
  generalize w.alloc (.cells #[.int .i8 a0, .int .i8 b0, .int .i8 c0] 24) = w0 at *
  have z0 := k0.size
  refine (toStrip_any a0 b0 c0 _).mono ?_; rintro e w1 ⟨rfl, hb1⟩
  have k1 := k0.trans (hb1.mono k0.size)
  have z1 := hb1.size
  have S0 := S0.below hb1 S0.lt
  go_wp2_with fail
  refine (Hsp.out  _ ).mono ?_; rintro e w2 ⟨v0, rfl, m0, hb2⟩
  have k2 := k1.trans (hb2.mono k1.size)
  have z2 := hb2.size
  have S0 := S0.below hb2 S0.lt
  have Sx := S0; obtain ⟨s0, s1, s2⟩ := Sx
  go_wp2_with fail
  refine (toStrip_any a0 b0 c0 _).mono ?_; rintro e w3 ⟨rfl, hb3⟩
  have k3 := k2.trans (hb3.mono k2.size)
  have z3 := hb3.size
  have S0 := S0.below hb3 S0.lt
  have m0 := m0.below hb3 (by omega)
  clear s0 s1 s2
  go_wp2_with fail
  refine (Him.out  _  (HT.out.below k3 (Nat.le_refl _)) (HE.out.below k3 (Nat.le_refl _))).mono ?_; rintro e w4 ⟨v1, rfl, m1, hb4⟩
  have k4 := k3.trans (hb4.mono k3.size)
  have z4 := hb4.size
  have S0 := S0.below hb4 S0.lt
  have m0 := m0.below hb4 (by omega)
  go_wp2_with fail
  refine (eqInt64S_mine _ _ _ _ _ _ _ _ hNN _ m1 m0).mono ?_; rintro e w5 ⟨rfl, hb5⟩
  have k5 := k4.trans (hb5.mono k4.size)
  have z5 := hb5.size
  have S0 := S0.below hb5 S0.lt
  have m0 := m0.below hb5 (by omega)
  have m1 := m1.below hb5 (by omega)
  go_wp2_with fail
  refine (markInt64S_mine _ _ _ _ _ 1 (by omega) (by omega) hNN _ m1).mono ?_; rintro e w6 ⟨rfl, m1, ho6⟩
  have k6 := k5.trans ((ho6.below (by omega)).mono (by omega))
  have z6 := ho6.size
  have m0 := m0.only ho6 (.inl (by omega))
  have S0 := S0.below (ho6.below (by omega)) (by omega)
  go_wp2_with fail
  refine (heldInt64S_mine _ _ _ _ 1 (by omega) (by omega) hNN _ m1).mono ?_; rintro e wh ⟨rfl, rfl⟩
  have Sx := S0; obtain ⟨s0, s1, s2⟩ := Sx
  go_wp2_with fail
  refine (toStrip_any a0 b0 c0 _).mono ?_; rintro e w7 ⟨rfl, hb7⟩
  have k7 := k6.trans (hb7.mono k6.size)
  have z7 := hb7.size
  have S0 := S0.below hb7 S0.lt
  have m0 := m0.below hb7 (by omega)
  have m1 := m1.below hb7 (by omega)
  clear s0 s1 s2
  go_wp2_with fail
  refine (Him.out  _  (HT.out.below k7 (Nat.le_refl _)) (HE.out.below k7 (Nat.le_refl _))).mono ?_; rintro e w8 ⟨v2, rfl, m2, hb8⟩
  have k8 := k7.trans (hb8.mono k7.size)
  have z8 := hb8.size
  have S0 := S0.below hb8 S0.lt
  have m0 := m0.below hb8 (by omega)
  have m1 := m1.below hb8 (by omega)
  go_wp2_with fail
  refine (eqInt64S_mine _ _ _ _ _ _ _ _ hNN _ m2 m0).mono ?_; rintro e w9 ⟨rfl, hb9⟩
  have k9 := k8.trans (hb9.mono k8.size)
  have z9 := hb9.size
  have S0 := S0.below hb9 S0.lt
  have m0 := m0.below hb9 (by omega)
  have m1 := m1.below hb9 (by omega)
  have m2 := m2.below hb9 (by omega)
  go_wp2_with fail
  refine (heldInt64S_mine _ _ _ _ 1 (by omega) (by omega) hNN _ m1).mono ?_; rintro e wi ⟨rfl, rfl⟩
  go_wp2_with fail
  go_ret
  exact ⟨rfl, k9⟩
end Go.Proofs.YtkhahffdacopdaaDoor
