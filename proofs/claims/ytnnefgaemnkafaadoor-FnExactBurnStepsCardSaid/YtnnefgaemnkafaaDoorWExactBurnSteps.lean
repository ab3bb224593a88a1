/-
  The walk of the law FnExactBurnSteps: it returns true for every argument. Condition: the program's variables hold their own errors.
-/
import Derived.Test.YtnnefgaemnkafaaDoorDodge
import Derived.Test.YtnnefgaemnkafaaDoorEnv
import Derived.Test.YtnnefgaemnkafaaDoorRows
namespace Go.Proofs.YtnnefgaemnkafaaDoor
open Go.RowKit

set_option maxRecDepth 100000 in
set_option maxHeartbeats 2000000 in
theorem walk_FnExactBurnSteps (t : Int) (_h1 : -9223372036854775808 ≤ t) (_h2 : t ≤ 9223372036854775807) (m : Int) (hm1 : 0 ≤ m) (hm2 : m ≤ 18446744073709551615) (h : Int) (_h3 : -9223372036854775808 ≤ h) (_h4 : h ≤ 9223372036854775807) (w : World) (hL : laidMetH Tryd.prog Rows.fnExactBurnStepsRow.laid w) :
    Calls Tryd.prog 4 #[.int .i64 t, .int .u64 m, .int .i64 h] w fun e w' => e = .returned (.bool true) ∧ Below w.heap.size w w' := by
  obtain ⟨s, hE⟩ := errEnv_of_row hL (by kernel_rfl) (by kernel_rfl)
  have hsp := fun V => specBurnSteps_any t m h V
  have him := fun V hV => BurnSteps_any s t m h V hV
  unfold StpCode at hsp him
  clear _h1 _h2 _h3 _h4 hm1 hm2 hL
  generalize burnC t h = C at hsp him
  generalize two 18446744073709551615 m = F0 at hsp him
  generalize two t h = F1 at hsp him
  have hN : (if C = 0 then 2 else 0) ≤ 1048576 := by split <;> omega
  generalize (if C = 0 then 2 else 0) = N at hsp him hN
  have Hsp := Lib.hid hsp; clear hsp
  have Him := Lib.hid him; clear him
  have HE := Lib.hid hE; clear hE
  go_enter Tryd.func4, Tryd.ntmps4
  go_wp2_with fail
  refine (Hsp.out _).mono ?_; rintro e w2 ⟨v0, rfl, hm0, k2⟩
  have z2 := k2.size
  go_wp2_with fail
  refine (Him.out _ (HE.out.below k2 (Nat.le_refl _))).mono ?_; rintro e w4 ⟨v1, rfl, hm1, hb4⟩
  have k4 := k2.trans (hb4.mono k2.size)
  have z4 := hb4.size
  have hm0 := hm0.below hb4 (by omega)
  go_wp2_with fail
  refine (eqStepS_mine _ _ _ _ _ v1 v0 F0 F1 hN _ hm1 hm0).mono ?_; rintro e w5 ⟨rfl, hb5⟩
  have k5 := k4.trans (hb5.mono k4.size)
  have z5 := hb5.size
  have hm0 := hm0.below hb5 (by omega)
  have hm1 := hm1.below hb5 (by omega)
  go_wp2_with fail
  refine (markStepS_mine _ _ _ v1 _ 1 (by omega) (by omega) hN _ hm1).mono ?_; rintro e w10 ⟨rfl, hm1, ho10⟩
  have k10 := k5.trans ((ho10.below (by omega)).mono (by omega))
  have z10 := ho10.size
  have hm0 := hm0.only ho10 (.inl (by omega))
  clear ho10
  go_wp2_with fail
  refine (heldStepS_mine _ _ _ v1 1 (by omega) (by omega) hN _ hm1).mono ?_; rintro e w11 ⟨rfl, rfl⟩
  go_wp2_with fail
  refine (Him.out _ (HE.out.below k10 (Nat.le_refl _))).mono ?_; rintro e w13 ⟨v2, rfl, hm2, hb13⟩
  have k13 := k10.trans (hb13.mono k10.size)
  have z13 := hb13.size
  have hm0 := hm0.below hb13 (by omega)
  have hm1 := hm1.below hb13 (by omega)
  go_wp2_with fail
  refine (eqStepS_mine _ _ _ _ _ v2 v0 F0 F1 hN _ hm2 hm0).mono ?_; rintro e w14 ⟨rfl, hb14⟩
  have k14 := k13.trans (hb14.mono k13.size)
  have hm1 := hm1.below hb14 (by omega)
  go_wp2_with fail
  refine (heldStepS_mine _ _ _ v1 1 (by omega) (by omega) hN _ hm1).mono ?_; rintro e w15 ⟨rfl, rfl⟩
  go_wp2_with fail
  go_ret
  exact ⟨rfl, k14⟩
end Go.Proofs.YtnnefgaemnkafaaDoor
