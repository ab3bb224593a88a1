/-
  The walk of the law FnExactShorterSteps: it returns true for every argument. Condition: the listed variables hold what the row lists.
-/
import Derived.Test.YtnnefgaemnkafaaDoorOpenSt
import Derived.Test.YtnnefgaemnkafaaDoorShorterI
import Derived.Test.YtnnefgaemnkafaaDoorEnv
import Derived.Test.YtnnefgaemnkafaaDoorRows
namespace Go.Proofs.YtnnefgaemnkafaaDoor
open Go.RowKit

theorem mine_of_sts {w : World} {b n cap : Nat} {fs es : Nat → Int} (h : StRow w b n fs es) : Mine w b (b + 1) 60 2 (.slice (some ⟨b, 0, none⟩) n cap) n (cellStepS fs es) := by
  obtain ⟨m, f, hm, hr, he⟩ := h
  exact ⟨_, cap, rfl, .inr ⟨b, m, f, rfl, Nat.le_refl _, by omega, hm, hr, fun j hj => by rw [he j hj]; unfold cellStepS stF; rfl⟩⟩
set_option maxRecDepth 100000 in
set_option maxHeartbeats 2000000 in
theorem walk_FnExactShorterSteps (A0 : Option Addr) (n0 cap0 : Nat) (fs0 es0 : Nat → Int) (w : World) (hL : laidMetH Tryd.prog Rows.fnExactShorterStepsRow.laid w) (hr0 : StsIn w A0 n0 fs0 es0) (hm0 : n0 ≤ maxLen) (hs0 : SmallS n0 fs0 es0) :
    Calls Tryd.prog 5 #[.slice A0 n0 cap0] w fun e w' => e = .returned (.bool true) ∧ Below w.heap.size w w' := by
  obtain ⟨s, hE⟩ := errEnv_of_row hL (by kernel_rfl) (by kernel_rfl)
  unfold maxLen at hm0
  by_cases hn0 : n0 ≤ 1048576
  rotate_left
  · clear hr0
    have hz0 := szStepS_any A0 n0 cap0 (1048576) (by omega) (by omega) hm0
    rw [if_neg (by omega)] at hz0
    have Hz0 := Lib.hid hz0; clear hz0
    go_enter Tryd.func5, Tryd.ntmps5
    go_wp2_with fail
    refine (Hz0.out _).mono ?_; rintro e z0 ⟨rfl, rfl⟩
    go_wp2
    go_ret
    exact ⟨rfl, Below.refl _ _⟩
  have hz0 := szStepS_any A0 n0 cap0 (1048576) (by omega) (by omega) hm0
  rw [if_pos (by omega)] at hz0
  have Hz0 := Lib.hid hz0; clear hz0
  have hsp := fun b0 (W : World) hW0 => specShorterSteps_any b0 n0 n0 fs0 es0 hn0 hs0 W hW0
  have him := fun b0 (W : World) hW0 hEW => ShorterSteps_any s b0 n0 n0 fs0 es0 hn0 hs0 W hW0 hEW
  unfold StpCode at hsp him
  have hle := shS_le fs0 es0 n0
  generalize mirC n0 es0 = C at hsp him
  generalize shS fs0 es0 n0 = S at hsp him hle
  obtain ⟨Q, F0, F1⟩ := S
  simp only at hsp him hle
  have hN : (if C = 0 then Q else 0) ≤ 1048576 := by split <;> omega
  generalize (if C = 0 then Q else 0) = N at hsp him hN
  have Hsp := Lib.hid hsp; clear hsp
  have Him := Lib.hid him; clear him
  have HE := Lib.hid hE; clear hE hL
  have Hr0 := Lib.hid hr0; clear hr0
  have k0 := Below.refl w.heap.size w
  go_enter Tryd.func5, Tryd.ntmps5
  go_wp2_with fail
  refine (Hz0.out _).mono ?_; rintro e z0 ⟨rfl, rfl⟩
  go_wp2_with fail
  refine (toStepS_any A0 n0 cap0 fs0 es0 hn0 _ Hr0.out).mono ?_; rintro e w1 ⟨rfl, ra0, k1⟩
  have z1 := k1.size
  go_wp2_with fail
  refine (Hsp.out _ _ ra0).mono ?_; rintro e w2 ⟨v0, rfl, hm0, hb2⟩
  have k2 := k1.trans (hb2.mono k1.size)
  have z2 := hb2.size
  clear ra0
  go_wp2_with fail
  refine (toStepS_any A0 n0 cap0 fs0 es0 hn0 _ (Hr0.out.below k2 (Nat.le_refl _))).mono ?_; rintro e w3 ⟨rfl, rb0, hb3⟩
  have k3 := k2.trans (hb3.mono k2.size)
  have z3 := hb3.size
  have rl := rb0.lt
  have hm0 := hm0.below hb3 (Nat.le_refl _)
  go_wp2_with fail
  refine (Him.out _ _ rb0 (HE.out.below k3 (Nat.le_refl _))).mono ?_; rintro e w4 ⟨v1, rfl, hm1, hb4⟩
  have k4 := k3.trans (hb4.mono k3.size)
  have z4 := hb4.size
  have rb0 := rb0.below hb4 rl
  have hm0 := hm0.below hb4 (by omega)
  go_wp2_with fail
  refine (eqStepS_mine _ _ _ _ _ v1 v0 F0 F1 hN _ hm1 hm0).mono ?_; rintro e w5 ⟨rfl, hb5⟩
  have k5 := k4.trans (hb5.mono k4.size)
  have z5 := hb5.size
  have rb0 := rb0.below hb5 rb0.lt
  have hm0 := hm0.below hb5 (by omega)
  have hm1 := hm1.below hb5 (by omega)
  go_wp2_with fail
  refine (toStepS_any A0 n0 cap0 fs0 es0 hn0 _ (Hr0.out.below k5 (Nat.le_refl _))).mono ?_; rintro e w6 ⟨rfl, rc0, hb6⟩
  have k6 := k5.trans (hb6.mono k5.size)
  have z6 := hb6.size
  have rb0 := rb0.below hb6 rb0.lt
  have hm0 := hm0.below hb6 (by omega)
  have hm1 := hm1.below hb6 (by omega)
  go_wp2_with fail
  refine (eqStepS_same _ _ n0 n0 n0 fs0 es0 hn0 _ rb0 rc0).mono ?_; rintro e w7 ⟨rfl, hb7⟩
  have k7 := k6.trans (hb7.mono k6.size)
  have z7 := hb7.size
  have rb0 := rb0.below hb7 rb0.lt
  have hm0 := hm0.below hb7 (by omega)
  have hm1 := hm1.below hb7 (by omega)
  clear rc0
  have hmx := mine_of_sts (cap := n0) rb0
  clear rb0
  go_wp2_with fail
  refine (markStepS_mine _ _ _ _ _ 1 (by omega) (by omega) hn0 _ hmx).mono ?_; rintro e w8 ⟨rfl, -, ho8⟩
  have k8 := k7.trans ((ho8.below (by omega)).mono (by omega))
  have z8 := ho8.size
  have hm0 := hm0.only ho8 (.inl (by omega))
  have hm1 := hm1.only ho8 (.inr (by omega))
  clear hmx ho8
  go_wp2_with fail
  refine (eqStepS_mine _ _ _ _ _ v1 v0 F0 F1 hN _ hm1 hm0).mono ?_; rintro e w9 ⟨rfl, hb9⟩
  have k9 := k8.trans (hb9.mono k8.size)
  have z9 := hb9.size
  have hm0 := hm0.below hb9 (by omega)
  have hm1 := hm1.below hb9 (by omega)
  go_wp2_with fail
  refine (markStepS_mine _ _ _ v1 _ 1 (by omega) (by omega) hN _ hm1).mono ?_; rintro e w10 ⟨rfl, hm1, ho10⟩
  have k10 := k9.trans ((ho10.below (by omega)).mono (by omega))
  have z10 := ho10.size
  have hm0 := hm0.only ho10 (.inl (by omega))
  clear ho10
  go_wp2_with fail
  refine (heldStepS_mine _ _ _ v1 1 (by omega) (by omega) hN _ hm1).mono ?_; rintro e w11 ⟨rfl, rfl⟩
  go_wp2_with fail
  refine (toStepS_any A0 n0 cap0 fs0 es0 hn0 _ (Hr0.out.below k10 (Nat.le_refl _))).mono ?_; rintro e w12 ⟨rfl, rd0, hb12⟩
  have k12 := k10.trans (hb12.mono k10.size)
  have z12 := hb12.size
  have hm0 := hm0.below hb12 (by omega)
  have hm1 := hm1.below hb12 (by omega)
  go_wp2_with fail
  refine (Him.out _ _ rd0 (HE.out.below k12 (Nat.le_refl _))).mono ?_; rintro e w13 ⟨v2, rfl, hm2, hb13⟩
  have k13 := k12.trans (hb13.mono k12.size)
  have z13 := hb13.size
  have hm0 := hm0.below hb13 (by omega)
  have hm1 := hm1.below hb13 (by omega)
  go_wp2_with fail
  refine (eqStepS_mine _ _ _ _ _ v2 v0 F0 F1 hN _ hm2 hm0).mono ?_; rintro e w14 ⟨rfl, hb14⟩
  have k14 := k13.trans (hb14.mono k13.size)
  have hm1 := hm1.below hb14 (by omega)
  go_wp2_with fail
  refine (heldStepS_mine _ _ _ v1 1 (by omega) (by omega) hN _ hm1).mono ?_; rintro e w15 ⟨rfl, rfl⟩
  go_wp2_with fail
  go_ret
  exact ⟨rfl, k14⟩
end Go.Proofs.YtnnefgaemnkafaaDoor
