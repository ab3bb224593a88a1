/-
  The walk of the law FnExactJoinCurves: it returns true for every argument. Condition: the listed variables hold what the row lists.
-/
import Derived.Test.YtpombpphicmhmaaDoorOpenP
import Derived.Test.YtpombpphicmhmaaDoorJoinS
import Derived.Test.YtpombpphicmhmaaDoorEnv
namespace Go.Proofs.YtpombpphicmhmaaDoor
open Go.RowKit

theorem mine_of_ptsJ {w : World} {b n cap : Nat} {fs es : Nat → Int} (h : PtRow w b n fs es) : Mine w b (b + 1) 46 2 (.slice (some ⟨b, 0, none⟩) n cap) n (cellCurve fs es) := by
  obtain ⟨m, f, hm, hr, he⟩ := h
  exact ⟨_, cap, rfl, .inr ⟨b, m, f, rfl, Nat.le_refl _, by omega, hm, hr, fun j hj => by rw [he j hj]; unfold cellCurve ptF; rfl⟩⟩
set_option maxRecDepth 100000 in
set_option maxHeartbeats 4000000 in
theorem walk_FnExactJoinCurves (A0 : Option Addr) (n0 cap0 : Nat) (fs0 es0 : Nat → Int) (A1 : Option Addr) (n1 cap1 : Nat) (fs1 es1 : Nat → Int) (x2 : Int) (bl2 : -9223372036854775808 ≤ x2) (bh2 : x2 ≤ 9223372036854775807) (w : World) (hL : laidMetH Tryd.prog Rows.fnExactJoinCurvesRow.laid w)
    (hr0 : PtsIn w A0 n0 fs0 es0) (hm0 : n0 ≤ maxLen) (hs0 : SmallP n0 fs0 es0) (hr1 : PtsIn w A1 n1 fs1 es1) (hm1 : n1 ≤ maxLen) (hs1 : SmallP n1 fs1 es1) :
    Calls Tryd.prog 11 #[.slice A0 n0 cap0, .slice A1 n1 cap1, .int .i64 x2] w fun e w' => e = .returned (.bool true) ∧ Below w.heap.size w w' := by
  obtain ⟨s, hE⟩ := errEnv_of_row hL (by kernel_rfl) (by kernel_rfl)
  unfold maxLen at hm0 hm1
  by_cases hn0 : n0 ≤ 1048576
  rotate_left
  · clear hr0 hr1
    have hz0 := szCurve_any A0 n0 cap0 (1048576) (by omega) (by omega) hm0
    rw [if_neg (by omega)] at hz0
    have Hz0 := Lib.hid hz0; clear hz0
    go_enter Tryd.func11, Tryd.ntmps11
    go_wp2_with fail
    refine (Hz0.out _).mono ?_; rintro e z0 ⟨rfl, rfl⟩
    go_wp2
    go_ret
    exact ⟨rfl, Below.refl _ _⟩
  by_cases hn1 : n0 + n1 ≤ 1048576
  rotate_left
  · clear hr0 hr1
    have hz0 := szCurve_any A0 n0 cap0 (1048576) (by omega) (by omega) hm0
    rw [if_pos (by omega)] at hz0
    have hz1 := szCurve_any A1 n1 cap1 (1048576 - (n0 : Int)) (by omega) (by omega) hm1
    rw [if_neg (by omega)] at hz1
    have Hz0 := Lib.hid hz0; clear hz0
    have Hz1 := Lib.hid hz1; clear hz1
    go_enter Tryd.func11, Tryd.ntmps11
    go_wp2_with fail
    refine (Hz0.out _).mono ?_; rintro e z0 ⟨rfl, rfl⟩
    go_wp2_with fail
    refine (Hz1.out _).mono ?_; rintro e z1 ⟨rfl, rfl⟩
    go_wp2
    go_ret
    exact ⟨rfl, Below.refl _ _⟩
  have hz0 := szCurve_any A0 n0 cap0 (1048576) (by omega) (by omega) hm0
  rw [if_pos (by omega)] at hz0
  have hN0 : n0 ≤ 1048576 := by omega
  have hz1 := szCurve_any A1 n1 cap1 (1048576 - (n0 : Int)) (by omega) (by omega) hm1
  rw [if_pos (by omega)] at hz1
  have hN1 : n1 ≤ 1048576 := by omega
  have Hz0 := Lib.hid hz0; clear hz0
  have Hz1 := Lib.hid hz1; clear hz1
  have hKn := (ahead_is n0 fs0 x2).1
  have hMm := (ahead_is n1 fs1 x2).1
  have hsp := fun b0 b1 (W : World) hW0 hW1 => specJoinCurves_any b0 n0 n0 fs0 es0 b1 n1 n1 fs1 es1 x2 hN0 hN1 hs0 hs1 W hW0 hW1
  have him := fun b0 b1 (W : World) hW0 hW1 hEW => JoinCurves_any s b0 n0 n0 fs0 es0 b1 n1 n1 fs1 es1 x2 hN0 hN1 hs0 hs1 (Nat.le_refl _) (Nat.le_refl _) W hW0 hW1 hEW
  unfold CrvCode at hsp him
  generalize jnC n0 fs0 es0 n1 fs1 es1 x2 (aheadN n0 fs0 x2 + (n1 - aheadN n1 fs1 x2)) (jn (aheadN n0 fs0 x2) (aheadN n1 fs1 x2) fs0 fs1) (jn (aheadN n0 fs0 x2) (aheadN n1 fs1 x2) es0 es1) = C at hsp him
  generalize jn (aheadN n0 fs0 x2) (aheadN n1 fs1 x2) fs0 fs1 = F0 at hsp him
  generalize jn (aheadN n0 fs0 x2) (aheadN n1 fs1 x2) es0 es1 = F1 at hsp him
  have hN : (if C = 0 then aheadN n0 fs0 x2 + (n1 - aheadN n1 fs1 x2) else 0) ≤ 1048576 := by split <;> omega
  generalize (if C = 0 then aheadN n0 fs0 x2 + (n1 - aheadN n1 fs1 x2) else 0) = N at hsp him hN
  have Hsp := Lib.hid hsp; clear hsp
  have Him := Lib.hid him; clear him
  have HE := Lib.hid hE; clear hE hL
  have Hr0 := Lib.hid hr0; clear hr0
  have Hr1 := Lib.hid hr1; clear hr1
  clear hKn hMm
  go_enter Tryd.func11, Tryd.ntmps11
  go_wp2_with fail
  refine (Hz0.out _).mono ?_; rintro e z0 ⟨rfl, rfl⟩
  go_wp2_with fail
  refine (Hz1.out _).mono ?_; rintro e z1 ⟨rfl, rfl⟩
  go_wp2_with fail
  refine (toCurve_any A0 n0 cap0 fs0 es0 hN0 _ Hr0.out).mono ?_; rintro e w1 ⟨rfl, ra0, k1⟩
  have z1 := k1.size
  go_wp2_with fail
  refine (toCurve_any A1 n1 cap1 fs1 es1 hN1 _ (Hr1.out.below k1 (Nat.le_refl _))).mono ?_; rintro e w2 ⟨rfl, ra1, hb2⟩
  have k2 := k1.trans (hb2.mono k1.size)
  have ra0 := ra0.below hb2 ra0.lt
  have z2 := hb2.size
  go_wp2_with fail
  refine (Hsp.out _ _ _ ra0 ra1).mono ?_; rintro e w3 ⟨v0, rfl, hm0, hb3⟩
  have k3 := k2.trans (hb3.mono k2.size)
  have z3 := hb3.size
  clear ra0 ra1
  go_wp2_with fail
  refine (toCurve_any A0 n0 cap0 fs0 es0 hN0 _ (Hr0.out.below k3 (Nat.le_refl _))).mono ?_; rintro e w4 ⟨rfl, rb0, hb4⟩
  have k4 := k3.trans (hb4.mono k3.size)
  have z4 := hb4.size
  have rl0 := rb0.lt
  have hm0 := hm0.below hb4 (Nat.le_refl _)
  go_wp2_with fail
  refine (toCurve_any A1 n1 cap1 fs1 es1 hN1 _ (Hr1.out.below k4 (Nat.le_refl _))).mono ?_; rintro e w5 ⟨rfl, rb1, hb5⟩
  have k5 := k4.trans (hb5.mono k4.size)
  have z5 := hb5.size
  have rl1 := rb1.lt
  have rb0 := rb0.below hb5 rl0
  have hm0 := hm0.below hb5 (by omega)
  go_wp2_with fail
  refine (Him.out _ _ _ rb0 rb1 (HE.out.below k5 (Nat.le_refl _))).mono ?_; rintro e w6 ⟨v1, rfl, hm1, hb6⟩
  have k6 := k5.trans (hb6.mono k5.size)
  have z6 := hb6.size
  have rb0 := rb0.below hb6 rb0.lt
  have rb1 := rb1.below hb6 rl1
  have hm0 := hm0.below hb6 (by omega)
  go_wp2_with fail
  refine (eqCurve_mine _ _ _ _ _ v1 v0 F0 F1 hN _ hm1 hm0).mono ?_; rintro e w7 ⟨rfl, hb7⟩
  have k7 := k6.trans (hb7.mono k6.size)
  have z7 := hb7.size
  have rb0 := rb0.below hb7 rb0.lt
  have rb1 := rb1.below hb7 rb1.lt
  have hm0 := hm0.below hb7 (by omega)
  have hm1 := hm1.below hb7 (by omega)
  go_wp2_with fail
  refine (toCurve_any A0 n0 cap0 fs0 es0 hN0 _ (Hr0.out.below k7 (Nat.le_refl _))).mono ?_; rintro e w8 ⟨rfl, rc0, hb8⟩
  have k8 := k7.trans (hb8.mono k7.size)
  have z8 := hb8.size
  have rb0 := rb0.below hb8 rb0.lt
  have rb1 := rb1.below hb8 rb1.lt
  have hm0 := hm0.below hb8 (by omega)
  have hm1 := hm1.below hb8 (by omega)
  go_wp2_with fail
  refine (eqCurve_same _ _ n0 n0 n0 fs0 es0 hN0 _ rb0 rc0).mono ?_; rintro e w9 ⟨rfl, hb9⟩
  have k9 := k8.trans (hb9.mono k8.size)
  have z9 := hb9.size
  have rb0 := rb0.below hb9 rb0.lt
  have rb1 := rb1.below hb9 rb1.lt
  have hm0 := hm0.below hb9 (by omega)
  have hm1 := hm1.below hb9 (by omega)
  clear rc0
  go_wp2_with fail
  refine (toCurve_any A1 n1 cap1 fs1 es1 hN1 _ (Hr1.out.below k9 (Nat.le_refl _))).mono ?_; rintro e w10 ⟨rfl, rc1, hb10⟩
  have k10 := k9.trans (hb10.mono k9.size)
  have z10 := hb10.size
  have rb0 := rb0.below hb10 rb0.lt
  have rb1 := rb1.below hb10 rb1.lt
  have hm0 := hm0.below hb10 (by omega)
  have hm1 := hm1.below hb10 (by omega)
  go_wp2_with fail
  refine (eqCurve_same _ _ n1 n1 n1 fs1 es1 hN1 _ rb1 rc1).mono ?_; rintro e w11 ⟨rfl, hb11⟩
  have k11 := k10.trans (hb11.mono k10.size)
  have z11 := hb11.size
  have rb0 := rb0.below hb11 rb0.lt
  have rb1 := rb1.below hb11 rb1.lt
  have hm0 := hm0.below hb11 (by omega)
  have hm1 := hm1.below hb11 (by omega)
  clear rc1
  have hmx := mine_of_ptsJ (cap := n0) rb0
  have hmy := mine_of_ptsJ (cap := n1) rb1
  clear rb0 rb1
  go_wp2_with fail
  refine (markCurve_mine _ _ _ _ _ 1 (by omega) (by omega) hN0 _ hmx).mono ?_; rintro e w12 ⟨rfl, -, ho12⟩
  have k12 := k11.trans ((ho12.below (by omega)).mono (by omega))
  have z12 := ho12.size
  have hm0 := hm0.only ho12 (.inl (by omega))
  have hm1 := hm1.only ho12 (.inr (by omega))
  have hmy := hmy.only ho12 (.inr (by omega))
  clear hmx ho12
  go_wp2_with fail
  refine (markCurve_mine _ _ _ _ _ (1 + 2 * (n0 : Int)) (by omega) (by omega) hN1 _ hmy).mono ?_; rintro e w13 ⟨rfl, -, ho13⟩
  have k13 := k12.trans ((ho13.below (by omega)).mono (by omega))
  have z13 := ho13.size
  have hm0 := hm0.only ho13 (.inl (by omega))
  have hm1 := hm1.only ho13 (.inr (by omega))
  clear hmy ho13
  go_wp2_with fail
  refine (eqCurve_mine _ _ _ _ _ v1 v0 F0 F1 hN _ hm1 hm0).mono ?_; rintro e w14 ⟨rfl, hb14⟩
  have k14 := k13.trans (hb14.mono k13.size)
  have z14 := hb14.size
  have hm0 := hm0.below hb14 (by omega)
  have hm1 := hm1.below hb14 (by omega)
  go_wp2_with fail
  refine (markCurve_mine _ _ _ v1 _ 1 (by omega) (by omega) hN _ hm1).mono ?_; rintro e w15 ⟨rfl, hm1, ho15⟩
  have k15 := k14.trans ((ho15.below (by omega)).mono (by omega))
  have z15 := ho15.size
  have hm0 := hm0.only ho15 (.inl (by omega))
  clear ho15
  go_wp2_with fail
  refine (heldCurve_mine _ _ _ v1 1 (by omega) (by omega) hN _ hm1).mono ?_; rintro e w16 ⟨rfl, rfl⟩
  go_wp2_with fail
  refine (toCurve_any A0 n0 cap0 fs0 es0 hN0 _ (Hr0.out.below k15 (Nat.le_refl _))).mono ?_; rintro e w17 ⟨rfl, rd0, hb17⟩
  have k17 := k15.trans (hb17.mono k15.size)
  have z17 := hb17.size
  have hm0 := hm0.below hb17 (by omega)
  have hm1 := hm1.below hb17 (by omega)
  go_wp2_with fail
  refine (toCurve_any A1 n1 cap1 fs1 es1 hN1 _ (Hr1.out.below k17 (Nat.le_refl _))).mono ?_; rintro e w18 ⟨rfl, rd1, hb18⟩
  have k18 := k17.trans (hb18.mono k17.size)
  have z18 := hb18.size
  have rd0 := rd0.below hb18 rd0.lt
  have hm0 := hm0.below hb18 (by omega)
  have hm1 := hm1.below hb18 (by omega)
  go_wp2_with fail
  refine (Him.out _ _ _ rd0 rd1 (HE.out.below k18 (Nat.le_refl _))).mono ?_; rintro e w19 ⟨v2, rfl, hm2, hb19⟩
  have k19 := k18.trans (hb19.mono k18.size)
  have z19 := hb19.size
  have hm0 := hm0.below hb19 (by omega)
  have hm1 := hm1.below hb19 (by omega)
  go_wp2_with fail
  refine (eqCurve_mine _ _ _ _ _ v2 v0 F0 F1 hN _ hm2 hm0).mono ?_; rintro e w20 ⟨rfl, hb20⟩
  have k20 := k19.trans (hb20.mono k19.size)
  have hm1 := hm1.below hb20 (by omega)
  go_wp2_with fail
  refine (heldCurve_mine _ _ _ v1 1 (by omega) (by omega) hN _ hm1).mono ?_; rintro e w21 ⟨rfl, rfl⟩
  go_wp2_with fail
  go_ret
  exact ⟨rfl, k20⟩
end Go.Proofs.YtpombpphicmhmaaDoor
