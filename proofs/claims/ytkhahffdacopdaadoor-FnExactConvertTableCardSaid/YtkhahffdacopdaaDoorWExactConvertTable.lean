/-
  The walk of the law FnExactConvertTable: it returns true for every argument. Condition: the listed variables hold what the row lists.
-/
import Derived.Test.YtkhahffdacopdaaDoorOpenP
import Derived.Test.YtkhahffdacopdaaDoorOwnCurve
import Derived.Test.YtkhahffdacopdaaDoorOwnInts
import Derived.Test.YtkhahffdacopdaaDoorConvT
import Derived.Test.YtkhahffdacopdaaDoorEnv
namespace Go.Proofs.YtkhahffdacopdaaDoor
open Go.RowKit

theorem mine_of_ptsL {w : World} {b n cap : Nat} {fs es : Nat → Int} (h : PtRow w b n fs es) : Mine w b (b + 1) 70 2 (.slice (some ⟨b, 0, none⟩) n cap) n (cellCurve fs es) := by
  obtain ⟨m, f, hm, hr, he⟩ := h
  exact ⟨_, cap, rfl, .inr ⟨b, m, f, rfl, Nat.le_refl _, by omega, hm, hr, fun j hj => by rw [he j hj]; unfold cellCurve ptF; rfl⟩⟩
theorem ptRow_onlyL {w w' : World} {b n L U : Nat} {fs es : Nat → Int} (h : PtRow w b n fs es) (ho : Only L U w w') (hb : b < L ∨ U ≤ b) : PtRow w' b n fs es := by
  obtain ⟨m, f, hm, hr, he⟩ := h
  exact ⟨m, f, hm, rowIs_only hr ho hb, he⟩

set_option maxRecDepth 100000 in
set_option maxHeartbeats 4000000 in
theorem walk_FnExactConvertTable (A0 : Option Addr) (n0 cap0 : Nat) (fs0 es0 : Nat → Int) (A1 : Option Addr) (n1 cap1 : Nat) (fs1 es1 : Nat → Int) (w : World) (hL : laidMetH Tryd.prog Rows.fnExactConvertTableRow.laid w) (hr0 : PtsIn w A0 n0 fs0 es0) (hm0 : n0 ≤ maxLen) (hs0 : SmallP n0 fs0 es0) (hr1 : PtsIn w A1 n1 fs1 es1) (hm1 : n1 ≤ maxLen) (hs1 : SmallP n1 fs1 es1) :
    Calls Tryd.prog 13 #[.slice A0 n0 cap0, .slice A1 n1 cap1] w fun e w' => e = .returned (.bool true) ∧ Below w.heap.size w w' := by
  obtain ⟨s, hE⟩ := errEnv_of_row hL (by kernel_rfl) (by kernel_rfl)
  unfold maxLen at hm0 hm1
  by_cases hn0 : n0 ≤ 1048576
  rotate_left
  · clear hr0 hr1 hE hL
    have hz0 := szCurve_any A0 n0 cap0 (1048576) (by omega) (by omega) hm0
    rw [if_neg (by omega)] at hz0
    have Hz0 := Lib.hid hz0; clear hz0
    go_enter Tryd.func13, Tryd.ntmps13
    go_wp2_with fail
    refine (Hz0.out _).mono ?_; rintro e z0 ⟨rfl, rfl⟩
    go_wp2
    go_ret
    exact ⟨rfl, by (repeat (first | exact Below.refl _ _ | assumption | apply Below.drew | apply below_drewL | (refine Below.alloc ?_ (by first | omega | (simp; done) | (simp; omega)) _) | (refine Below.setCell ?_ (by first | omega | (simp; done) | (simp; omega)) _)))⟩
  by_cases hn1 : n0 + n1 ≤ 1048576
  rotate_left
  · clear hr0 hr1 hE hL
    have hz0 := szCurve_any A0 n0 cap0 (1048576) (by omega) (by omega) hm0
    rw [if_pos (by omega)] at hz0
    have Hz0 := Lib.hid hz0; clear hz0
    have hz1 := szCurve_any A1 n1 cap1 (1048576 - (n0 : Int)) (by omega) (by omega) hm1
    rw [if_neg (by omega)] at hz1
    have Hz1 := Lib.hid hz1; clear hz1
    go_enter Tryd.func13, Tryd.ntmps13
    go_wp2_with fail
    refine (Hz0.out _).mono ?_; rintro e z0 ⟨rfl, rfl⟩
    go_wp2_with fail
    refine (Hz1.out _).mono ?_; rintro e z1 ⟨rfl, rfl⟩
    go_wp2
    go_ret
    exact ⟨rfl, by (repeat (first | exact Below.refl _ _ | assumption | apply Below.drew | apply below_drewL | (refine Below.alloc ?_ (by first | omega | (simp; done) | (simp; omega)) _) | (refine Below.setCell ?_ (by first | omega | (simp; done) | (simp; omega)) _)))⟩
  have hz0 := szCurve_any A0 n0 cap0 (1048576) (by omega) (by omega) hm0
  rw [if_pos (by omega)] at hz0
  have hN0 : n0 ≤ 1048576 := by omega
  have hz1 := szCurve_any A1 n1 cap1 (1048576 - (n0 : Int)) (by omega) (by omega) hm1
  rw [if_pos (by omega)] at hz1
  have hN1 : n1 ≤ 1048576 := by omega
  have Hz0 := Lib.hid hz0; clear hz0
  have Hz1 := Lib.hid hz1; clear hz1
  have hsp := fun b0 b1 (W : World) hW0 hW1 => specConvertTable_ex b0 n0 n0 fs0 es0 b1 n1 n1 fs1 es1 hN0 hs0 hN1 hs1 W hW0 hW1
  have him := fun b0 b1 (W : World) hW0 hW1 hEW => ConvertTable_ex s b0 n0 n0 fs0 es0 b1 n1 n1 fs1 es1 hN0 hs0 hN1 hs1 W hW0 hW1 hEW
  unfold LstC at hsp him
  have hNN : lenC (twoC n0 fs0 es0 n1 fs1 es1) 37 ≤ 1048576 := by have := lenC_le (twoC n0 fs0 es0 n1 fs1 es1) 37; omega
  generalize lenC (twoC n0 fs0 es0 n1 fs1 es1) 37 = NN at hsp him hNN
  generalize twoC n0 fs0 es0 n1 fs1 es1 = CC at hsp him
  generalize cvtV n0 fs0 es0 (shdF n1 fs1 es1 0) = XX at hsp him
  have Hsp := Lib.hid hsp; clear hsp
  have Him := Lib.hid him; clear him
  have HE := Lib.hid hE; clear hE hL
  have Hr0 := Lib.hid hr0; clear hr0
  have Hr1 := Lib.hid hr1; clear hr1
  have k0 := Below.refl w.heap.size w
  go_enter Tryd.func13, Tryd.ntmps13
  go_wp2_with fail
  refine (Hz0.out _).mono ?_; rintro e z0 ⟨rfl, rfl⟩
  go_wp2_with fail
  refine (Hz1.out _).mono ?_; rintro e z1 ⟨rfl, rfl⟩
  go_wp2_with fail
  refine (toCurve_any A0 n0 cap0 fs0 es0 hN0 _ (Hr0.out.below k0 (Nat.le_refl _))).mono ?_; rintro e w1 ⟨rfl, ra0, hb1⟩
  have k1 := k0.trans (hb1.mono k0.size)
  have z1 := hb1.size
  go_wp2_with fail
  refine (toCurve_any A1 n1 cap1 fs1 es1 hN1 _ (Hr1.out.below k1 (Nat.le_refl _))).mono ?_; rintro e w2 ⟨rfl, ra1, hb2⟩
  have k2 := k1.trans (hb2.mono k1.size)
  have z2 := hb2.size
  have ra0 := ra0.below hb2 ra0.lt
  go_wp2_with fail
  refine (Hsp.out _ _ _ ra0 ra1).mono ?_; rintro e w3 ⟨v0, rfl, m0, hb3⟩
  have k3 := k2.trans (hb3.mono k2.size)
  have z3 := hb3.size
  have ra0 := ra0.below hb3 ra0.lt
  have ra1 := ra1.below hb3 ra1.lt
  clear ra0
  clear ra1
  go_wp2_with fail
  refine (toCurve_any A0 n0 cap0 fs0 es0 hN0 _ (Hr0.out.below k3 (Nat.le_refl _))).mono ?_; rintro e w4 ⟨rfl, rb0, hb4⟩
  have k4 := k3.trans (hb4.mono k3.size)
  have z4 := hb4.size
  have m0 := m0.below hb4 (by omega)
  have rl0 := rb0.lt
  go_wp2_with fail
  refine (toCurve_any A1 n1 cap1 fs1 es1 hN1 _ (Hr1.out.below k4 (Nat.le_refl _))).mono ?_; rintro e w5 ⟨rfl, rb1, hb5⟩
  have k5 := k4.trans (hb5.mono k4.size)
  have z5 := hb5.size
  have m0 := m0.below hb5 (by omega)
  have rb0 := rb0.below hb5 rb0.lt
  have rl1 := rb1.lt
  go_wp2_with fail
  refine (Him.out _ _ _ rb0 rb1 (HE.out.below k5 (Nat.le_refl _))).mono ?_; rintro e w6 ⟨v1, rfl, m1, hb6⟩
  have k6 := k5.trans (hb6.mono k5.size)
  have z6 := hb6.size
  have m0 := m0.below hb6 (by omega)
  have rb0 := rb0.below hb6 rb0.lt
  have rb1 := rb1.below hb6 rb1.lt
  go_wp2_with fail
  refine (eqInt64S_mine _ _ _ _ _ _ _ _ hNN _ m1 m0).mono ?_; rintro e w7 ⟨rfl, hb7⟩
  have k7 := k6.trans (hb7.mono k6.size)
  have z7 := hb7.size
  have m0 := m0.below hb7 (by omega)
  have rb0 := rb0.below hb7 rb0.lt
  have rb1 := rb1.below hb7 rb1.lt
  have m1 := m1.below hb7 (by omega)
  go_wp2_with fail
  refine (toCurve_any A0 n0 cap0 fs0 es0 hN0 _ (Hr0.out.below k7 (Nat.le_refl _))).mono ?_; rintro e w8 ⟨rfl, rc0, hb8⟩
  have k8 := k7.trans (hb8.mono k7.size)
  have z8 := hb8.size
  have m0 := m0.below hb8 (by omega)
  have rb0 := rb0.below hb8 rb0.lt
  have rb1 := rb1.below hb8 rb1.lt
  have m1 := m1.below hb8 (by omega)
  go_wp2_with fail
  refine (eqCurve_same _ _ n0 n0 n0 fs0 es0 hN0 _ rb0 rc0).mono ?_; rintro e w9 ⟨rfl, hb9⟩
  have k9 := k8.trans (hb9.mono k8.size)
  have z9 := hb9.size
  have m0 := m0.below hb9 (by omega)
  have rb0 := rb0.below hb9 rb0.lt
  have rb1 := rb1.below hb9 rb1.lt
  have m1 := m1.below hb9 (by omega)
  have rc0 := rc0.below hb9 rc0.lt
  clear rc0
  go_wp2_with fail
  refine (toCurve_any A1 n1 cap1 fs1 es1 hN1 _ (Hr1.out.below k9 (Nat.le_refl _))).mono ?_; rintro e w10 ⟨rfl, rc1, hb10⟩
  have k10 := k9.trans (hb10.mono k9.size)
  have z10 := hb10.size
  have m0 := m0.below hb10 (by omega)
  have rb0 := rb0.below hb10 rb0.lt
  have rb1 := rb1.below hb10 rb1.lt
  have m1 := m1.below hb10 (by omega)
  go_wp2_with fail
  refine (eqCurve_same _ _ n1 n1 n1 fs1 es1 hN1 _ rb1 rc1).mono ?_; rintro e w11 ⟨rfl, hb11⟩
  have k11 := k10.trans (hb11.mono k10.size)
  have z11 := hb11.size
  have m0 := m0.below hb11 (by omega)
  have rb0 := rb0.below hb11 rb0.lt
  have rb1 := rb1.below hb11 rb1.lt
  have m1 := m1.below hb11 (by omega)
  have rc1 := rc1.below hb11 rc1.lt
  clear rc1
  have mx0 := mine_of_ptsL (cap := n0) rb0
  clear rb0
  go_wp2_with fail
  refine (markCurve_mine _ _ _ _ _ _ (by omega) (by omega) hN0 _ mx0).mono ?_; rintro e w12 ⟨rfl, -, ho12⟩
  have k12 := k11.trans ((ho12.below (by omega)).mono (by omega))
  have z12 := ho12.size
  have m0 := m0.only ho12 (.inl (by omega))
  have m1 := m1.only ho12 (.inr (by omega))
  have rb1 := ptRow_onlyL rb1 ho12 (.inr (by omega))
  clear mx0
  have mx1 := mine_of_ptsL (cap := n1) rb1
  clear rb1
  go_wp2_with fail
  refine (markCurve_mine _ _ _ _ _ _ (by omega) (by omega) hN1 _ mx1).mono ?_; rintro e w13 ⟨rfl, -, ho13⟩
  have k13 := k12.trans ((ho13.below (by omega)).mono (by omega))
  have z13 := ho13.size
  have m0 := m0.only ho13 (.inl (by omega))
  have m1 := m1.only ho13 (.inr (by omega))
  clear mx1
  go_wp2_with fail
  refine (eqInt64S_mine _ _ _ _ _ _ _ _ hNN _ m1 m0).mono ?_; rintro e w14 ⟨rfl, hb14⟩
  have k14 := k13.trans (hb14.mono k13.size)
  have z14 := hb14.size
  have m0 := m0.below hb14 (by omega)
  have m1 := m1.below hb14 (by omega)
  go_wp2_with fail
  refine (markInt64S_mine _ _ _ _ _ 1 (by omega) (by omega) hNN _ m1).mono ?_; rintro e w15 ⟨rfl, m1, ho15⟩
  have k15 := k14.trans ((ho15.below (by omega)).mono (by omega))
  have z15 := ho15.size
  have m0 := m0.only ho15 (.inl (by omega))
  go_wp2_with fail
  refine (heldInt64S_mine _ _ _ _ 1 (by omega) (by omega) hNN _ m1).mono ?_; rintro e wh ⟨rfl, rfl⟩
  go_wp2_with fail
  refine (toCurve_any A0 n0 cap0 fs0 es0 hN0 _ (Hr0.out.below k15 (Nat.le_refl _))).mono ?_; rintro e w16 ⟨rfl, rd0, hb16⟩
  have k16 := k15.trans (hb16.mono k15.size)
  have z16 := hb16.size
  have m0 := m0.below hb16 (by omega)
  have m1 := m1.below hb16 (by omega)
  go_wp2_with fail
  refine (toCurve_any A1 n1 cap1 fs1 es1 hN1 _ (Hr1.out.below k16 (Nat.le_refl _))).mono ?_; rintro e w17 ⟨rfl, rd1, hb17⟩
  have k17 := k16.trans (hb17.mono k16.size)
  have z17 := hb17.size
  have m0 := m0.below hb17 (by omega)
  have m1 := m1.below hb17 (by omega)
  have rd0 := rd0.below hb17 rd0.lt
  go_wp2_with fail
  refine (Him.out _ _ _ rd0 rd1 (HE.out.below k17 (Nat.le_refl _))).mono ?_; rintro e w18 ⟨v2, rfl, m2, hb18⟩
  have k18 := k17.trans (hb18.mono k17.size)
  have z18 := hb18.size
  have m0 := m0.below hb18 (by omega)
  have m1 := m1.below hb18 (by omega)
  have rd0 := rd0.below hb18 rd0.lt
  have rd1 := rd1.below hb18 rd1.lt
  go_wp2_with fail
  refine (eqInt64S_mine _ _ _ _ _ _ _ _ hNN _ m2 m0).mono ?_; rintro e w19 ⟨rfl, hb19⟩
  have k19 := k18.trans (hb19.mono k18.size)
  have z19 := hb19.size
  have m0 := m0.below hb19 (by omega)
  have m1 := m1.below hb19 (by omega)
  have m2 := m2.below hb19 (by omega)
  go_wp2_with fail
  refine (heldInt64S_mine _ _ _ _ 1 (by omega) (by omega) hNN _ m1).mono ?_; rintro e wi ⟨rfl, rfl⟩
  go_wp2_with fail
  go_ret
  exact ⟨rfl, k19⟩
end Go.Proofs.YtkhahffdacopdaaDoor
