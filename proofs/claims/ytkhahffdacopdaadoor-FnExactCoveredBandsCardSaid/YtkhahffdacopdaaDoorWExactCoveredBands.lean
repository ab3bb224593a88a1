/-
  The walk of the law FnExactCoveredBands: it returns true for every argument. Condition: the listed variables hold what the row lists.
-/
import Derived.Test.YtkhahffdacopdaaDoorOpenP
import Derived.Test.YtkhahffdacopdaaDoorOwnCurve
import Derived.Test.YtkhahffdacopdaaDoorOwnInts
import Derived.Test.YtkhahffdacopdaaDoorBands
import Derived.Test.YtkhahffdacopdaaDoorEnv
namespace Go.Proofs.YtkhahffdacopdaaDoor
open Go.RowKit

theorem mine_of_ptsL {w : World} {b n cap : Nat} {fs es : Nat → Int} (h : PtRow w b n fs es) : Mine w b (b + 1) 70 2 (.slice (some ⟨b, 0, none⟩) n cap) n (cellCurve fs es) := by
  obtain ⟨m, f, hm, hr, he⟩ := h
  exact ⟨_, cap, rfl, .inr ⟨b, m, f, rfl, Nat.le_refl _, by omega, hm, hr, fun j hj => by rw [he j hj]; unfold cellCurve ptF; rfl⟩⟩
theorem ptRow_onlyL {w w' : World} {b n L U : Nat} {fs es : Nat → Int} (h : PtRow w b n fs es) (ho : Only L U w w') (hb : b < L ∨ U ≤ b) : PtRow w' b n fs es := by
  obtain ⟨m, f, hm, hr, he⟩ := h
  exact ⟨m, f, hm, rowIs_only hr ho hb, he⟩

set_option maxRecDepth 100000 in
set_option maxHeartbeats 4000000 in
theorem walk_FnExactCoveredBands (a0 b0 c0 : Int) (la0 : -128 ≤ a0) (ha0 : a0 ≤ 127) (lb0 : -128 ≤ b0) (hb0 : b0 ≤ 127) (lc0 : -128 ≤ c0) (hc0 : c0 ≤ 127) (A1 : Option Addr) (n1 cap1 : Nat) (fs1 es1 : Nat → Int) (x2 : Int) (bl2 : -9223372036854775808 ≤ x2) (bh2 : x2 ≤ 9223372036854775807) (w : World) (hL : laidMetH Tryd.prog Rows.fnExactCoveredBandsRow.laid w) (hr1 : PtsIn w A1 n1 fs1 es1) (hm1 : n1 ≤ maxLen) (hs1 : SmallP n1 fs1 es1) :
    Calls Tryd.prog 6 #[stV a0 b0 c0, .slice A1 n1 cap1, .int .i64 x2] w fun e w' => e = .returned (.bool true) ∧ Below w.heap.size w w' := by
  obtain ⟨s, hE⟩ := errEnv_of_row hL (by kernel_rfl) (by kernel_rfl)
  have hT := timEnv_of_row hL (by kernel_rfl) (by kernel_rfl)
  unfold maxLen at hm1
  by_cases hn0 : n1 ≤ 1048576
  rotate_left
  · clear hr1 hE hT hL
    have hz1 := szCurve_any A1 n1 cap1 (1048576) (by omega) (by omega) hm1
    rw [if_neg (by omega)] at hz1
    have Hz1 := Lib.hid hz1; clear hz1
    go_enter Tryd.func6, Tryd.ntmps6
    go_wp2_with fail
    refine (Hz1.out _).mono ?_; rintro e z1 ⟨rfl, rfl⟩
    go_wp2
    go_ret
    exact ⟨rfl, by (repeat (first | exact Below.refl _ _ | assumption | apply Below.drew | apply below_drewL | (refine Below.alloc ?_ (by first | omega | (simp; done) | (simp; omega)) _) | (refine Below.setCell ?_ (by first | omega | (simp; done) | (simp; omega)) _)))⟩
  have hz1 := szCurve_any A1 n1 cap1 (1048576) (by omega) (by omega) hm1
  rw [if_pos (by omega)] at hz1
  have hN1 : n1 ≤ 1048576 := by omega
  have Hz1 := Lib.hid hz1; clear hz1
  have hsp := fun b1 (W : World) hW1 => specCoveredBands_any a0 b0 c0 la0 ha0 lb0 hb0 lc0 hc0 b1 n1 n1 fs1 es1 x2 hN1 hs1 W hW1
  have him := fun b1 (W : World) hW1 hTW hEW => CoveredBands_any s a0 b0 c0 la0 ha0 lb0 hb0 lc0 hc0 b1 n1 n1 fs1 es1 x2 hN1 hs1 W hW1 hTW hEW
  unfold LstC at hsp him
  have hNN : lenC (bndC a0 b0 c0 n1 fs1 es1 x2) c0.toNat ≤ 1048576 := by have := lenC_le (bndC a0 b0 c0 n1 fs1 es1 x2) c0.toNat; omega
  generalize lenC (bndC a0 b0 c0 n1 fs1 es1 x2) c0.toNat = NN at hsp him hNN
  generalize bndC a0 b0 c0 n1 fs1 es1 x2 = CC at hsp him
  generalize bndV n1 fs1 es1 x2 (covT a0 b0) = XX at hsp him
  have Hsp := Lib.hid hsp; clear hsp
  have Him := Lib.hid him; clear him
  have HE := Lib.hid hE; clear hE hL
  have HT := Lib.hid hT; clear hT
  have Hr1 := Lib.hid hr1; clear hr1
  have k0 : Below w.heap.size w (w.alloc (.cells #[.int .i8 a0, .int .i8 b0, .int .i8 c0] 24)) := (Below.refl _ _).alloc (Nat.le_refl _) _
  have S0 := StAt.new w 24 a0 b0 c0
  have sl0 := S0.lt
  go_enter Tryd.func6, Tryd.ntmps6
  go_wp2_with fail
  generalize w.alloc (.cells #[.int .i8 a0, .int .i8 b0, .int .i8 c0] 24) = w0 at *
  have z0 := k0.size
  refine (Hz1.out _).mono ?_; rintro e z1 ⟨rfl, rfl⟩
  have Sx := S0; obtain ⟨s0, s1, s2⟩ := Sx
  go_wp2_with fail
  refine (toStrip_any a0 b0 c0 _).mono ?_; rintro e w1 ⟨rfl, hb1⟩
  have k1 := k0.trans (hb1.mono k0.size)
  have z1 := hb1.size
  have S0 := S0.below hb1 S0.lt
  clear s0 s1 s2
  go_wp2_with fail
  refine (toCurve_any A1 n1 cap1 fs1 es1 hN1 _ (Hr1.out.below k1 (Nat.le_refl _))).mono ?_; rintro e w2 ⟨rfl, ra1, hb2⟩
  have k2 := k1.trans (hb2.mono k1.size)
  have z2 := hb2.size
  have S0 := S0.below hb2 S0.lt
  go_wp2_with fail
  refine (Hsp.out _ _ ra1).mono ?_; rintro e w3 ⟨v0, rfl, m0, hb3⟩
  have k3 := k2.trans (hb3.mono k2.size)
  have z3 := hb3.size
  have S0 := S0.below hb3 S0.lt
  have ra1 := ra1.below hb3 ra1.lt
  clear ra1
  go_wp2_with fail
  refine (toCurve_any A1 n1 cap1 fs1 es1 hN1 _ (Hr1.out.below k3 (Nat.le_refl _))).mono ?_; rintro e w4 ⟨rfl, rb1, hb4⟩
  have k4 := k3.trans (hb4.mono k3.size)
  have z4 := hb4.size
  have S0 := S0.below hb4 S0.lt
  have m0 := m0.below hb4 (by omega)
  have rl1 := rb1.lt
  have Sx := S0; obtain ⟨s0, s1, s2⟩ := Sx
  go_wp2_with fail
  refine (toStrip_any a0 b0 c0 _).mono ?_; rintro e w5 ⟨rfl, hb5⟩
  have k5 := k4.trans (hb5.mono k4.size)
  have z5 := hb5.size
  have S0 := S0.below hb5 S0.lt
  have m0 := m0.below hb5 (by omega)
  have rb1 := rb1.below hb5 rb1.lt
  clear s0 s1 s2
  go_wp2_with fail
  refine (Him.out _ _ rb1 (HT.out.below k5 (Nat.le_refl _)) (HE.out.below k5 (Nat.le_refl _))).mono ?_; rintro e w6 ⟨v1, rfl, m1, hb6⟩
  have k6 := k5.trans (hb6.mono k5.size)
  have z6 := hb6.size
  have S0 := S0.below hb6 S0.lt
  have m0 := m0.below hb6 (by omega)
  have rb1 := rb1.below hb6 rb1.lt
  go_wp2_with fail
  refine (eqInt64S_mine _ _ _ _ _ _ _ _ hNN _ m1 m0).mono ?_; rintro e w7 ⟨rfl, hb7⟩
  have k7 := k6.trans (hb7.mono k6.size)
  have z7 := hb7.size
  have S0 := S0.below hb7 S0.lt
  have m0 := m0.below hb7 (by omega)
  have rb1 := rb1.below hb7 rb1.lt
  have m1 := m1.below hb7 (by omega)
  go_wp2_with fail
  refine (toCurve_any A1 n1 cap1 fs1 es1 hN1 _ (Hr1.out.below k7 (Nat.le_refl _))).mono ?_; rintro e w8 ⟨rfl, rc1, hb8⟩
  have k8 := k7.trans (hb8.mono k7.size)
  have z8 := hb8.size
  have S0 := S0.below hb8 S0.lt
  have m0 := m0.below hb8 (by omega)
  have rb1 := rb1.below hb8 rb1.lt
  have m1 := m1.below hb8 (by omega)
  go_wp2_with fail
  refine (eqCurve_same _ _ n1 n1 n1 fs1 es1 hN1 _ rb1 rc1).mono ?_; rintro e w9 ⟨rfl, hb9⟩
  have k9 := k8.trans (hb9.mono k8.size)
  have z9 := hb9.size
  have S0 := S0.below hb9 S0.lt
  have m0 := m0.below hb9 (by omega)
  have rb1 := rb1.below hb9 rb1.lt
  have m1 := m1.below hb9 (by omega)
  have rc1 := rc1.below hb9 rc1.lt
  clear rc1
  have mx1 := mine_of_ptsL (cap := n1) rb1
  clear rb1
  go_wp2_with fail
  refine (markCurve_mine _ _ _ _ _ (1) (by omega) (by omega) hN1 _ mx1).mono ?_; rintro e w10 ⟨rfl, -, ho10⟩
  have k10 := k9.trans ((ho10.below (by omega)).mono (by omega))
  have z10 := ho10.size
  have m0 := m0.only ho10 (.inl (by omega))
  have m1 := m1.only ho10 (.inr (by omega))
  have S0 := S0.below (ho10.below (by omega)) (by omega)
  clear mx1
  go_wp2_with fail
  refine (eqInt64S_mine _ _ _ _ _ _ _ _ hNN _ m1 m0).mono ?_; rintro e w11 ⟨rfl, hb11⟩
  have k11 := k10.trans (hb11.mono k10.size)
  have z11 := hb11.size
  have S0 := S0.below hb11 S0.lt
  have m0 := m0.below hb11 (by omega)
  have m1 := m1.below hb11 (by omega)
  go_wp2_with fail
  refine (markInt64S_mine _ _ _ _ _ 1 (by omega) (by omega) hNN _ m1).mono ?_; rintro e w12 ⟨rfl, m1, ho12⟩
  have k12 := k11.trans ((ho12.below (by omega)).mono (by omega))
  have z12 := ho12.size
  have m0 := m0.only ho12 (.inl (by omega))
  have S0 := S0.below (ho12.below (by omega)) (by omega)
  go_wp2_with fail
  refine (heldInt64S_mine _ _ _ _ 1 (by omega) (by omega) hNN _ m1).mono ?_; rintro e wh ⟨rfl, rfl⟩
  have Sx := S0; obtain ⟨s0, s1, s2⟩ := Sx
  go_wp2_with fail
  refine (toStrip_any a0 b0 c0 _).mono ?_; rintro e w13 ⟨rfl, hb13⟩
  have k13 := k12.trans (hb13.mono k12.size)
  have z13 := hb13.size
  have S0 := S0.below hb13 S0.lt
  have m0 := m0.below hb13 (by omega)
  have m1 := m1.below hb13 (by omega)
  clear s0 s1 s2
  go_wp2_with fail
  refine (toCurve_any A1 n1 cap1 fs1 es1 hN1 _ (Hr1.out.below k13 (Nat.le_refl _))).mono ?_; rintro e w14 ⟨rfl, rd1, hb14⟩
  have k14 := k13.trans (hb14.mono k13.size)
  have z14 := hb14.size
  have S0 := S0.below hb14 S0.lt
  have m0 := m0.below hb14 (by omega)
  have m1 := m1.below hb14 (by omega)
  go_wp2_with fail
  refine (Him.out _ _ rd1 (HT.out.below k14 (Nat.le_refl _)) (HE.out.below k14 (Nat.le_refl _))).mono ?_; rintro e w15 ⟨v2, rfl, m2, hb15⟩
  have k15 := k14.trans (hb15.mono k14.size)
  have z15 := hb15.size
  have S0 := S0.below hb15 S0.lt
  have m0 := m0.below hb15 (by omega)
  have m1 := m1.below hb15 (by omega)
  have rd1 := rd1.below hb15 rd1.lt
  go_wp2_with fail
  refine (eqInt64S_mine _ _ _ _ _ _ _ _ hNN _ m2 m0).mono ?_; rintro e w16 ⟨rfl, hb16⟩
  have k16 := k15.trans (hb16.mono k15.size)
  have z16 := hb16.size
  have S0 := S0.below hb16 S0.lt
  have m0 := m0.below hb16 (by omega)
  have m1 := m1.below hb16 (by omega)
  have m2 := m2.below hb16 (by omega)
  go_wp2_with fail
  refine (heldInt64S_mine _ _ _ _ 1 (by omega) (by omega) hNN _ m1).mono ?_; rintro e wi ⟨rfl, rfl⟩
  go_wp2_with fail
  go_ret
  exact ⟨rfl, k16⟩
end Go.Proofs.YtkhahffdacopdaaDoor
