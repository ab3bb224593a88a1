/-
  The walk of the law FnExactMeteredFor: it returns true for every table and shutter. Condition: the listed variables hold what the row lists.
-/
import Derived.Test.YtakmekidnfeciaaDoorMetered
import Derived.Test.YtakmekidnfeciaaDoorOwnInts
import Derived.Test.YtakmekidnfeciaaDoorOpenL
import Derived.Test.YtakmekidnfeciaaDoorEnv
namespace Go.Proofs.YtakmekidnfeciaaDoor
open Go.RowKit

set_option maxHeartbeats 1000000 in
theorem markLongS_any (g n cap : Nat) (fs es : Nat → Int) (k0 : Int) (hk0 : 0 ≤ k0) (hk1 : k0 ≤ 4000000) (hn : n ≤ 1048576) (w : World) (hr : LongRow w g n fs es) :
    Calls Tryd.prog 19 #[.slice (some ⟨g, 0, none⟩) n cap, .int .i64 k0] w fun e w' => e = .returned (.int .i64 (k0 + 2 * n)) ∧ Only g (g + 1) w w' := by
  obtain ⟨mm, _, hmm, hr, _⟩ := hr
  go_enter Tryd.func19, Tryd.ntmps19
  go_wp2
  go_loopw [1, 5] (fun q i wr => ∃ k : Nat, k ≤ n ∧ i = .int .i64 k ∧ q = .int .i64 (k0 + 2 * k) ∧ (∃ f, wr.rowIs g 68 mm f) ∧ Only g (g + 1) w wr) (fun _ i _ => n - (intOf i).toNat)
  case atStart => exact ⟨0, Nat.zero_le _, rfl, by simp, ⟨_, hr⟩, .refl _ _ _⟩
  case round =>
    obtain ⟨k, hk, rfl, rfl, ⟨f, hR⟩, hO⟩ := hrel
    by_cases hkn : k < n
    · have c0 := hR.cell (i := k * 2) (by omega)
      have c1 := hR.cell (i := k * 2 + 1) (by omega)
      have f0 := hR.frozen (k * 2)
      have f1 := hR.frozen (k * 2 + 1)
      have hst := fun x y => (hR.set (k * 2) x).set (k * 2 + 1) y
      have Hst := Lib.hid hst; clear hst
      go_wp2
      go_roundw
      case rel => exact ⟨k + 1, by omega, by go_num, congrArg (Value.int .i64) (by omega), ⟨_, Hst.out _ _⟩, (hO.setCell (Nat.le_refl _) (Nat.lt_succ_self _) _).setCell (Nat.le_refl _) (Nat.lt_succ_self _) _⟩
      case measure => simp [intOf]; omega
    · go_wp2
      go_ret
      have e : k = n := by omega
      subst e
      exact ⟨rfl, hO⟩

theorem LongRow.only {w w' : World} {g n : Nat} {fs es : Nat → Int} {L U : Nat} (h : LongRow w g n fs es) (ho : Only L U w w') (hb : g < L ∨ U ≤ g) : LongRow w' g n fs es := by
  obtain ⟨m, f, hm, hr, he⟩ := h
  exact ⟨m, f, hm, rowIs_only hr ho hb, he⟩

set_option maxRecDepth 100000 in
set_option maxHeartbeats 1000000 in
theorem walk_FnExactMeteredFor (A : Option Addr) (n cap : Nat) (fs es : Nat → Int) (sh : Int) (_h : -9223372036854775808 ≤ sh) (_h' : sh ≤ 9223372036854775807) (w : World) (hL : laidMetH Tryd.prog Rows.fnExactMeteredForRow.laid w) (hr : LongsIn w A n fs es) (hm : n ≤ maxLen) (hs : Small n fs es) :
    Calls Tryd.prog 3 #[.slice A n cap, .int .i64 sh] w fun e w' => e = .returned (.bool true) ∧ Below w.heap.size w w' := by
  obtain ⟨s, hE⟩ := errEnv_of_row hL (by kernel_rfl) (by kernel_rfl)
  unfold maxLen at hm
  have hsz := szLongS_any A n cap
  by_cases hn : n ≤ 1048576
  · have hle : (n : Int) ≤ 1048576 := by omega
    rw [if_pos hle] at hsz
    have Hsz := Lib.hid hsz; clear hsz
    have hsp := fun (g cap : Nat) (W : World) hrW => specMeteredFor_any g n cap fs es sh hn hs W hrW
    have him := fun (g cap : Nat) (W : World) hrW hEW => MeteredFor_any s g n cap fs es sh hn hs W hrW hEW
    have hl := metR_le n fs es sh
    generalize metR n fs es sh = l at hsp him hl
    generalize extC n fs es sh = c at hsp him
    have Hsp := Lib.hid hsp; clear hsp
    have Him := Lib.hid him; clear him
    go_enter Tryd.func3, Tryd.ntmps3
    go_wp2_with fail
    refine (Hsz.out (by omega) _).mono ?_; rintro e w0 ⟨rfl, rfl⟩
    go_wp2_with fail
    refine (toLongS_any A n cap fs es hn _ hr).mono ?_; rintro e w1 ⟨rfl, hr1, hb1⟩
    have k1 := hb1
    have z1 := hb1.size
    go_wp2_with fail
    refine (Hsp.out _ _ _ hr1).mono ?_; rintro e w2 ⟨v0, rfl, hm0, hb2⟩
    have k2 := k1.trans (hb2.mono k1.size)
    have z2 := hb2.size
    go_wp2_with fail
    refine (toLongS_any A n cap fs es hn _ (hr.below k2 (Nat.le_refl _))).mono ?_; rintro e w3 ⟨rfl, hr3, hb3⟩
    have k3 := k2.trans (hb3.mono k2.size)
    have z3 := hb3.size
    have y3 := hr3.lt
    go_wp2_with fail
    refine (Him.out _ _ _ hr3 (hE.below k3 (Nat.le_refl _))).mono ?_; rintro e w4 ⟨v1, rfl, hm1, hb4⟩
    have k4 := k3.trans (hb4.mono k3.size)
    have z4 := hb4.size
    have hm0 := (hm0.below hb3 (Nat.le_refl _)).below hb4 z3
    have hr4 := hr3.below hb4 y3
    go_wp2_with fail
    refine (eqInt64S_mine _ _ _ _ _ v1 v0 _ (by omega) _ hm1 hm0).mono ?_; rintro e w5 ⟨rfl, hb5⟩
    have k5 := k4.trans (hb5.mono k4.size)
    have z5 := hb5.size
    have hm0 := hm0.below hb5 (by omega)
    have hm1 := hm1.below hb5 (by omega)
    have hr5 := hr4.below hb5 hr4.lt
    go_wp2_with fail
    refine (toLongS_any A n cap fs es hn _ (hr.below k5 (Nat.le_refl _))).mono ?_; rintro e w6 ⟨rfl, hr6', hb6⟩
    have k6 := k5.trans (hb6.mono k5.size)
    have z6 := hb6.size
    have hm0 := hm0.below hb6 (by omega)
    have hm1 := hm1.below hb6 (by omega)
    have hr6 := hr5.below hb6 hr5.lt
    go_wp2_with fail
    refine (eqLongS_same _ _ n n n fs es hn _ hr6 hr6').mono ?_; rintro e w7 ⟨rfl, hb7⟩
    have k7 := k6.trans (hb7.mono k6.size)
    have z7 := hb7.size
    have hm0 := hm0.below hb7 (by omega)
    have hm1 := hm1.below hb7 (by omega)
    have hr7 := hr6.below hb7 hr6.lt
    go_wp2_with fail
    refine (markLongS_any _ n _ fs es 1 (by omega) (by omega) hn _ hr7).mono ?_; rintro e w8 ⟨rfl, ho8⟩
    have k8 := k7.trans ((ho8.below (by omega)).mono (by omega))
    have z8 := ho8.size
    have hm0 := hm0.only ho8 (.inl (Nat.le_refl _))
    have hm1 := hm1.only ho8 (.inr (by omega))
    go_wp2_with fail
    refine (eqInt64S_mine _ _ _ _ _ v1 v0 _ (by omega) _ hm1 hm0).mono ?_; rintro e w9 ⟨rfl, hb9⟩
    have k9 := k8.trans (hb9.mono k8.size)
    have z9 := hb9.size
    have hm0 := hm0.below hb9 (by omega)
    have hm1 := hm1.below hb9 (by omega)
    go_wp2_with fail
    refine (markInt64S_mine _ _ _ v1 _ 1 (by omega) (by omega) (by omega) _ hm1).mono ?_; rintro e w10 ⟨rfl, hm1, ho10⟩
    have k10 := k9.trans ((ho10.below (by omega)).mono (by omega))
    have z10 := ho10.size
    have hm0 := hm0.only ho10 (.inl (by omega))
    go_wp2_with fail
    refine (heldInt64S_mine _ _ _ v1 1 (by omega) (by omega) (by omega) _ hm1).mono ?_; rintro e w11 ⟨rfl, rfl⟩
    go_wp2_with fail
    refine (toLongS_any A n cap fs es hn _ (hr.below k10 (Nat.le_refl _))).mono ?_; rintro e w11 ⟨rfl, hr11, hb11⟩
    have k11 := k10.trans (hb11.mono k10.size)
    have z11 := hb11.size
    have hm0 := hm0.below hb11 (by omega)
    have hm1 := hm1.below hb11 (by omega)
    go_wp2_with fail
    refine (Him.out _ _ _ hr11 (hE.below k11 (Nat.le_refl _))).mono ?_; rintro e w12 ⟨v2, rfl, hm2, hb12⟩
    have k12 := k11.trans (hb12.mono k11.size)
    have z12 := hb12.size
    have hm0 := hm0.below hb12 (by omega)
    have hm1 := hm1.below hb12 (by omega)
    go_wp2_with fail
    refine (eqInt64S_mine _ _ _ _ _ v2 v0 _ (by omega) _ hm2 hm0).mono ?_; rintro e w13 ⟨rfl, hb13⟩
    have k13 := k12.trans (hb13.mono k12.size)
    have hm1 := hm1.below hb13 (by omega)
    go_wp2_with fail
    refine (heldInt64S_mine _ _ _ v1 1 (by omega) (by omega) (by omega) _ hm1).mono ?_; rintro e w14 ⟨rfl, rfl⟩
    go_wp2_with fail
    go_ret
    exact ⟨rfl, k13⟩
  · have hle : ¬ (n : Int) ≤ 1048576 := by omega
    rw [if_neg hle] at hsz
    have Hsz := Lib.hid hsz; clear hsz
    go_enter Tryd.func3, Tryd.ntmps3
    go_wp2_with fail
    refine (Hsz.out hm _).mono ?_; rintro e w0 ⟨rfl, rfl⟩
    go_wp2
    go_ret
    exact ⟨rfl, Below.refl _ _⟩
end Go.Proofs.YtakmekidnfeciaaDoor
