/-
  The walk of the law FnExactPrintFrom: it returns true for every argument. Condition: the listed variables hold what the row lists.
-/
import Derived.Test.YtnlcjbobfhmnmaaDoorPrnG
import Derived.Test.YtnlcjbobfhmnmaaDoorOpenA
import Derived.Test.YtnlcjbobfhmnmaaDoorOpenP
import Derived.Test.YtnlcjbobfhmnmaaDoorOpenSt
import Derived.Test.YtnlcjbobfhmnmaaDoorEqNeg
import Derived.Test.YtnlcjbobfhmnmaaDoorEnv
namespace Go.Proofs.YtnlcjbobfhmnmaaDoor
open Go.RowKit

set_option maxRecDepth 100000 in
set_option maxHeartbeats 4000000 in
theorem walk_FnExactPrintFrom (f : Nat → Int) (A1 : Option Addr) (n1 cap1 : Nat) (fs1 es1 : Nat → Int) (A2 : Option Addr) (n2 cap2 : Nat) (fs2 es2 : Nat → Int) (w : World) (hL : laidMetH Tryd.prog Rows.fnExactPrintFromRow.laid w) (hf : S16 f)
    (hr1 : PtsIn w A1 n1 fs1 es1) (hm1 : n1 ≤ maxLen) (hs1 : SmallP n1 fs1 es1) (hr2 : StsIn w A2 n2 fs2 es2) (hm2 : n2 ≤ maxLen) (hs2 : SmallS n2 fs2 es2) :
    Calls Tryd.prog 3 #[.agg (arrV .i16 64 f), .slice A1 n1 cap1, .slice A2 n2 cap2] w fun e w' => e = .returned (.bool true) ∧ Below w.heap.size w w' := by
  obtain ⟨s, hE⟩ := errEnv_of_row hL (by kernel_rfl) (by kernel_rfl)
  have hT := timEnv_of_row hL (by kernel_rfl) (by kernel_rfl)
  unfold maxLen at hm1 hm2
  have a0 := HasArr.new w 23 .i16 64 f
  have k0 := (Below.refl w.heap.size w).alloc (Nat.le_refl _) (.cells (arrV .i16 64 f) 23)
  by_cases hn1 : n1 ≤ 1048576
  rotate_left
  · have hz1 := szCurve_any A1 n1 cap1 (1048576) (by omega) (by omega) hm1
    rw [if_neg (by omega)] at hz1
    have Hz1 := Lib.hid hz1; clear hz1 hr1 hr2 a0
    go_enter Tryd.func3, Tryd.ntmps3
    go_wp2_with fail
    refine (Hz1.out _).mono ?_; rintro e z0 ⟨rfl, rfl⟩
    go_wp2
    go_ret
    exact ⟨rfl, k0⟩
  by_cases hn2 : n1 + n2 ≤ 1048576
  rotate_left
  · have hz1 := szCurve_any A1 n1 cap1 (1048576) (by omega) (by omega) hm1
    rw [if_pos (by omega)] at hz1
    have hz2 := szStepS_any A2 n2 cap2 (1048576 - (n1 : Int)) (by omega) (by omega) hm2
    rw [if_neg (by omega)] at hz2
    have Hz1 := Lib.hid hz1; clear hz1
    have Hz2 := Lib.hid hz2; clear hz2 hr1 hr2 a0
    go_enter Tryd.func3, Tryd.ntmps3
    go_wp2_with fail
    refine (Hz1.out _).mono ?_; rintro e z0 ⟨rfl, rfl⟩
    go_wp2_with fail
    refine (Hz2.out _).mono ?_; rintro e z1 ⟨rfl, rfl⟩
    go_wp2
    go_ret
    exact ⟨rfl, k0⟩
  have hz1 := szCurve_any A1 n1 cap1 (1048576) (by omega) (by omega) hm1
  rw [if_pos (by omega)] at hz1
  have hz2 := szStepS_any A2 n2 cap2 (1048576 - (n1 : Int)) (by omega) (by omega) hm2
  rw [if_pos (by omega)] at hz2
  have hN1 : n1 ≤ 1048576 := by omega
  have hN2 : n2 ≤ 1048576 := by omega
  have hsp := fun b b' (W : World) h h' => specPrintFrom_any f hf b n1 n1 fs1 es1 hN1 hs1 b' n2 n2 fs2 es2 hN2 hs2 W h h'
  have him := fun b b' (W : World) h h' hE hT => PrintFrom_any s f hf b n1 n1 fs1 es1 hN1 hs1 b' n2 n2 fs2 es2 hN2 hs2 W h h' hE hT
  generalize prtC f n1 fs1 es1 n2 es2 = C at hsp him
  generalize prtG f n1 fs1 es1 n2 fs2 es2 = G at hsp him
  have Hz1 := Lib.hid hz1; clear hz1
  have Hz2 := Lib.hid hz2; clear hz2
  have Hsp := Lib.hid hsp; clear hsp
  have Him := Lib.hid him; clear him
  have HE := Lib.hid hE; clear hE hL
  have HT := Lib.hid hT; clear hT
  have Hr1 := Lib.hid (hr1.below k0 (Nat.le_refl _)); clear hr1
  have Hr2 := Lib.hid (hr2.below k0 (Nat.le_refl _)); clear hr2
  clear hm1 hm2 hf
  go_enter Tryd.func3, Tryd.ntmps3
  go_wp2_with fail
  refine (Hz1.out _).mono ?_; rintro e z0 ⟨rfl, rfl⟩
  go_wp2_with fail
  refine (Hz2.out _).mono ?_; rintro e z1 ⟨rfl, rfl⟩
  generalize hw0 : w.alloc (.cells (arrV .i16 64 f) 23) = w0 at *
  have hz0 : w0.heap.size = w.heap.size + 1 := by rw [← hw0]; simp
  clear hw0

  have b0 := Below.refl w0.heap.size w0
  go_wp2_with (refine wpList_load_arr a0 23 (.tmp 3) rfl rfl rfl Tryd.underlying23 sizeA64 ?_)
  refine (toNegative_16 f _).mono ?_; rintro e w1 ⟨rfl, hb1⟩
  have b1 := b0.trans (hb1.mono b0.size)
  have a1 := a0.below hb1 a0.lt
  have k1 := k0.trans (hb1.mono k0.size)
  clear a0 k0
  clear b0
  clear hb1
  go_wp2_with fail
  refine (toCurve_any A1 n1 cap1 fs1 es1 hN1 _ (Hr1.out.below (b1) (by omega))).mono ?_; rintro e w2 ⟨rfl, r2, hb2⟩
  have b2 := b1.trans (hb2.mono b1.size)
  have a2 := a1.below hb2 a1.lt
  have k2 := k1.trans (hb2.mono k1.size)
  clear a1 k1
  clear b1
  have RA := Lib.hid r2; clear r2 hb2
  go_wp2_with fail
  refine (toStepS_any A2 n2 cap2 fs2 es2 hN2 _ (Hr2.out.below (b2) (by omega))).mono ?_; rintro e w3 ⟨rfl, r3, hb3⟩
  have b3 := b2.trans (hb3.mono b2.size)
  have a3 := a2.below hb3 a2.lt
  have k3 := k2.trans (hb3.mono k2.size)
  have RA_3 := Lib.hid (RA.out.below hb3 RA.out.lt)
  clear a2 k2 RA
  clear b2
  have RB := Lib.hid r3; clear r3 hb3
  go_wp2_with fail
  refine (Hsp.out _ _ _ RA_3.out RB.out).mono ?_; rintro e w4 ⟨rfl, hb4⟩
  have b4 := b3.trans (hb4.mono b3.size)
  have a4 := a3.below hb4 a3.lt
  have k4 := k3.trans (hb4.mono k3.size)
  have RA_4 := Lib.hid (RA_3.out.below hb4 RA_3.out.lt)
  have RB_4 := Lib.hid (RB.out.below hb4 RB.out.lt)
  clear a3 k3 RA_3 RB
  clear b3
  clear hb4 Hsp RA_4 RB_4
  have z4 := k4.size
  have y4 := b4.size
  have q4 := HasArr.zero w4 28 (b := w4.heap.size) rfl
  have l4 := a4.lt
  have kb4 := below_setRow ((Below.refl w4.heap.size w4).alloc (Nat.le_refl _) (.cells #[.int .i16 0, .int .i16 0, .int .i16 0, .int .i16 0, .int .i16 0, .int .i16 0, .int .i16 0, .int .i16 0, .int .i16 0, .int .i16 0, .int .i16 0, .int .i16 0, .int .i16 0, .int .i16 0, .int .i16 0, .int .i16 0, .int .i16 0, .int .i16 0, .int .i16 0, .int .i16 0, .int .i16 0, .int .i16 0, .int .i16 0, .int .i16 0, .int .i16 0, .int .i16 0, .int .i16 0, .int .i16 0, .int .i16 0, .int .i16 0, .int .i16 0, .int .i16 0, .int .i16 0, .int .i16 0, .int .i16 0, .int .i16 0, .int .i16 0, .int .i16 0, .int .i16 0, .int .i16 0, .int .i16 0, .int .i16 0, .int .i16 0, .int .i16 0, .int .i16 0, .int .i16 0, .int .i16 0, .int .i16 0, .int .i16 0, .int .i16 0, .int .i16 0, .int .i16 0, .int .i16 0, .int .i16 0, .int .i16 0, .int .i16 0, .int .i16 0, .int .i16 0, .int .i16 0, .int .i16 0, .int .i16 0, .int .i16 0, .int .i16 0, .int .i16 0] 28)) (b := w4.heap.size) (Nat.le_refl _) (arrV .i16 64 G)
  have p4 := q4.setRow .i16 G
  obtain ⟨v4, hv4⟩ : ∃ x : World, x = (w4.alloc (.cells #[.int .i16 0, .int .i16 0, .int .i16 0, .int .i16 0, .int .i16 0, .int .i16 0, .int .i16 0, .int .i16 0, .int .i16 0, .int .i16 0, .int .i16 0, .int .i16 0, .int .i16 0, .int .i16 0, .int .i16 0, .int .i16 0, .int .i16 0, .int .i16 0, .int .i16 0, .int .i16 0, .int .i16 0, .int .i16 0, .int .i16 0, .int .i16 0, .int .i16 0, .int .i16 0, .int .i16 0, .int .i16 0, .int .i16 0, .int .i16 0, .int .i16 0, .int .i16 0, .int .i16 0, .int .i16 0, .int .i16 0, .int .i16 0, .int .i16 0, .int .i16 0, .int .i16 0, .int .i16 0, .int .i16 0, .int .i16 0, .int .i16 0, .int .i16 0, .int .i16 0, .int .i16 0, .int .i16 0, .int .i16 0, .int .i16 0, .int .i16 0, .int .i16 0, .int .i16 0, .int .i16 0, .int .i16 0, .int .i16 0, .int .i16 0, .int .i16 0, .int .i16 0, .int .i16 0, .int .i16 0, .int .i16 0, .int .i16 0, .int .i16 0, .int .i16 0] 28)).setRow w4.heap.size (arrV .i16 64 G) := ⟨_, rfl⟩
  rw [← hv4] at p4 kb4
  have b904 := b4.trans (kb4.mono b4.size)
  have a904 := a4.below kb4 a4.lt
  have k904 := k4.trans (kb4.mono k4.size)
  clear a4 k4
  clear b4
  have GA := Lib.hid p4; clear p4 kb4
  go_wp2_with (refine wpList_store_arr q4 28 (.tmp 8) (.tmp 32) rfl rfl rfl rfl sizePrint ?_; rw [← hv4]; clear hv4 q4)
  refine (toCurve_any A1 n1 cap1 fs1 es1 hN1 _ (Hr1.out.below (b904) (by omega))).mono ?_; rintro e w5 ⟨rfl, r5, hb5⟩
  have b5 := b904.trans (hb5.mono b904.size)
  have a5 := a904.below hb5 a904.lt
  have k5 := k904.trans (hb5.mono k904.size)
  have GA_5 := Lib.hid (GA.out.below hb5 GA.out.lt)
  clear a904 k904 GA
  clear b904
  have RC := Lib.hid r5; clear r5 hb5
  go_wp2_with fail
  refine (toStepS_any A2 n2 cap2 fs2 es2 hN2 _ (Hr2.out.below (b5) (by omega))).mono ?_; rintro e w6 ⟨rfl, r6, hb6⟩
  have b6 := b5.trans (hb6.mono b5.size)
  have a6 := a5.below hb6 a5.lt
  have k6 := k5.trans (hb6.mono k5.size)
  have RC_6 := Lib.hid (RC.out.below hb6 RC.out.lt)
  have GA_6 := Lib.hid (GA_5.out.below hb6 GA_5.out.lt)
  clear a5 k5 RC GA_5
  clear b5
  have RD := Lib.hid r6; clear r6 hb6
  go_wp2_with (refine wpList_load_arr a6 23 (.tmp 3) rfl rfl rfl Tryd.underlying23 sizeA64 ?_)
  refine (toNegative_16 f _).mono ?_; rintro e w7 ⟨rfl, hb7⟩
  have b7 := b6.trans (hb7.mono b6.size)
  have a7 := a6.below hb7 a6.lt
  have k7 := k6.trans (hb7.mono k6.size)
  have RC_7 := Lib.hid (RC_6.out.below hb7 RC_6.out.lt)
  have RD_7 := Lib.hid (RD.out.below hb7 RD.out.lt)
  have GA_7 := Lib.hid (GA_6.out.below hb7 GA_6.out.lt)
  clear a6 k6 RC_6 RD GA_6
  clear b6
  clear hb7
  go_wp2_with fail
  refine (Him.out _ _ _ RC_7.out RD_7.out (HE.out.below k7 (Nat.le_refl _)) (HT.out.below k7 (Nat.le_refl _))).mono ?_; rintro e w8 ⟨rfl, hb8⟩
  have b8 := b7.trans (hb8.mono b7.size)
  have a8 := a7.below hb8 a7.lt
  have k8 := k7.trans (hb8.mono k7.size)
  have RC_8 := Lib.hid (RC_7.out.below hb8 RC_7.out.lt)
  have RD_8 := Lib.hid (RD_7.out.below hb8 RD_7.out.lt)
  have GA_8 := Lib.hid (GA_7.out.below hb8 GA_7.out.lt)
  clear a7 k7 RC_7 RD_7 GA_7
  clear b7
  clear hb8 Him
  have z8 := k8.size
  have y8 := b8.size
  have q8 := HasArr.zero w8 28 (b := w8.heap.size) rfl
  have l8 := a8.lt
  have kb8 := below_setRow ((Below.refl w8.heap.size w8).alloc (Nat.le_refl _) (.cells #[.int .i16 0, .int .i16 0, .int .i16 0, .int .i16 0, .int .i16 0, .int .i16 0, .int .i16 0, .int .i16 0, .int .i16 0, .int .i16 0, .int .i16 0, .int .i16 0, .int .i16 0, .int .i16 0, .int .i16 0, .int .i16 0, .int .i16 0, .int .i16 0, .int .i16 0, .int .i16 0, .int .i16 0, .int .i16 0, .int .i16 0, .int .i16 0, .int .i16 0, .int .i16 0, .int .i16 0, .int .i16 0, .int .i16 0, .int .i16 0, .int .i16 0, .int .i16 0, .int .i16 0, .int .i16 0, .int .i16 0, .int .i16 0, .int .i16 0, .int .i16 0, .int .i16 0, .int .i16 0, .int .i16 0, .int .i16 0, .int .i16 0, .int .i16 0, .int .i16 0, .int .i16 0, .int .i16 0, .int .i16 0, .int .i16 0, .int .i16 0, .int .i16 0, .int .i16 0, .int .i16 0, .int .i16 0, .int .i16 0, .int .i16 0, .int .i16 0, .int .i16 0, .int .i16 0, .int .i16 0, .int .i16 0, .int .i16 0, .int .i16 0, .int .i16 0] 28)) (b := w8.heap.size) (Nat.le_refl _) (arrV .i16 64 G)
  have p8 := q8.setRow .i16 G
  obtain ⟨v8, hv8⟩ : ∃ x : World, x = (w8.alloc (.cells #[.int .i16 0, .int .i16 0, .int .i16 0, .int .i16 0, .int .i16 0, .int .i16 0, .int .i16 0, .int .i16 0, .int .i16 0, .int .i16 0, .int .i16 0, .int .i16 0, .int .i16 0, .int .i16 0, .int .i16 0, .int .i16 0, .int .i16 0, .int .i16 0, .int .i16 0, .int .i16 0, .int .i16 0, .int .i16 0, .int .i16 0, .int .i16 0, .int .i16 0, .int .i16 0, .int .i16 0, .int .i16 0, .int .i16 0, .int .i16 0, .int .i16 0, .int .i16 0, .int .i16 0, .int .i16 0, .int .i16 0, .int .i16 0, .int .i16 0, .int .i16 0, .int .i16 0, .int .i16 0, .int .i16 0, .int .i16 0, .int .i16 0, .int .i16 0, .int .i16 0, .int .i16 0, .int .i16 0, .int .i16 0, .int .i16 0, .int .i16 0, .int .i16 0, .int .i16 0, .int .i16 0, .int .i16 0, .int .i16 0, .int .i16 0, .int .i16 0, .int .i16 0, .int .i16 0, .int .i16 0, .int .i16 0, .int .i16 0, .int .i16 0, .int .i16 0] 28)).setRow w8.heap.size (arrV .i16 64 G) := ⟨_, rfl⟩
  rw [← hv8] at p8 kb8
  have b908 := b8.trans (kb8.mono b8.size)
  have a908 := a8.below kb8 a8.lt
  have k908 := k8.trans (kb8.mono k8.size)
  have RC_908 := Lib.hid (RC_8.out.below kb8 RC_8.out.lt)
  have RD_908 := Lib.hid (RD_8.out.below kb8 RD_8.out.lt)
  have GA_908 := Lib.hid (GA_8.out.below kb8 GA_8.out.lt)
  clear a8 k8 RC_8 RD_8 GA_8
  clear b8
  have GB := Lib.hid p8; clear p8 kb8
  go_wp2_with (first | (refine wpList_store_arr q8 28 (.tmp 12) (.tmp 44) rfl rfl rfl rfl sizePrint ?_; rw [← hv8]; clear hv8 q8) | (refine wpList_load_arr GA_908.out 28 (.tmp 8) rfl rfl rfl Tryd.underlying28 sizePrint ?_) | (refine wpList_load_arr GB.out 28 (.tmp 12) rfl rfl rfl Tryd.underlying28 sizePrint ?_))
  refine (eqPrint_same G _).mono ?_; rintro e w9 ⟨rfl, hb9⟩
  clear GA_908 GB
  have b9 := b908.trans (hb9.mono b908.size)
  have a9 := a908.below hb9 a908.lt
  have k9 := k908.trans (hb9.mono k908.size)
  have RC_9 := Lib.hid (RC_908.out.below hb9 RC_908.out.lt)
  have RD_9 := Lib.hid (RD_908.out.below hb9 RD_908.out.lt)
  clear a908 k908 RC_908 RD_908
  clear b908
  clear hb9
  go_wp2_with fail
  refine (toCurve_any A1 n1 cap1 fs1 es1 hN1 _ (Hr1.out.below (b9) (by omega))).mono ?_; rintro e w10 ⟨rfl, r10, hb10⟩
  have b10 := b9.trans (hb10.mono b9.size)
  have a10 := a9.below hb10 a9.lt
  have k10 := k9.trans (hb10.mono k9.size)
  have RC_10 := Lib.hid (RC_9.out.below hb10 RC_9.out.lt)
  have RD_10 := Lib.hid (RD_9.out.below hb10 RD_9.out.lt)
  clear a9 k9 RC_9 RD_9
  clear b9
  have RE := Lib.hid r10; clear r10 hb10
  go_wp2_with fail
  refine (eqCurve_same _ _ n1 n1 n1 fs1 es1 hN1 _ RC_10.out RE.out).mono ?_; rintro e w11 ⟨rfl, hb11⟩
  clear RC_10 RE
  have b11 := b10.trans (hb11.mono b10.size)
  have a11 := a10.below hb11 a10.lt
  have k11 := k10.trans (hb11.mono k10.size)
  have RD_11 := Lib.hid (RD_10.out.below hb11 RD_10.out.lt)
  clear a10 k10 RD_10
  clear b10
  clear hb11
  go_wp2_with fail
  refine (toStepS_any A2 n2 cap2 fs2 es2 hN2 _ (Hr2.out.below (b11) (by omega))).mono ?_; rintro e w12 ⟨rfl, r12, hb12⟩
  have b12 := b11.trans (hb12.mono b11.size)
  have a12 := a11.below hb12 a11.lt
  have k12 := k11.trans (hb12.mono k11.size)
  have RD_12 := Lib.hid (RD_11.out.below hb12 RD_11.out.lt)
  clear a11 k11 RD_11
  clear b11
  have RF := Lib.hid r12; clear r12 hb12
  go_wp2_with fail
  refine (eqStepS_same _ _ n2 n2 n2 fs2 es2 hN2 _ RD_12.out RF.out).mono ?_; rintro e w13 ⟨rfl, hb13⟩
  have k99 := k12.trans (hb13.mono k12.size)
  go_wp2_with fail
  go_ret
  exact ⟨rfl, k99⟩
end Go.Proofs.YtnlcjbobfhmnmaaDoor
