/-
  The walk of the law FnReplenished: it returns true for all bytes. Condition: the listed variables hold what the row lists.
-/
import Derived.Test.YtkgjkjecfpmlnaaDoorReA
import Derived.Test.YtkgjkjecfpmlnaaDoorPhaseB
import Derived.Test.YtkgjkjecfpmlnaaDoorEnv
namespace Go.Proofs.YtkgjkjecfpmlnaaDoor
open Go.RowKit

set_option maxRecDepth 100000 in
set_option maxHeartbeats 60000000 in
theorem walk_FnReplenished (A : Option Addr) (n cap : Nat) (bs : Nat → Int) (A' : Option Addr) (n' cap' : Nat) (bs' : Nat → Int) (w : World) (hL : laidMetH Tryd.prog Rows.fnReplenishedRow.laid w)
    (hr : BytesIn w A n bs) (hm : n ≤ maxLen) (hbs : ∀ j, j < n → 0 ≤ bs j ∧ bs j ≤ 255) (hr' : BytesIn w A' n' bs') (hm' : n' ≤ maxLen) (hbs' : ∀ j, j < n' → 0 ≤ bs' j ∧ bs' j ≤ 255) :
    Calls Tryd.prog 3 #[.slice A n cap, .slice A' n' cap'] w fun e w' => e = .returned (.bool true) ∧ Below w.heap.size w w' := by
  obtain ⟨z, hE⟩ := errEnv_of_row hL (by kernel_rfl) (by kernel_rfl)
  have hT := timEnv_of_row hL (by kernel_rfl) (by kernel_rfl)
  unfold maxLen at hm hm'
  have HE := Lib.hid hE; clear hE
  have HT := Lib.hid hT; clear hT hL
  have e1 := a2Long_any A n cap A' n' cap' (by omega) (by omega) w
  by_cases hbig : 3000 < n ∨ 3000 < n'
  · rw [show (decide (3000 < n) || decide (3000 < n')) = true by rcases hbig with h | h <;> simp [h]] at e1
    have E1 := Lib.hid e1; clear e1
    go_enter Tryd.func3, Tryd.ntmps3
    go_wp2_with fail
    refine E1.out.mono ?_; rintro e w1 ⟨rfl, rfl⟩
    go_wp2_with fail
    go_ret
    exact ⟨rfl, Below.refl _ _⟩
  have hs : n ≤ 3000 := by omega
  have hs' : n' ≤ 3000 := by omega
  rw [show (decide (3000 < n) || decide (3000 < n')) = false by simp; omega] at e1
  have E1 := Lib.hid e1; clear e1
  have Hbs := Lib.hid hbs; clear hbs
  have Hat := Lib.hid (fun (j : Nat) (m : Int) (hj : j ≤ 10) (hm : 1 ≤ m) (hm' : m ≤ 100000) V (hV : Below w.heap.size w V) => (atV_any A' n' cap' bs' j m hj hm hm' (by omega) hbs' V (hr'.below hV (Nat.le_refl _))))
  have Har := Lib.hid (fun V (hV : Below w.heap.size w V) => A2Areas_any A' n' cap' bs' (by omega) hbs' V (hr'.below hV (Nat.le_refl _)))
  have hr0 := atV_bd (bs := bs') (n := n') (k := 0) (m := 251) (by omega)
  have hr1 := atV_bd (bs := bs') (n := n') (k := 1) (m := 12) (by omega)
  have hr2 := atV_bd (bs := bs') (n := n') (k := 2) (m := 200) (by omega)
  have Hat0 := Lib.hid (fun V hV => Hat.out 0 251 (by omega) (by omega) (by omega) V hV)
  have Hat1 := Lib.hid (fun V hV => Hat.out 1 12 (by omega) (by omega) (by omega) V hV)
  have Hat2 := Lib.hid (fun V hV => Hat.out 2 200 (by omega) (by omega) (by omega) V hV)
  generalize atV bs' n' 0 251 = r0 at *
  generalize atV bs' n' 1 12 = r1 at *
  generalize atV bs' n' 2 200 = r2 at *
  clear hbig hm hm' Hat hr' hbs'
  go_enter Tryd.func3, Tryd.ntmps3
  go_wp2_with fail
  refine E1.out.mono ?_; rintro e w1 ⟨rfl, rfl⟩
  go_wp2_with fail
  refine (A2Bath_any (by omega) Hbs.out _ hr).mono ?_; rintro e w2 ⟨p, k, c, t, v, u, a, rfl, h, hp1, hk1, hv1, k2⟩
  clear E1 hr Hbs
  obtain ⟨m, S, L1, L2, hmv, hSs, c1, c2, c3, c4, c5⟩ := rep_one z h (4 * r0) (by omega) (by omega)
  obtain ⟨N, hN, c6, c7⟩ := rep_two z h (50 + r2) r1 (by omega) (by omega) (by omega) (by omega)
  have HC1 := Lib.hid c1; have HC2 := Lib.hid c2; have HC3 := Lib.hid c3; have HC4 := Lib.hid c4; have HC5 := Lib.hid c5; have HC6 := Lib.hid c6; have HC7 := Lib.hid c7
  have hcap := h.cap
  have hroom := h.room
  have hu0 := h.u0
  have hv0 := h.v0
  have hp0 := h.p0
  have HH := Lib.hid h
  clear c1 c2 c3 c4 c5 c6 c7 h
  have W0k := k2.alloc k2.size (.cells #[.int .i64 p, .int .i64 k, .int .i8 c, .int .i8 t] 26)
  have W0k := W0k.alloc W0k.size (.cells #[.int .i64 v, .int .i64 u, .int .i64 a] 28)
  have k_2 := Lib.hid W0k; clear W0k
  have D_2 := Lib.hid ((DvAt.newAt w2 w2.heap.size rfl 26 p k c t).alloc (.cells #[.int .i64 v, .int .i64 u, .int .i64 a] 28))
  have B_2 := Lib.hid (BtAt.newAt (w2.alloc (.cells #[.int .i64 p, .int .i64 k, .int .i8 c, .int .i8 t] 26)) (w2.heap.size + 1) (by simp) 28 v u a)
  clear k2
  go_wp2_with fail
  generalize (w2.alloc (.cells #[.int .i64 p, .int .i64 k, .int .i8 c, .int .i8 t] 26)).alloc (.cells #[.int .i64 v, .int .i64 u, .int .i64 a] 28) = W0 at *
  generalize w2.heap.size = bD at *
  refine (Hat0.out _ k_2.out).mono ?_; rintro e w3 ⟨rfl, rfl⟩
  clear Hat0
  obtain ⟨d0, d1, d2, d3⟩ := D_2.out
  obtain ⟨b0, b1, b2, _, _, _⟩ := B_2.out
  go_wp2_with fail
  clear d0 d1 d2 d3 b0 b1 b2
  refine (HC1.out _ (HE.out.below k_2.out (Nat.le_refl _))).mono ?_; rintro e w4 ⟨rfl, hb4⟩
  have D_4 := Lib.hid (D_2.out.below hb4 (Nat.le_refl _))
  have B_4 := Lib.hid (B_2.out.below hb4 (Nat.le_refl _))
  have k_4 := Lib.hid (k_2.out.trans (hb4.mono k_2.out.size))
  clear D_2 B_2 k_2
  clear hb4
  obtain ⟨d0, d1, d2, d3⟩ := D_4.out
  obtain ⟨b0, b1, b2, _, _, _⟩ := B_4.out
  go_wp2_with fail
  clear d0 d1 d2 d3 b0 b1 b2
  refine (HC2.out _).mono ?_; rintro e w5 ⟨rfl, hb5⟩
  have D_5 := Lib.hid (D_4.out.below hb5 (Nat.le_refl _))
  have B_5 := Lib.hid (B_4.out.below hb5 (Nat.le_refl _))
  have k_5 := Lib.hid (k_4.out.trans (hb5.mono k_4.out.size))
  clear D_4 B_4 k_4
  clear hb5
  obtain ⟨d0, d1, d2, d3⟩ := D_5.out
  obtain ⟨b0, b1, b2, _, _, _⟩ := B_5.out
  go_wp2_with fail
  clear d0 d1 d2 d3 b0 b1 b2
  refine (HC3.out _ (HE.out.below k_5.out (Nat.le_refl _))).mono ?_; rintro e w6 ⟨rfl, hb6⟩
  have D_6 := Lib.hid (D_5.out.below hb6 (Nat.le_refl _))
  have B_6 := Lib.hid (B_5.out.below hb6 (Nat.le_refl _))
  have k_6 := Lib.hid (k_5.out.trans (hb6.mono k_5.out.size))
  clear D_5 B_5 k_5
  clear hb6
  clear HC1 HC2
  have t7 := (Below.refl w6.heap.size w6).alloc (Nat.le_refl _) (.cells #[.int .i64 v, .int .i64 L1, .int .i64 L2] 28)
  have F_n7 := Lib.hid (BtAt.newAt w6 w6.heap.size rfl 28 v L1 L2)
  have D_7 := Lib.hid (D_6.out.below t7 (Nat.le_refl _))
  have B_7 := Lib.hid (B_6.out.below t7 (Nat.le_refl _))
  have k_7 := Lib.hid (k_6.out.trans (t7.mono k_6.out.size))
  clear D_6 B_6 k_6
  clear t7
  obtain ⟨d0, d1, d2, d3⟩ := D_7.out
  obtain ⟨f0, f1, f2, _, _, _⟩ := F_n7.out
  go_wp2_with fail
  clear d0 d1 d2 d3 f0 f1 f2
  generalize (w6.alloc (.cells #[.int .i64 v, .int .i64 L1, .int .i64 L2] 28)) = V7 at *
  refine (HC4.out _ (HE.out.below k_7.out (Nat.le_refl _))).mono ?_; rintro e w8 ⟨rfl, hb8⟩
  have D_8 := Lib.hid (D_7.out.below hb8 (Nat.le_refl _))
  have B_8 := Lib.hid (B_7.out.below hb8 (Nat.le_refl _))
  have F_8 := Lib.hid (F_n7.out.below hb8 (Nat.le_refl _))
  have k_8 := Lib.hid (k_7.out.trans (hb8.mono k_7.out.size))
  clear D_7 B_7 F_n7 k_7
  clear hb8
  clear HC3 HC4 F_8
  have q1 : ¬ S < 4 * r0 := by omega
  by_cases hm0 : 0 < m
  · have hm1 : (0 : Int) < m := by omega
    obtain ⟨S2, l1, l2, hS2, c1, c2⟩ := HC5.out hm0
    have HC1 := Lib.hid c1; have HC2 := Lib.hid c2
    clear c1 c2 HC5
    obtain ⟨d0, d1, d2, d3⟩ := D_8.out
    obtain ⟨b0, b1, b2, _, _, _⟩ := B_8.out
    go_wp2_with fail
    clear d0 d1 d2 d3 b0 b1 b2
    refine (HC1.out _ (HE.out.below k_8.out (Nat.le_refl _))).mono ?_; rintro e w9 ⟨rfl, hb9⟩
    have D_9 := Lib.hid (D_8.out.below hb9 (Nat.le_refl _))
    have B_9 := Lib.hid (B_8.out.below hb9 (Nat.le_refl _))
    have k_9 := Lib.hid (k_8.out.trans (hb9.mono k_8.out.size))
    clear D_8 B_8 k_8
    clear hb9
    have t10 := (Below.refl w9.heap.size w9).alloc (Nat.le_refl _) (.cells #[.int .i64 v, .int .i64 l1, .int .i64 l2] 28)
    have F_n10 := Lib.hid (BtAt.newAt w9 w9.heap.size rfl 28 v l1 l2)
    have D_10 := Lib.hid (D_9.out.below t10 (Nat.le_refl _))
    have B_10 := Lib.hid (B_9.out.below t10 (Nat.le_refl _))
    have k_10 := Lib.hid (k_9.out.trans (t10.mono k_9.out.size))
    clear D_9 B_9 k_9
    clear t10
    obtain ⟨d0, d1, d2, d3⟩ := D_10.out
    obtain ⟨f0, f1, f2, _, _, _⟩ := F_n10.out
    go_wp2_with fail
    clear d0 d1 d2 d3 f0 f1 f2
    generalize (w9.alloc (.cells #[.int .i64 v, .int .i64 l1, .int .i64 l2] 28)) = V10 at *
    refine (HC2.out _ (HE.out.below k_10.out (Nat.le_refl _))).mono ?_; rintro e w11 ⟨rfl, hb11⟩
    have D_11 := Lib.hid (D_10.out.below hb11 (Nat.le_refl _))
    have B_11 := Lib.hid (B_10.out.below hb11 (Nat.le_refl _))
    have F_11 := Lib.hid (F_n10.out.below hb11 (Nat.le_refl _))
    have k_11 := Lib.hid (k_10.out.trans (hb11.mono k_10.out.size))
    clear D_10 B_10 F_n10 k_10
    clear hb11
    clear HC1 HC2 F_11
    have q2 : ¬ 4 * r0 ≤ S2 := by omega
    go_wp2_with fail
    refine (Hat1.out _ k_11.out).mono ?_; rintro e w12 ⟨rfl, rfl⟩
    clear hm1 q1
    go_wp2_with fail
    refine (Hat2.out _ k_11.out).mono ?_; rintro e w13 ⟨rfl, rfl⟩
    clear Hat1 Hat2
    obtain ⟨d0, d1, d2, d3⟩ := D_11.out
    obtain ⟨b0, b1, b2, _, _, _⟩ := B_11.out
    go_wp2_with fail
    clear d0 d1 d2 d3 b0 b1 b2
    refine (HC6.out _ (HT.out.below k_11.out (Nat.le_refl _)) (HE.out.below k_11.out (Nat.le_refl _))).mono ?_; rintro e w14 ⟨rfl, hb14⟩
    have D_14 := Lib.hid (D_11.out.below hb14 (Nat.le_refl _))
    have B_14 := Lib.hid (B_11.out.below hb14 (Nat.le_refl _))
    have k_14 := Lib.hid (k_11.out.trans (hb14.mono k_11.out.size))
    clear D_11 B_11 k_11
    clear hb14
    obtain ⟨d0, d1, d2, d3⟩ := D_14.out
    obtain ⟨b0, b1, b2, _, _, _⟩ := B_14.out
    go_wp2_with fail
    clear d0 d1 d2 d3 b0 b1 b2
    refine (HC7.out _).mono ?_; rintro e w15 ⟨rfl, hb15⟩
    have D_15 := Lib.hid (D_14.out.below hb15 (Nat.le_refl _))
    have B_15 := Lib.hid (B_14.out.below hb15 (Nat.le_refl _))
    have k_15 := Lib.hid (k_14.out.trans (hb15.mono k_14.out.size))
    clear D_14 B_14 k_14
    clear hb15
    clear HC6 HC7
    have x0 : (v * p).tdiv 1000 = v * p / 1000 := Int.tdiv_eq_ediv_of_nonneg (by omega)
    have x1 : ¬ v * p / 1000 - u < (N : Int) * (50 + r2) := by omega
    have x4 : 0 ≤ (N : Int) * (50 + r2) := Int.mul_nonneg (by omega) (by omega)
    have x2 : IntKind.i64.wrap ((N : Int) * (50 + r2)) = (N : Int) * (50 + r2) := IntWalk.i64_in _ (by omega)
    have x3 : IntKind.i64.wrap (v * p) = v * p := IntWalk.i64_in _ (by omega)
    generalize hNN : (N : Int) * (50 + r2) = NN at *
    generalize hVP : v * p = VP at *
    obtain ⟨d0, d1, d2, d3⟩ := D_15.out
    obtain ⟨b0, b1, b2, _, _, _⟩ := B_15.out
    go_wp2_with fail
    clear d0 d1 d2 d3 b0 b1 b2
    refine (Har.out _ k_15.out).mono ?_; rintro e w16 ⟨ga, na, ca, xs, rfl, hna, hxs, hrn, hb16⟩
    have D_16 := Lib.hid (D_15.out.below hb16 (Nat.le_refl _))
    have B_16 := Lib.hid (B_15.out.below hb16 (Nat.le_refl _))
    have k_16 := Lib.hid (k_15.out.trans (hb16.mono k_15.out.size))
    clear D_15 B_15 k_15
    clear hb16
    have R1 := Lib.hid hrn; clear hrn x0 x1 x2 x3 x4 Har
    obtain ⟨kn, C, T, l, hkn, hC, hl60, c1, c2, c3, c4⟩ := rep_three z HH.out ga na ca xs (by omega) (fun j hj => by have := hxs j hj; omega) r1 (by omega) (by omega)
    have HC1 := Lib.hid c1; have HC2 := Lib.hid c2; have HC3 := Lib.hid c3; have HC4 := Lib.hid c4
    have HCC := Lib.hid hC
    clear c1 c2 c3 c4 hC HH hxs
    obtain ⟨d0, d1, d2, d3⟩ := D_16.out
    obtain ⟨b0, b1, b2, _, _, _⟩ := B_16.out
    go_wp2_with fail
    clear d0 d1 d2 d3 b0 b1 b2
    refine (HC1.out _ R1.out (HT.out.below k_16.out (Nat.le_refl _)) (HE.out.below k_16.out (Nat.le_refl _))).mono ?_; rintro e w17 ⟨v17, rfl, mi17, hb17⟩
    obtain ⟨A1, cap1, rfl, ce1⟩ := CelN.of mi17
    clear mi17
    have D_17 := Lib.hid (D_16.out.below hb17 (Nat.le_refl _))
    have B_17 := Lib.hid (B_16.out.below hb17 (Nat.le_refl _))
    have R1_17 := Lib.hid (R1.out.below hb17 R1.out.lt)
    have k_17 := Lib.hid (k_16.out.trans (hb17.mono k_16.out.size))
    clear D_16 B_16 R1 k_16
    clear hb17
    have M1 := Lib.hid ce1; clear ce1
    obtain ⟨d0, d1, d2, d3⟩ := D_17.out
    obtain ⟨b0, b1, b2, _, _, _⟩ := B_17.out
    go_wp2_with fail
    clear d0 d1 d2 d3 b0 b1 b2
    refine (HC2.out _ R1_17.out).mono ?_; rintro e w18 ⟨v18, rfl, mi18, hb18⟩
    obtain ⟨A2, cap2, rfl, ce2⟩ := CelN.of mi18
    clear mi18
    have D_18 := Lib.hid (D_17.out.below hb18 (Nat.le_refl _))
    have B_18 := Lib.hid (B_17.out.below hb18 (Nat.le_refl _))
    have M1_18 := Lib.hid (M1.out.below hb18 (Nat.le_refl _))
    have R1_18 := Lib.hid (R1_17.out.below hb18 R1_17.out.lt)
    have k_18 := Lib.hid (k_17.out.trans (hb18.mono k_17.out.size))
    clear D_17 B_17 M1 R1_17 k_17
    clear hb18
    have M2 := Lib.hid ce2; clear ce2
    obtain ⟨d0, d1, d2, d3⟩ := D_18.out
    obtain ⟨b0, b1, b2, _, _, _⟩ := B_18.out
    go_wp2_with fail
    clear d0 d1 d2 d3 b0 b1 b2
    refine (HC3.out _ R1_18.out (HT.out.below k_18.out (Nat.le_refl _)) (HE.out.below k_18.out (Nat.le_refl _))).mono ?_; rintro e w19 ⟨rfl, hb19⟩
    have D_19 := Lib.hid (D_18.out.below hb19 (Nat.le_refl _))
    have B_19 := Lib.hid (B_18.out.below hb19 (Nat.le_refl _))
    have M1_19 := Lib.hid (M1_18.out.below hb19 (Nat.le_refl _))
    have M2_19 := Lib.hid (M2.out.below hb19 (Nat.le_refl _))
    have R1_19 := Lib.hid (R1_18.out.below hb19 R1_18.out.lt)
    have k_19 := Lib.hid (k_18.out.trans (hb19.mono k_18.out.size))
    clear D_18 B_18 M1_18 M2 R1_18 k_18
    clear hb19
    obtain ⟨d0, d1, d2, d3⟩ := D_19.out
    obtain ⟨b0, b1, b2, _, _, _⟩ := B_19.out
    go_wp2_with fail
    clear d0 d1 d2 d3 b0 b1 b2
    refine (HC4.out _ R1_19.out).mono ?_; rintro e w20 ⟨rfl, hb20⟩
    have D_20 := Lib.hid (D_19.out.below hb20 (Nat.le_refl _))
    have B_20 := Lib.hid (B_19.out.below hb20 (Nat.le_refl _))
    have M1_20 := Lib.hid (M1_19.out.below hb20 (Nat.le_refl _))
    have M2_20 := Lib.hid (M2_19.out.below hb20 (Nat.le_refl _))
    have R1_20 := Lib.hid (R1_19.out.below hb20 R1_19.out.lt)
    have k_20 := Lib.hid (k_19.out.trans (hb20.mono k_19.out.size))
    clear D_19 B_19 M1_19 M2_19 R1_19 k_19
    clear hb20
    clear HC1 HC2 HC3 HC4
    have x1 : ¬ (kn : Int) < 0 := by omega
    have x2 : ¬ (na : Int) < kn := by omega
    have hll : l.length ≤ 1048576 := by omega
    go_wp2_with fail
    refine (A2Same_any A1 A2 l.length cap1 cap2 (fun j => l.getD j 0) hll _ M1_20.out M2_20.out).mono ?_; rintro e w21 ⟨rfl, hb21⟩
    have D_21 := Lib.hid (D_20.out.below hb21 (Nat.le_refl _))
    have B_21 := Lib.hid (B_20.out.below hb21 (Nat.le_refl _))
    have M1_21 := Lib.hid (M1_20.out.below hb21 (Nat.le_refl _))
    have M2_21 := Lib.hid (M2_20.out.below hb21 (Nat.le_refl _))
    have R1_21 := Lib.hid (R1_20.out.below hb21 R1_20.out.lt)
    have k_21 := Lib.hid (k_20.out.trans (hb21.mono k_20.out.size))
    clear D_20 B_20 M1_20 M2_20 R1_20 k_20
    clear hb21
    clear M1_21
    rcases HCC.out with rfl | ⟨rfl, hln, hkT, J, U, V, F, G, Sg, K, hTJ, hTb, hU, hV, hst⟩
    · go_wp2_with fail
      go_ret
      exact ⟨rfl, k_21.out⟩
    clear HCC x1 x2
    have HST := Lib.hid hst; clear hst
    have HTJ := Lib.hid hTJ; clear hTJ
    have HTB := Lib.hid hTb; clear hTb
    have HLN := Lib.hid hln
    have y1 : (l.length : Int) = na := by omega
    clear hln
    have y2 : ((kn : Int) == na) = (T == 0) := by rw [Bool.eq_iff_iff]; simp only [beq_iff_eq]; omega
    have y3 : ((kn : Int) = na) = (T = 0) := by apply propext; omega
    clear hkT
    obtain ⟨b0, b1, b2, _, _, _⟩ := B_21.out
    have t900 := (Below.refl w21.heap.size w21).alloc (Nat.le_refl _) (.cells #[.int .i64 v, .int .i64 u, .int .i64 a] 28)
    have n900 := BtAt.newAt w21 w21.heap.size rfl 28 v u a
    go_wp2_with fail
    clear b0 b1 b2
    generalize w21.alloc (.cells #[.int .i64 v, .int .i64 u, .int .i64 a] 28) = V900 at *
    rw [← hU, ← hV] at n900
    clear y1 y2 y3
    generalize decide (S < 4 * r0) = e1x
    generalize decide (VP / 1000 - u < NN) = e2x
    generalize decide ((kn : Int) < 0) = e3x
    generalize decide (na < kn) = e4x
    generalize (T == 0) = e5x
    generalize decide (4 * r0 ≤ S2) = e6x
    go_loopw [38, 39] (fun ov iv wr => ∃ i : Nat, i ≤ na ∧ iv = .int .i64 (i : Int) ∧ ov = .int .i64 (lrT J i) ∧ BtAt wr w21.heap.size v (U i) (V i) ∧ Below w21.heap.size w21 wr) (fun _ iv _ => na - (intOf iv).toNat)
    case atStart => exact ⟨0, Nat.zero_le _, rfl, rfl, n900, t900⟩
    case round =>
      clear n900 t900
      obtain ⟨i, hi, rfl, rfl, hnow, hB⟩ := hrel
      by_cases hin : i < na
      · have hin2 : (i : Int) < na := by omega
        obtain ⟨hlJ, hJ0, hJ1, hKs, c1, c2, c3, c4⟩ := HST.out i hin
        have HC1 := Lib.hid c1; have HC2 := Lib.hid c2; have HC3 := Lib.hid c3; have HC4 := Lib.hid c4
        clear c1 c2 c3 c4
        rcases M2_21.out with h0 | ⟨gm, rfl, hgm, hcm⟩
        · exfalso; have := HLN.out; omega
        have cm := below_cellOf hB (hcm i (by have := HLN.out; omega)) (Nat.le_refl _)
        have ca1 := (R1_21.out.below hB R1_21.out.lt).cell hin
        simp only at cm
        rw [hlJ] at cm
        clear hcm
        have D_r := Lib.hid (D_21.out.below hB (Nat.le_refl _))
        have NW := Lib.hid hnow
        have k_r := Lib.hid (k_21.out.trans (hB.mono k_21.out.size))
        have HBl := Lib.hid hB
        clear hnow hB
        have hil : (i : Int) < l.length := by have := HLN.out; omega
        have HTi := Lib.hid (And.intro (HTB.out i (by omega)) (And.intro (HTB.out (i + 1) (by omega)) (show lrT J (i + 1) = lrT J i + (J i : Int) from rfl)))
        go_wp2_with fail
        obtain ⟨d0, d1, d2, d3⟩ := D_r.out
        obtain ⟨f0, f1, f2, _, _, _⟩ := NW.out
        refine wp_region_phases 10 (clB wr (v) (F i) (G i)) .p0 (by kernel_rfl) (by kernel_rfl) ⟨⟨_, below_drew1 _⟩, rfl⟩ ?_
        apply Exists.intro
        refine ⟨fun ph => ?_, ?_⟩
        · simp only [List.take_succ_cons, List.take_zero]
          have n0 := phB_nonempty wr (v) (F i) (G i) ph
          have g0 := fun (x : WIn (phB wr (v) (F i) (G i) ph)) => inCellP d0 x
          have g1 := fun (x : WIn (phB wr (v) (F i) (G i) ph)) => inCellP d1 x
          have g2 := fun (x : WIn (phB wr (v) (F i) (G i) ph)) => inCellP d2 x
          have g3 := fun (x : WIn (phB wr (v) (F i) (G i) ph)) => inCellP d3 x
          have g4 := fun (x : WIn (phB wr (v) (F i) (G i) ph)) => inCellP f0 x
          have g5 := fun (x : WIn (phB wr (v) (F i) (G i) ph)) => inCellP f1 x
          have g6 := fun (x : WIn (phB wr (v) (F i) (G i) ph)) => inCellP f2 x
          have g7 := fun (x : WIn (phB wr (v) (F i) (G i) ph)) => inCellP cm x
          have Hc := Lib.hid (fun (x : WIn (phB wr (v) (F i) (G i) ph)) => HC1.out x.w)
          repeat (go_big_quiet_step (first | (go_at_call 19; exact inCallP _ (Hc.out _))))
          exact wpQuiet_nil rfl
        simp only [List.drop_succ_cons, List.drop_zero]
        refine tail_bath (T := 28) (u := .int .i64 0) rfl (fun w' => ?rA) (fun q => rfl) (fun q w' hw' => ?rS) (fun q => rfl) (fun q w' => ?rZ) (fun j1 => ?_)
        case rA => first | rfl | kernel_rfl | (go_simp; done) | simp [go_sem]
        case rS =>
          obtain ⟨g0, g1, g2, h0, h1, h2⟩ := hw'
          first | (go_simp; done) | (simp [go_sem, g0, g1, g2, h0, h1, h2]; done)
        case rZ => first | rfl | (go_simp; done) | simp [go_sem]
        rintro _ ⟨y, rfl⟩
        have Y := y.ok
        generalize y.w = y1 at *
        obtain ⟨hby1, x40⟩ := Y
        simp [Act.put]
        clear d0 d1 d2 d3 f0 f1 f2
        have D_s := Lib.hid (D_r.out.below hby1 (Nat.le_refl _))
        have NWs := Lib.hid (NW.out.below hby1 (Nat.le_refl _))
        have k_s := Lib.hid (k_r.out.trans (hby1.mono k_r.out.size))
        have Bl_s := Lib.hid (HBl.out.trans (hby1.mono HBl.out.size))
        have cm1 := below_cellOf hby1 cm (Nat.le_refl _)
        have ca2 := below_cellOf hby1 ca1 (Nat.le_refl _)
        have X40 := Lib.hid x40
        clear D_r NW k_r HBl cm ca1 x40 hby1
        obtain ⟨d0, d1, d2, d3⟩ := D_s.out
        obtain ⟨f0, f1, f2, _, _, _⟩ := X40.out
        go_wp2_with fail
        clear d0 d1 d2 d3 f0 f1 f2
        refine (HC2.out _).mono ?_; rintro e y2 ⟨rfl, hby2⟩
        have D_t := Lib.hid (D_s.out.below hby2 (Nat.le_refl _))
        have NWt := Lib.hid (NWs.out.below hby2 (Nat.le_refl _))
        have k_t := Lib.hid (k_s.out.trans (hby2.mono k_s.out.size))
        have Bl_t := Lib.hid (Bl_s.out.trans (hby2.mono Bl_s.out.size))
        have cm2 := below_cellOf hby2 cm1 (Nat.le_refl _)
        have ca3 := below_cellOf hby2 ca2 (Nat.le_refl _)
        have X40t := Lib.hid (X40.out.below hby2 (Nat.le_refl _))
        clear D_s NWs k_s Bl_s cm1 ca2 X40 hby2
        go_wp2_with fail
        refine (HC3.out _ (HT.out.below k_t.out (Nat.le_refl _)) (HE.out.below k_t.out (Nat.le_refl _))).mono ?_; rintro e y3 ⟨rfl, hby3⟩
        have D_u := Lib.hid (D_t.out.below hby3 (Nat.le_refl _))
        have NWu := Lib.hid (NWt.out.below hby3 (Nat.le_refl _))
        have k_u := Lib.hid (k_t.out.trans (hby3.mono k_t.out.size))
        have Bl_u := Lib.hid (Bl_t.out.trans (hby3.mono Bl_t.out.size))
        have cm3 := below_cellOf hby3 cm2 (Nat.le_refl _)
        have ca4 := below_cellOf hby3 ca3 (Nat.le_refl _)
        have X40u := Lib.hid (X40t.out.below hby3 (Nat.le_refl _))
        clear D_t NWt k_t Bl_t cm2 ca3 X40t hby3
        go_wp2_with fail
        obtain ⟨d0, d1, d2, d3⟩ := D_u.out
        obtain ⟨f0, f1, f2, _, _, _⟩ := X40u.out
        refine wp_region_phases 10 (clB y3 (v) (U (i + 1)) (V (i + 1))) .p0 (by kernel_rfl) (by kernel_rfl) ⟨⟨_, below_drew1 _⟩, rfl⟩ ?_
        apply Exists.intro
        refine ⟨fun ph => ?_, ?_⟩
        · simp only [List.take_succ_cons, List.take_zero]
          have n0 := phB_nonempty y3 (v) (U (i + 1)) (V (i + 1)) ph
          have g0 := fun (x : WIn (phB y3 (v) (U (i + 1)) (V (i + 1)) ph)) => inCellP d0 x
          have g1 := fun (x : WIn (phB y3 (v) (U (i + 1)) (V (i + 1)) ph)) => inCellP d1 x
          have g2 := fun (x : WIn (phB y3 (v) (U (i + 1)) (V (i + 1)) ph)) => inCellP d2 x
          have g3 := fun (x : WIn (phB y3 (v) (U (i + 1)) (V (i + 1)) ph)) => inCellP d3 x
          have g4 := fun (x : WIn (phB y3 (v) (U (i + 1)) (V (i + 1)) ph)) => inCellP f0 x
          have g5 := fun (x : WIn (phB y3 (v) (U (i + 1)) (V (i + 1)) ph)) => inCellP f1 x
          have g6 := fun (x : WIn (phB y3 (v) (U (i + 1)) (V (i + 1)) ph)) => inCellP f2 x
          have g7 := fun (x : WIn (phB y3 (v) (U (i + 1)) (V (i + 1)) ph)) => inCellP ca4 x
          have Hc := Lib.hid (fun (x : WIn (phB y3 (v) (U (i + 1)) (V (i + 1)) ph)) => HC4.out x.w (HT.out.below (k_u.out.trans (x.ok.bel.mono k_u.out.size)) (Nat.le_refl _)) (HE.out.below (k_u.out.trans (x.ok.bel.mono k_u.out.size)) (Nat.le_refl _)))
          repeat (go_big_quiet_step (first | (go_at_call 22; exact inCallP _ (Hc.out _))))
          exact wpQuiet_nil rfl
        simp only [List.drop_succ_cons, List.drop_zero]
        refine tail_bath (T := 28) (u := .int .i64 0) rfl (fun w' => ?rA) (fun q => rfl) (fun q w' hw' => ?rS) (fun q => rfl) (fun q w' => ?rZ) (fun j2 => ?_)
        case rA => first | rfl | kernel_rfl | (go_simp; done) | simp [go_sem]
        case rS =>
          obtain ⟨g0, g1, g2, h0, h1, h2⟩ := hw'
          first | (go_simp; done) | (simp [go_sem, g0, g1, g2, h0, h1, h2]; done)
        case rZ => first | rfl | (go_simp; done) | simp [go_sem]
        rintro _ ⟨y, rfl⟩
        have Y := y.ok
        generalize y.w = y4 at *
        obtain ⟨hby4, x46⟩ := Y
        simp [Act.put]
        clear d0 d1 d2 d3 f0 f1 f2
        have NWv := Lib.hid (NWu.out.below hby4 (Nat.le_refl _))
        have Bl_v := Lib.hid (Bl_u.out.trans (hby4.mono Bl_u.out.size))
        have cm4 := below_cellOf hby4 cm3 (Nat.le_refl _)
        have X46 := Lib.hid x46
        clear NWu k_u D_u Bl_u cm3 ca4 X40u hby4 x46 HC1 HC2 HC3 HC4
        obtain ⟨⟨t1, t2⟩, ⟨t3, t4⟩, t5⟩ := HTi.out
        have z1 : ¬ r1 < K i := by omega
        have HJ5 := Lib.hid t5
        rw [t5] at t3 t4
        clear t5
        generalize lrT J i = TI at *
        generalize hJi : J i = ji at *
        obtain ⟨f0, f1, f2, _, _, _⟩ := X46.out
        obtain ⟨e0, e1, e2, z0, z2, z3⟩ := NWv.out
        rcases Nat.lt_trichotomy i kn with hk | hk | hk
        · have u1 : (i : Int) < kn := by omega
          have u2 : ¬ (i : Int) = kn := by omega
          have u3 := hJ0 hk
          subst u3
          go_wp2_with fail
          obtain ⟨W9, hW9, n9, b9⟩ := NWv.out.stored Bl_v.out (Nat.le_refl _) v (U (i + 1)) (V (i + 1))
          go_roundw
          case rel => exact ⟨i + 1, by omega, by go_num, by rw [HJ5.out] <;> go_num, by rw [← hW9]; exact n9, by rw [← hW9]; exact b9⟩
          case measure => simp [intOf]; omega
        · have u1 : ¬ (i : Int) < kn := by omega
          have u3 := hJ1 hk
          have u4 : ¬ (ji : Int) = 0 := by omega
          have u5 : ((ji : Int) == 0) = false := by rw [beq_eq_false_iff_ne]; exact u4
          clear u3
          subst hk
          have u2 : ((i : Int) == i) = true := by simp
          go_wp2_with fail
          obtain ⟨W9, hW9, n9, b9⟩ := NWv.out.stored Bl_v.out (Nat.le_refl _) v (U (i + 1)) (V (i + 1))
          go_roundw
          case rel => exact ⟨i + 1, by omega, by go_num, by rw [HJ5.out] <;> go_num, by rw [← hW9]; exact n9, by rw [← hW9]; exact b9⟩
          case measure => simp [intOf]; omega
        · have u1 : ¬ (i : Int) < kn := by omega
          have u2 : ¬ (i : Int) = kn := by omega
          go_wp2_with fail
          obtain ⟨W9, hW9, n9, b9⟩ := NWv.out.stored Bl_v.out (Nat.le_refl _) v (U (i + 1)) (V (i + 1))
          go_roundw
          case rel => exact ⟨i + 1, by omega, by go_num, by rw [HJ5.out] <;> go_num, by rw [← hW9]; exact n9, by rw [← hW9]; exact b9⟩
          case measure => simp [intOf]; omega
      obtain rfl : i = na := by omega
      rw [← HTJ.out]
      go_wp2_with fail
      go_ret
      exact ⟨rfl, k_21.out.trans (hB.mono k_21.out.size)⟩
  · have hm1 : ¬ (0 : Int) < m := by omega
    clear HC5
    go_wp2_with fail
    refine (Hat1.out _ k_8.out).mono ?_; rintro e w69 ⟨rfl, rfl⟩
    clear hm1 q1
    go_wp2_with fail
    refine (Hat2.out _ k_8.out).mono ?_; rintro e w70 ⟨rfl, rfl⟩
    clear Hat1 Hat2
    obtain ⟨d0, d1, d2, d3⟩ := D_8.out
    obtain ⟨b0, b1, b2, _, _, _⟩ := B_8.out
    go_wp2_with fail
    clear d0 d1 d2 d3 b0 b1 b2
    refine (HC6.out _ (HT.out.below k_8.out (Nat.le_refl _)) (HE.out.below k_8.out (Nat.le_refl _))).mono ?_; rintro e w71 ⟨rfl, hb71⟩
    have D_71 := Lib.hid (D_8.out.below hb71 (Nat.le_refl _))
    have B_71 := Lib.hid (B_8.out.below hb71 (Nat.le_refl _))
    have k_71 := Lib.hid (k_8.out.trans (hb71.mono k_8.out.size))
    clear D_8 B_8 k_8
    clear hb71
    obtain ⟨d0, d1, d2, d3⟩ := D_71.out
    obtain ⟨b0, b1, b2, _, _, _⟩ := B_71.out
    go_wp2_with fail
    clear d0 d1 d2 d3 b0 b1 b2
    refine (HC7.out _).mono ?_; rintro e w72 ⟨rfl, hb72⟩
    have D_72 := Lib.hid (D_71.out.below hb72 (Nat.le_refl _))
    have B_72 := Lib.hid (B_71.out.below hb72 (Nat.le_refl _))
    have k_72 := Lib.hid (k_71.out.trans (hb72.mono k_71.out.size))
    clear D_71 B_71 k_71
    clear hb72
    clear HC6 HC7
    have x0 : (v * p).tdiv 1000 = v * p / 1000 := Int.tdiv_eq_ediv_of_nonneg (by omega)
    have x1 : ¬ v * p / 1000 - u < (N : Int) * (50 + r2) := by omega
    have x4 : 0 ≤ (N : Int) * (50 + r2) := Int.mul_nonneg (by omega) (by omega)
    have x2 : IntKind.i64.wrap ((N : Int) * (50 + r2)) = (N : Int) * (50 + r2) := IntWalk.i64_in _ (by omega)
    have x3 : IntKind.i64.wrap (v * p) = v * p := IntWalk.i64_in _ (by omega)
    generalize hNN : (N : Int) * (50 + r2) = NN at *
    generalize hVP : v * p = VP at *
    obtain ⟨d0, d1, d2, d3⟩ := D_72.out
    obtain ⟨b0, b1, b2, _, _, _⟩ := B_72.out
    go_wp2_with fail
    clear d0 d1 d2 d3 b0 b1 b2
    refine (Har.out _ k_72.out).mono ?_; rintro e w73 ⟨ga, na, ca, xs, rfl, hna, hxs, hrn, hb73⟩
    have D_73 := Lib.hid (D_72.out.below hb73 (Nat.le_refl _))
    have B_73 := Lib.hid (B_72.out.below hb73 (Nat.le_refl _))
    have k_73 := Lib.hid (k_72.out.trans (hb73.mono k_72.out.size))
    clear D_72 B_72 k_72
    clear hb73
    have R1 := Lib.hid hrn; clear hrn x0 x1 x2 x3 x4 Har
    obtain ⟨kn, C, T, l, hkn, hC, hl60, c1, c2, c3, c4⟩ := rep_three z HH.out ga na ca xs (by omega) (fun j hj => by have := hxs j hj; omega) r1 (by omega) (by omega)
    have HC1 := Lib.hid c1; have HC2 := Lib.hid c2; have HC3 := Lib.hid c3; have HC4 := Lib.hid c4
    have HCC := Lib.hid hC
    clear c1 c2 c3 c4 hC HH hxs
    obtain ⟨d0, d1, d2, d3⟩ := D_73.out
    obtain ⟨b0, b1, b2, _, _, _⟩ := B_73.out
    go_wp2_with fail
    clear d0 d1 d2 d3 b0 b1 b2
    refine (HC1.out _ R1.out (HT.out.below k_73.out (Nat.le_refl _)) (HE.out.below k_73.out (Nat.le_refl _))).mono ?_; rintro e w74 ⟨v74, rfl, mi74, hb74⟩
    obtain ⟨A1, cap1, rfl, ce1⟩ := CelN.of mi74
    clear mi74
    have D_74 := Lib.hid (D_73.out.below hb74 (Nat.le_refl _))
    have B_74 := Lib.hid (B_73.out.below hb74 (Nat.le_refl _))
    have R1_74 := Lib.hid (R1.out.below hb74 R1.out.lt)
    have k_74 := Lib.hid (k_73.out.trans (hb74.mono k_73.out.size))
    clear D_73 B_73 R1 k_73
    clear hb74
    have M1 := Lib.hid ce1; clear ce1
    obtain ⟨d0, d1, d2, d3⟩ := D_74.out
    obtain ⟨b0, b1, b2, _, _, _⟩ := B_74.out
    go_wp2_with fail
    clear d0 d1 d2 d3 b0 b1 b2
    refine (HC2.out _ R1_74.out).mono ?_; rintro e w75 ⟨v75, rfl, mi75, hb75⟩
    obtain ⟨A2, cap2, rfl, ce2⟩ := CelN.of mi75
    clear mi75
    have D_75 := Lib.hid (D_74.out.below hb75 (Nat.le_refl _))
    have B_75 := Lib.hid (B_74.out.below hb75 (Nat.le_refl _))
    have M1_75 := Lib.hid (M1.out.below hb75 (Nat.le_refl _))
    have R1_75 := Lib.hid (R1_74.out.below hb75 R1_74.out.lt)
    have k_75 := Lib.hid (k_74.out.trans (hb75.mono k_74.out.size))
    clear D_74 B_74 M1 R1_74 k_74
    clear hb75
    have M2 := Lib.hid ce2; clear ce2
    obtain ⟨d0, d1, d2, d3⟩ := D_75.out
    obtain ⟨b0, b1, b2, _, _, _⟩ := B_75.out
    go_wp2_with fail
    clear d0 d1 d2 d3 b0 b1 b2
    refine (HC3.out _ R1_75.out (HT.out.below k_75.out (Nat.le_refl _)) (HE.out.below k_75.out (Nat.le_refl _))).mono ?_; rintro e w76 ⟨rfl, hb76⟩
    have D_76 := Lib.hid (D_75.out.below hb76 (Nat.le_refl _))
    have B_76 := Lib.hid (B_75.out.below hb76 (Nat.le_refl _))
    have M1_76 := Lib.hid (M1_75.out.below hb76 (Nat.le_refl _))
    have M2_76 := Lib.hid (M2.out.below hb76 (Nat.le_refl _))
    have R1_76 := Lib.hid (R1_75.out.below hb76 R1_75.out.lt)
    have k_76 := Lib.hid (k_75.out.trans (hb76.mono k_75.out.size))
    clear D_75 B_75 M1_75 M2 R1_75 k_75
    clear hb76
    obtain ⟨d0, d1, d2, d3⟩ := D_76.out
    obtain ⟨b0, b1, b2, _, _, _⟩ := B_76.out
    go_wp2_with fail
    clear d0 d1 d2 d3 b0 b1 b2
    refine (HC4.out _ R1_76.out).mono ?_; rintro e w77 ⟨rfl, hb77⟩
    have D_77 := Lib.hid (D_76.out.below hb77 (Nat.le_refl _))
    have B_77 := Lib.hid (B_76.out.below hb77 (Nat.le_refl _))
    have M1_77 := Lib.hid (M1_76.out.below hb77 (Nat.le_refl _))
    have M2_77 := Lib.hid (M2_76.out.below hb77 (Nat.le_refl _))
    have R1_77 := Lib.hid (R1_76.out.below hb77 R1_76.out.lt)
    have k_77 := Lib.hid (k_76.out.trans (hb77.mono k_76.out.size))
    clear D_76 B_76 M1_76 M2_76 R1_76 k_76
    clear hb77
    clear HC1 HC2 HC3 HC4
    have x1 : ¬ (kn : Int) < 0 := by omega
    have x2 : ¬ (na : Int) < kn := by omega
    have hll : l.length ≤ 1048576 := by omega
    go_wp2_with fail
    refine (A2Same_any A1 A2 l.length cap1 cap2 (fun j => l.getD j 0) hll _ M1_77.out M2_77.out).mono ?_; rintro e w78 ⟨rfl, hb78⟩
    have D_78 := Lib.hid (D_77.out.below hb78 (Nat.le_refl _))
    have B_78 := Lib.hid (B_77.out.below hb78 (Nat.le_refl _))
    have M1_78 := Lib.hid (M1_77.out.below hb78 (Nat.le_refl _))
    have M2_78 := Lib.hid (M2_77.out.below hb78 (Nat.le_refl _))
    have R1_78 := Lib.hid (R1_77.out.below hb78 R1_77.out.lt)
    have k_78 := Lib.hid (k_77.out.trans (hb78.mono k_77.out.size))
    clear D_77 B_77 M1_77 M2_77 R1_77 k_77
    clear hb78
    clear M1_78
    rcases HCC.out with rfl | ⟨rfl, hln, hkT, J, U, V, F, G, Sg, K, hTJ, hTb, hU, hV, hst⟩
    · go_wp2_with fail
      go_ret
      exact ⟨rfl, k_78.out⟩
    clear HCC x1 x2
    have HST := Lib.hid hst; clear hst
    have HTJ := Lib.hid hTJ; clear hTJ
    have HTB := Lib.hid hTb; clear hTb
    have HLN := Lib.hid hln
    have y1 : (l.length : Int) = na := by omega
    clear hln
    have y2 : ((kn : Int) == na) = (T == 0) := by rw [Bool.eq_iff_iff]; simp only [beq_iff_eq]; omega
    have y3 : ((kn : Int) = na) = (T = 0) := by apply propext; omega
    clear hkT
    obtain ⟨b0, b1, b2, _, _, _⟩ := B_78.out
    have t900 := (Below.refl w78.heap.size w78).alloc (Nat.le_refl _) (.cells #[.int .i64 v, .int .i64 u, .int .i64 a] 28)
    have n900 := BtAt.newAt w78 w78.heap.size rfl 28 v u a
    go_wp2_with fail
    clear b0 b1 b2
    generalize w78.alloc (.cells #[.int .i64 v, .int .i64 u, .int .i64 a] 28) = V900 at *
    rw [← hU, ← hV] at n900
    clear y1 y2 y3
    generalize decide (S < 4 * r0) = e1x
    generalize decide (VP / 1000 - u < NN) = e2x
    generalize decide ((kn : Int) < 0) = e3x
    generalize decide (na < kn) = e4x
    generalize (T == 0) = e5x
    go_loopw [38, 39] (fun ov iv wr => ∃ i : Nat, i ≤ na ∧ iv = .int .i64 (i : Int) ∧ ov = .int .i64 (lrT J i) ∧ BtAt wr w78.heap.size v (U i) (V i) ∧ Below w78.heap.size w78 wr) (fun _ iv _ => na - (intOf iv).toNat)
    case atStart => exact ⟨0, Nat.zero_le _, rfl, rfl, n900, t900⟩
    case round =>
      clear n900 t900
      obtain ⟨i, hi, rfl, rfl, hnow, hB⟩ := hrel
      by_cases hin : i < na
      · have hin2 : (i : Int) < na := by omega
        obtain ⟨hlJ, hJ0, hJ1, hKs, c1, c2, c3, c4⟩ := HST.out i hin
        have HC1 := Lib.hid c1; have HC2 := Lib.hid c2; have HC3 := Lib.hid c3; have HC4 := Lib.hid c4
        clear c1 c2 c3 c4
        rcases M2_78.out with h0 | ⟨gm, rfl, hgm, hcm⟩
        · exfalso; have := HLN.out; omega
        have cm := below_cellOf hB (hcm i (by have := HLN.out; omega)) (Nat.le_refl _)
        have ca1 := (R1_78.out.below hB R1_78.out.lt).cell hin
        simp only at cm
        rw [hlJ] at cm
        clear hcm
        have D_r := Lib.hid (D_78.out.below hB (Nat.le_refl _))
        have NW := Lib.hid hnow
        have k_r := Lib.hid (k_78.out.trans (hB.mono k_78.out.size))
        have HBl := Lib.hid hB
        clear hnow hB
        have hil : (i : Int) < l.length := by have := HLN.out; omega
        have HTi := Lib.hid (And.intro (HTB.out i (by omega)) (And.intro (HTB.out (i + 1) (by omega)) (show lrT J (i + 1) = lrT J i + (J i : Int) from rfl)))
        go_wp2_with fail
        obtain ⟨d0, d1, d2, d3⟩ := D_r.out
        obtain ⟨f0, f1, f2, _, _, _⟩ := NW.out
        refine wp_region_phases 10 (clB wr (v) (F i) (G i)) .p0 (by kernel_rfl) (by kernel_rfl) ⟨⟨_, below_drew1 _⟩, rfl⟩ ?_
        apply Exists.intro
        refine ⟨fun ph => ?_, ?_⟩
        · simp only [List.take_succ_cons, List.take_zero]
          have n0 := phB_nonempty wr (v) (F i) (G i) ph
          have g0 := fun (x : WIn (phB wr (v) (F i) (G i) ph)) => inCellP d0 x
          have g1 := fun (x : WIn (phB wr (v) (F i) (G i) ph)) => inCellP d1 x
          have g2 := fun (x : WIn (phB wr (v) (F i) (G i) ph)) => inCellP d2 x
          have g3 := fun (x : WIn (phB wr (v) (F i) (G i) ph)) => inCellP d3 x
          have g4 := fun (x : WIn (phB wr (v) (F i) (G i) ph)) => inCellP f0 x
          have g5 := fun (x : WIn (phB wr (v) (F i) (G i) ph)) => inCellP f1 x
          have g6 := fun (x : WIn (phB wr (v) (F i) (G i) ph)) => inCellP f2 x
          have g7 := fun (x : WIn (phB wr (v) (F i) (G i) ph)) => inCellP cm x
          have Hc := Lib.hid (fun (x : WIn (phB wr (v) (F i) (G i) ph)) => HC1.out x.w)
          repeat (go_big_quiet_step (first | (go_at_call 19; exact inCallP _ (Hc.out _))))
          exact wpQuiet_nil rfl
        simp only [List.drop_succ_cons, List.drop_zero]
        refine tail_bath (T := 28) (u := .int .i64 0) rfl (fun w' => ?rA) (fun q => rfl) (fun q w' hw' => ?rS) (fun q => rfl) (fun q w' => ?rZ) (fun j1 => ?_)
        case rA => first | rfl | kernel_rfl | (go_simp; done) | simp [go_sem]
        case rS =>
          obtain ⟨g0, g1, g2, h0, h1, h2⟩ := hw'
          first | (go_simp; done) | (simp [go_sem, g0, g1, g2, h0, h1, h2]; done)
        case rZ => first | rfl | (go_simp; done) | simp [go_sem]
        rintro _ ⟨y, rfl⟩
        have Y := y.ok
        generalize y.w = y1 at *
        obtain ⟨hby1, x40⟩ := Y
        simp [Act.put]
        clear d0 d1 d2 d3 f0 f1 f2
        have D_s := Lib.hid (D_r.out.below hby1 (Nat.le_refl _))
        have NWs := Lib.hid (NW.out.below hby1 (Nat.le_refl _))
        have k_s := Lib.hid (k_r.out.trans (hby1.mono k_r.out.size))
        have Bl_s := Lib.hid (HBl.out.trans (hby1.mono HBl.out.size))
        have cm1 := below_cellOf hby1 cm (Nat.le_refl _)
        have ca2 := below_cellOf hby1 ca1 (Nat.le_refl _)
        have X40 := Lib.hid x40
        clear D_r NW k_r HBl cm ca1 x40 hby1
        obtain ⟨d0, d1, d2, d3⟩ := D_s.out
        obtain ⟨f0, f1, f2, _, _, _⟩ := X40.out
        go_wp2_with fail
        clear d0 d1 d2 d3 f0 f1 f2
        refine (HC2.out _).mono ?_; rintro e y2 ⟨rfl, hby2⟩
        have D_t := Lib.hid (D_s.out.below hby2 (Nat.le_refl _))
        have NWt := Lib.hid (NWs.out.below hby2 (Nat.le_refl _))
        have k_t := Lib.hid (k_s.out.trans (hby2.mono k_s.out.size))
        have Bl_t := Lib.hid (Bl_s.out.trans (hby2.mono Bl_s.out.size))
        have cm2 := below_cellOf hby2 cm1 (Nat.le_refl _)
        have ca3 := below_cellOf hby2 ca2 (Nat.le_refl _)
        have X40t := Lib.hid (X40.out.below hby2 (Nat.le_refl _))
        clear D_s NWs k_s Bl_s cm1 ca2 X40 hby2
        go_wp2_with fail
        refine (HC3.out _ (HT.out.below k_t.out (Nat.le_refl _)) (HE.out.below k_t.out (Nat.le_refl _))).mono ?_; rintro e y3 ⟨rfl, hby3⟩
        have D_u := Lib.hid (D_t.out.below hby3 (Nat.le_refl _))
        have NWu := Lib.hid (NWt.out.below hby3 (Nat.le_refl _))
        have k_u := Lib.hid (k_t.out.trans (hby3.mono k_t.out.size))
        have Bl_u := Lib.hid (Bl_t.out.trans (hby3.mono Bl_t.out.size))
        have cm3 := below_cellOf hby3 cm2 (Nat.le_refl _)
        have ca4 := below_cellOf hby3 ca3 (Nat.le_refl _)
        have X40u := Lib.hid (X40t.out.below hby3 (Nat.le_refl _))
        clear D_t NWt k_t Bl_t cm2 ca3 X40t hby3
        go_wp2_with fail
        obtain ⟨d0, d1, d2, d3⟩ := D_u.out
        obtain ⟨f0, f1, f2, _, _, _⟩ := X40u.out
        refine wp_region_phases 10 (clB y3 (v) (U (i + 1)) (V (i + 1))) .p0 (by kernel_rfl) (by kernel_rfl) ⟨⟨_, below_drew1 _⟩, rfl⟩ ?_
        apply Exists.intro
        refine ⟨fun ph => ?_, ?_⟩
        · simp only [List.take_succ_cons, List.take_zero]
          have n0 := phB_nonempty y3 (v) (U (i + 1)) (V (i + 1)) ph
          have g0 := fun (x : WIn (phB y3 (v) (U (i + 1)) (V (i + 1)) ph)) => inCellP d0 x
          have g1 := fun (x : WIn (phB y3 (v) (U (i + 1)) (V (i + 1)) ph)) => inCellP d1 x
          have g2 := fun (x : WIn (phB y3 (v) (U (i + 1)) (V (i + 1)) ph)) => inCellP d2 x
          have g3 := fun (x : WIn (phB y3 (v) (U (i + 1)) (V (i + 1)) ph)) => inCellP d3 x
          have g4 := fun (x : WIn (phB y3 (v) (U (i + 1)) (V (i + 1)) ph)) => inCellP f0 x
          have g5 := fun (x : WIn (phB y3 (v) (U (i + 1)) (V (i + 1)) ph)) => inCellP f1 x
          have g6 := fun (x : WIn (phB y3 (v) (U (i + 1)) (V (i + 1)) ph)) => inCellP f2 x
          have g7 := fun (x : WIn (phB y3 (v) (U (i + 1)) (V (i + 1)) ph)) => inCellP ca4 x
          have Hc := Lib.hid (fun (x : WIn (phB y3 (v) (U (i + 1)) (V (i + 1)) ph)) => HC4.out x.w (HT.out.below (k_u.out.trans (x.ok.bel.mono k_u.out.size)) (Nat.le_refl _)) (HE.out.below (k_u.out.trans (x.ok.bel.mono k_u.out.size)) (Nat.le_refl _)))
          repeat (go_big_quiet_step (first | (go_at_call 22; exact inCallP _ (Hc.out _))))
          exact wpQuiet_nil rfl
        simp only [List.drop_succ_cons, List.drop_zero]
        refine tail_bath (T := 28) (u := .int .i64 0) rfl (fun w' => ?rA) (fun q => rfl) (fun q w' hw' => ?rS) (fun q => rfl) (fun q w' => ?rZ) (fun j2 => ?_)
        case rA => first | rfl | kernel_rfl | (go_simp; done) | simp [go_sem]
        case rS =>
          obtain ⟨g0, g1, g2, h0, h1, h2⟩ := hw'
          first | (go_simp; done) | (simp [go_sem, g0, g1, g2, h0, h1, h2]; done)
        case rZ => first | rfl | (go_simp; done) | simp [go_sem]
        rintro _ ⟨y, rfl⟩
        have Y := y.ok
        generalize y.w = y4 at *
        obtain ⟨hby4, x46⟩ := Y
        simp [Act.put]
        clear d0 d1 d2 d3 f0 f1 f2
        have NWv := Lib.hid (NWu.out.below hby4 (Nat.le_refl _))
        have Bl_v := Lib.hid (Bl_u.out.trans (hby4.mono Bl_u.out.size))
        have cm4 := below_cellOf hby4 cm3 (Nat.le_refl _)
        have X46 := Lib.hid x46
        clear NWu k_u D_u Bl_u cm3 ca4 X40u hby4 x46 HC1 HC2 HC3 HC4
        obtain ⟨⟨t1, t2⟩, ⟨t3, t4⟩, t5⟩ := HTi.out
        have z1 : ¬ r1 < K i := by omega
        have HJ5 := Lib.hid t5
        rw [t5] at t3 t4
        clear t5
        generalize lrT J i = TI at *
        generalize hJi : J i = ji at *
        obtain ⟨f0, f1, f2, _, _, _⟩ := X46.out
        obtain ⟨e0, e1, e2, z0, z2, z3⟩ := NWv.out
        rcases Nat.lt_trichotomy i kn with hk | hk | hk
        · have u1 : (i : Int) < kn := by omega
          have u2 : ¬ (i : Int) = kn := by omega
          have u3 := hJ0 hk
          subst u3
          go_wp2_with fail
          obtain ⟨W9, hW9, n9, b9⟩ := NWv.out.stored Bl_v.out (Nat.le_refl _) v (U (i + 1)) (V (i + 1))
          go_roundw
          case rel => exact ⟨i + 1, by omega, by go_num, by rw [HJ5.out] <;> go_num, by rw [← hW9]; exact n9, by rw [← hW9]; exact b9⟩
          case measure => simp [intOf]; omega
        · have u1 : ¬ (i : Int) < kn := by omega
          have u3 := hJ1 hk
          have u4 : ¬ (ji : Int) = 0 := by omega
          have u5 : ((ji : Int) == 0) = false := by rw [beq_eq_false_iff_ne]; exact u4
          clear u3
          subst hk
          have u2 : ((i : Int) == i) = true := by simp
          go_wp2_with fail
          obtain ⟨W9, hW9, n9, b9⟩ := NWv.out.stored Bl_v.out (Nat.le_refl _) v (U (i + 1)) (V (i + 1))
          go_roundw
          case rel => exact ⟨i + 1, by omega, by go_num, by rw [HJ5.out] <;> go_num, by rw [← hW9]; exact n9, by rw [← hW9]; exact b9⟩
          case measure => simp [intOf]; omega
        · have u1 : ¬ (i : Int) < kn := by omega
          have u2 : ¬ (i : Int) = kn := by omega
          go_wp2_with fail
          obtain ⟨W9, hW9, n9, b9⟩ := NWv.out.stored Bl_v.out (Nat.le_refl _) v (U (i + 1)) (V (i + 1))
          go_roundw
          case rel => exact ⟨i + 1, by omega, by go_num, by rw [HJ5.out] <;> go_num, by rw [← hW9]; exact n9, by rw [← hW9]; exact b9⟩
          case measure => simp [intOf]; omega
      obtain rfl : i = na := by omega
      rw [← HTJ.out]
      go_wp2_with fail
      go_ret
      exact ⟨rfl, k_78.out.trans (hB.mono k_78.out.size)⟩
end Go.Proofs.YtkgjkjecfpmlnaaDoor
