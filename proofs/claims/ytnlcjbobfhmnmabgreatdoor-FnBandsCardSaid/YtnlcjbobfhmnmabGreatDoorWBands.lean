/-
  The walk of the law FnBands: it returns true for all bytes. Condition: the listed variables hold what the row lists.
-/
import Derived.Test.YtnlcjbobfhmnmabGreatDoorBdH
import Derived.Test.YtnlcjbobfhmnmabGreatDoorBdY
import Derived.Test.YtnlcjbobfhmnmabGreatDoorQX
import Derived.Test.YtnlcjbobfhmnmabGreatDoorEnv
namespace Go.Proofs.YtnlcjbobfhmnmabGreatDoor
open Go.RowKit

set_option maxRecDepth 100000 in
set_option maxHeartbeats 60000000 in
theorem walk_FnBands (A : Option Addr) (nc cc : Nat) (bs : Nat → Int) (A' : Option Addr) (nm cm : Nat) (bs' : Nat → Int) (w : World) (hL : laidMetH Tryz.prog Rows.fnBandsRow.laid w)
    (hr : BytesIn w A nc bs) (hm : nc ≤ maxLen) (hbs : ∀ j, j < nc → 0 ≤ bs j ∧ bs j ≤ 255) (hr' : BytesIn w A' nm bs') (hm' : nm ≤ maxLen) (hbs' : ∀ j, j < nm → 0 ≤ bs' j ∧ bs' j ≤ 255) :
    Calls Tryz.prog 3 #[.slice A nc cc, .slice A' nm cm] w fun e w' => e = .returned (.bool true) ∧ Below w.heap.size w w' := by
  obtain ⟨s, hE⟩ := errEnv_of_row hL (by kernel_rfl) (by kernel_rfl)
  have hT := timEnv_of_row hL (by kernel_rfl) (by kernel_rfl)
  obtain ⟨e1, e2, hB⟩ := libEnv_of_row hL (by kernel_rfl) (by kernel_rfl)
  clear hL
  unfold maxLen at hm hm'
  have b1 := f6big_any A nc cc w (by omega)
  have b2 := f6big_any A' nm cm w (by omega)
  by_cases h1 : 4096 < nc
  · rw [decide_eq_true h1] at b1
    have B1 := Lib.hid b1
    clear b1 b2 hE hT hB hr hbs hr' hbs'
    go_enter Tryz.func3, Tryz.ntmps3
    go_wp2_with fail
    refine B1.out.mono ?_; rintro e w1 ⟨rfl, rfl⟩
    go_wp2_with fail
    go_ret
    exact ⟨rfl, Below.refl _ _⟩
  rw [decide_eq_false h1] at b1
  by_cases h2 : 4096 < nm
  · rw [decide_eq_true h2] at b2
    have B1 := Lib.hid b1
    have B2 := Lib.hid b2
    clear b1 b2 hE hT hB hr hbs hr' hbs'
    go_enter Tryz.func3, Tryz.ntmps3
    go_wp2_with fail
    refine B1.out.mono ?_; rintro e w1 ⟨rfl, rfl⟩
    go_wp2_with fail
    refine B2.out.mono ?_; rintro e w1 ⟨rfl, rfl⟩
    go_wp2_with fail
    go_ret
    exact ⟨rfl, Below.refl _ _⟩
  rw [decide_eq_false h2] at b2
  have B1 := Lib.hid b1
  have B2 := Lib.hid b2
  have Hst := Lib.hid (P6Strip_any A nc cc bs (by omega) hbs w hr)
  have Hpa := Lib.hid (fun (W : World) (h : Below w.heap.size w W) => P6Paper_any A' nm cm bs' (by omega) hbs' W (hr'.below h (Nat.le_refl _)))
  have Hpm := Lib.hid (fun (m : Int) (hm0 : 0 ≤ m) (hm1 : m ≤ 1000) (W : World) (h : Below w.heap.size w W) => P6Pick_any A' nm cm bs' m hm0 (by omega) (by omega) hbs' W (hr'.below h (Nat.le_refl _)))
  have Hpc := Lib.hid (fun (m : Int) (hm0 : 0 ≤ m) (hm1 : m ≤ 1000) (W : World) (h : Below w.heap.size w W) => P6Pick_any A nc cc bs m hm0 (by omega) (by omega) hbs W (hr.below h (Nat.le_refl _)))
  have HE := Lib.hid hE
  have HT := Lib.hid hT
  have HB := Lib.hid hB
  clear b1 b2 hE hT hB hr hbs hr' hbs' h1 h2 hm hm'
  go_enter Tryz.func3, Tryz.ntmps3
  go_wp2_with fail
  refine B1.out.mono ?_; rintro e w1 ⟨rfl, rfl⟩
  go_wp2_with fail
  refine B2.out.mono ?_; rintro e w1 ⟨rfl, rfl⟩
  go_wp2_with fail
  clear B1 B2
  refine Hst.out.mono ?_; rintro e w1 ⟨a, b, c, rfl, hst, hb1⟩
  clear Hst
  have k_1 := Lib.hid hb1
  clear  hb1
  have k_a2 := Lib.hid (k_1.out.alloc k_1.out.size (.cells #[.int .i8 a, .int .i8 b, .int .i8 c] 26))
  have S5_a2 := Lib.hid (StAt.new w1 26 a b c)
  clear k_1
  have Hs := Lib.hid hst
  clear hst
  go_wp2_with fail
  refine (Hpa.out _ k_a2.out).mono ?_; rintro e w3 ⟨g, n, cap, xs, ys, rfl, hn6, hcrv, _, hrow, hg, hb3⟩
  clear Hpa
  have Hcrv := Lib.hid hcrv
  have PR := Lib.hid hrow
  clear hcrv hrow hg
  have S5_3 := Lib.hid (S5_a2.out.below hb3 S5_a2.out.lt)
  have k_3 := Lib.hid (k_a2.out.trans (hb3.mono k_a2.out.size))
  clear S5_a2 k_a2 hb3
  go_wp2_with fail
  refine (Hpm.out 200 (by omega) (by omega) _ k_3.out).mono ?_; rintro e w4 ⟨d, rfl, hd, hb4⟩
  have S5_4 := Lib.hid (S5_3.out.below hb4 S5_3.out.lt)
  have PR_4 := Lib.hid (PR.out.below hb4 PR.out.lt)
  have k_4 := Lib.hid (k_3.out.trans (hb4.mono k_3.out.size))
  clear S5_3 PR k_3 hb4
  have hd := hd.lt (by omega)
  go_wp2_with fail
  refine (Hpc.out 260 (by omega) (by omega) _ k_4.out).mono ?_; rintro e w5 ⟨t, rfl, ht, hb5⟩
  have S5_5 := Lib.hid (S5_4.out.below hb5 S5_4.out.lt)
  have PR_5 := Lib.hid (PR_4.out.below hb5 PR_4.out.lt)
  have k_5 := Lib.hid (k_4.out.trans (hb5.mono k_4.out.size))
  clear S5_4 PR_4 k_4 hb5
  have ht := ht.lt (by omega)
  obtain ⟨N, K, F, G, E, P, O, C7, V7, C8, V8, V9, X, ⟨hNc, hN1, hN2⟩, hF, hO, hl1, hl2, hl3, c1, c2, c3, c4, c5, c6, c7, c8, c9, c10, c11, c12, c13, c14, c15, c16, c17, c18⟩ := bands_all s e1 e2 a b c Hs.out g n cap xs ys d t hn6 Hcrv.out (by omega) (by omega)
  subst hNc
  have HC1 := Lib.hid c1
  have HC2 := Lib.hid c2
  have HC3 := Lib.hid c3
  have HC4 := Lib.hid c4
  have HC5 := Lib.hid c5
  have HC6 := Lib.hid c6
  have HC7 := Lib.hid c7
  have HC8 := Lib.hid c8
  have HC9 := Lib.hid c9
  have HC10 := Lib.hid c10
  have HC11 := Lib.hid c11
  have HC12 := Lib.hid c12
  have HC13 := Lib.hid c13
  have HC14 := Lib.hid c14
  have HC15 := Lib.hid c15
  have HC16 := Lib.hid c16
  have HC17 := Lib.hid c17
  have HC18 := Lib.hid c18
  have HF := Lib.hid hF
  have HL1 := Lib.hid hl1
  have HL2 := Lib.hid hl2
  have HL3 := Lib.hid hl3
  clear hF hl1 hl2 hl3 c1 c2 c3 c4 c5 c6 c7 c8 c9 c10 c11 c12 c13 c14 c15 c16 c17 c18
  have iN : IntKind.i64.wrap (N : Int) = N := IntWalk.i64_in _ (by omega)
  have hNl : N ≤ 1048576 := by omega
  obtain ⟨cS50, cS51, cS52⟩ := S5_5.out
  go_wp2_with fail
  clear cS50 cS51 cS52
  refine (HC1.out _).mono ?_; rintro e w6 ⟨rfl, hb6⟩
  have S5_6 := Lib.hid (S5_5.out.below hb6 S5_5.out.lt)
  have PR_6 := Lib.hid (PR_5.out.below hb6 PR_5.out.lt)
  have k_6 := Lib.hid (k_5.out.trans (hb6.mono k_5.out.size))
  clear S5_5 PR_5 k_5 hb6
  go_wp2_with fail
  refine (HC2.out _ (HE.out.below k_6.out (Nat.le_refl _)) (HB.out.below k_6.out (Nat.le_refl _))).mono ?_; rintro e w7 ⟨rfl, hb7⟩
  have S5_7 := Lib.hid (S5_6.out.below hb7 S5_6.out.lt)
  have PR_7 := Lib.hid (PR_6.out.below hb7 PR_6.out.lt)
  have k_7 := Lib.hid (k_6.out.trans (hb7.mono k_6.out.size))
  clear S5_6 PR_6 k_6 hb7
  have S5_a8 := Lib.hid (S5_7.out.alloc (.cells #[.int .i8 a, .int .i8 b, .int .i8 (N : Int)] 26))
  have PR_a8 := Lib.hid (PR_7.out.below ((Below.refl w7.heap.size w7).alloc (Nat.le_refl _) (.cells #[.int .i8 a, .int .i8 b, .int .i8 (N : Int)] 26)) PR_7.out.lt)
  have k_a8 := Lib.hid (k_7.out.alloc k_7.out.size (.cells #[.int .i8 a, .int .i8 b, .int .i8 (N : Int)] 26))
  have S9_a8 := Lib.hid (StAt.new w7 26 a b (N : Int))
  clear S5_7 PR_7 k_7
  clear HC1 HC2
  obtain ⟨cS50, cS51, cS52⟩ := S5_a8.out
  go_wp2_with fail
  clear cS50 cS51 cS52
  refine (HC3.out _ (HE.out.below k_a8.out (Nat.le_refl _))).mono ?_; rintro e w9 ⟨ga, qa, rfl, hga, hra, hb9⟩
  clear hga
  have S5_9 := Lib.hid (S5_a8.out.below hb9 S5_a8.out.lt)
  have PR_9 := Lib.hid (PR_a8.out.below hb9 PR_a8.out.lt)
  have S9_9 := Lib.hid (S9_a8.out.below hb9 S9_a8.out.lt)
  have k_9 := Lib.hid (k_a8.out.trans (hb9.mono k_a8.out.size))
  clear S5_a8 PR_a8 S9_a8 k_a8 hb9
  have Ra := Lib.hid hra
  clear hra
  obtain ⟨cS50, cS51, cS52⟩ := S5_9.out
  go_wp2_with fail
  clear cS50 cS51 cS52
  refine (HC4.out _ (HT.out.below k_9.out (Nat.le_refl _)) (HE.out.below k_9.out (Nat.le_refl _))).mono ?_; rintro e w10 ⟨gb, qb, rfl, hgb, hrb, hb10⟩
  clear hgb
  have S5_10 := Lib.hid (S5_9.out.below hb10 S5_9.out.lt)
  have PR_10 := Lib.hid (PR_9.out.below hb10 PR_9.out.lt)
  have S9_10 := Lib.hid (S9_9.out.below hb10 S9_9.out.lt)
  have Ra_10 := Lib.hid (Ra.out.below hb10 Ra.out.lt)
  have k_10 := Lib.hid (k_9.out.trans (hb10.mono k_9.out.size))
  clear S5_9 PR_9 S9_9 Ra k_9 hb10
  have Rb := Lib.hid hrb
  clear hrb
  obtain ⟨cS50, cS51, cS52⟩ := S5_10.out
  go_wp2_with fail
  clear cS50 cS51 cS52
  refine (HC5.out _).mono ?_; rintro e w11 ⟨gc, qc, rfl, hgc, hrc, hb11⟩
  clear hgc
  have S5_11 := Lib.hid (S5_10.out.below hb11 S5_10.out.lt)
  have PR_11 := Lib.hid (PR_10.out.below hb11 PR_10.out.lt)
  have S9_11 := Lib.hid (S9_10.out.below hb11 S9_10.out.lt)
  have Ra_11 := Lib.hid (Ra_10.out.below hb11 Ra_10.out.lt)
  have Rb_11 := Lib.hid (Rb.out.below hb11 Rb.out.lt)
  have k_11 := Lib.hid (k_10.out.trans (hb11.mono k_10.out.size))
  clear S5_10 PR_10 S9_10 Ra_10 Rb k_10 hb11
  have Rc := Lib.hid hrc
  clear hrc
  obtain ⟨cS50, cS51, cS52⟩ := S5_11.out
  go_wp2_with fail
  clear cS50 cS51 cS52
  refine (HC6.out _ PR_11.out (HE.out.below k_11.out (Nat.le_refl _))).mono ?_; rintro e w12 ⟨gd, qd, rfl, hgd, hrd, hb12⟩
  clear hgd
  have S5_12 := Lib.hid (S5_11.out.below hb12 S5_11.out.lt)
  have PR_12 := Lib.hid (PR_11.out.below hb12 PR_11.out.lt)
  have S9_12 := Lib.hid (S9_11.out.below hb12 S9_11.out.lt)
  have Ra_12 := Lib.hid (Ra_11.out.below hb12 Ra_11.out.lt)
  have Rb_12 := Lib.hid (Rb_11.out.below hb12 Rb_11.out.lt)
  have Rc_12 := Lib.hid (Rc.out.below hb12 Rc.out.lt)
  have k_12 := Lib.hid (k_11.out.trans (hb12.mono k_11.out.size))
  clear S5_11 PR_11 S9_11 Ra_11 Rb_11 Rc k_11 hb12
  have Rd := Lib.hid hrd
  clear hrd
  obtain ⟨cS50, cS51, cS52⟩ := S5_12.out
  go_wp2_with fail
  clear cS50 cS51 cS52
  refine (HC7.out _ PR_12.out).mono ?_; rintro e w13 ⟨ge, qe, rfl, hge, hqe, hre, hb13⟩
  clear hge
  have S5_13 := Lib.hid (S5_12.out.below hb13 S5_12.out.lt)
  have PR_13 := Lib.hid (PR_12.out.below hb13 PR_12.out.lt)
  have S9_13 := Lib.hid (S9_12.out.below hb13 S9_12.out.lt)
  have Ra_13 := Lib.hid (Ra_12.out.below hb13 Ra_12.out.lt)
  have Rb_13 := Lib.hid (Rb_12.out.below hb13 Rb_12.out.lt)
  have Rc_13 := Lib.hid (Rc_12.out.below hb13 Rc_12.out.lt)
  have Rd_13 := Lib.hid (Rd.out.below hb13 Rd.out.lt)
  have k_13 := Lib.hid (k_12.out.trans (hb13.mono k_12.out.size))
  clear S5_12 PR_12 S9_12 Ra_12 Rb_12 Rc_12 Rd k_12 hb13
  have Re := Lib.hid hre
  clear hre
  obtain ⟨cS50, cS51, cS52⟩ := S5_13.out
  go_wp2_with fail
  clear cS50 cS51 cS52
  refine (HC8.out _ PR_13.out (HT.out.below k_13.out (Nat.le_refl _)) (HE.out.below k_13.out (Nat.le_refl _))).mono ?_; rintro e w14 ⟨gf, qf, rfl, hgf, hrf, hb14⟩
  clear hgf
  have S5_14 := Lib.hid (S5_13.out.below hb14 S5_13.out.lt)
  have PR_14 := Lib.hid (PR_13.out.below hb14 PR_13.out.lt)
  have S9_14 := Lib.hid (S9_13.out.below hb14 S9_13.out.lt)
  have Ra_14 := Lib.hid (Ra_13.out.below hb14 Ra_13.out.lt)
  have Rb_14 := Lib.hid (Rb_13.out.below hb14 Rb_13.out.lt)
  have Rc_14 := Lib.hid (Rc_13.out.below hb14 Rc_13.out.lt)
  have Rd_14 := Lib.hid (Rd_13.out.below hb14 Rd_13.out.lt)
  have Re_14 := Lib.hid (Re.out.below hb14 Re.out.lt)
  have k_14 := Lib.hid (k_13.out.trans (hb14.mono k_13.out.size))
  clear S5_13 PR_13 S9_13 Ra_13 Rb_13 Rc_13 Rd_13 Re k_13 hb14
  have Rf := Lib.hid hrf
  clear hrf
  obtain ⟨cS50, cS51, cS52⟩ := S5_14.out
  go_wp2_with fail
  clear cS50 cS51 cS52
  refine (HC9.out _ PR_14.out).mono ?_; rintro e w15 ⟨gh, qh, rfl, hgh, hrh, hb15⟩
  clear hgh
  have S5_15 := Lib.hid (S5_14.out.below hb15 S5_14.out.lt)
  have PR_15 := Lib.hid (PR_14.out.below hb15 PR_14.out.lt)
  have S9_15 := Lib.hid (S9_14.out.below hb15 S9_14.out.lt)
  have Ra_15 := Lib.hid (Ra_14.out.below hb15 Ra_14.out.lt)
  have Rb_15 := Lib.hid (Rb_14.out.below hb15 Rb_14.out.lt)
  have Rc_15 := Lib.hid (Rc_14.out.below hb15 Rc_14.out.lt)
  have Rd_15 := Lib.hid (Rd_14.out.below hb15 Rd_14.out.lt)
  have Re_15 := Lib.hid (Re_14.out.below hb15 Re_14.out.lt)
  have Rf_15 := Lib.hid (Rf.out.below hb15 Rf.out.lt)
  have k_15 := Lib.hid (k_14.out.trans (hb15.mono k_14.out.size))
  clear S5_14 PR_14 S9_14 Ra_14 Rb_14 Rc_14 Rd_14 Re_14 Rf k_14 hb15
  have Rh := Lib.hid hrh
  clear hrh
  clear HC3 HC4 HC5 HC6 HC7 HC8 HC9
  obtain ⟨cS50, cS51, cS52⟩ := S5_15.out
  obtain ⟨cS90, cS91, cS92⟩ := S9_15.out
  go_wp2_with fail
  clear cS50 cS51 cS52
  clear cS90 cS91 cS92
  refine (HC10.out _).mono ?_; rintro e w16 ⟨rfl, hb16⟩
  have S5_16 := Lib.hid (S5_15.out.below hb16 S5_15.out.lt)
  have PR_16 := Lib.hid (PR_15.out.below hb16 PR_15.out.lt)
  have S9_16 := Lib.hid (S9_15.out.below hb16 S9_15.out.lt)
  have Ra_16 := Lib.hid (Ra_15.out.below hb16 Ra_15.out.lt)
  have Rb_16 := Lib.hid (Rb_15.out.below hb16 Rb_15.out.lt)
  have Rc_16 := Lib.hid (Rc_15.out.below hb16 Rc_15.out.lt)
  have Rd_16 := Lib.hid (Rd_15.out.below hb16 Rd_15.out.lt)
  have Re_16 := Lib.hid (Re_15.out.below hb16 Re_15.out.lt)
  have Rf_16 := Lib.hid (Rf_15.out.below hb16 Rf_15.out.lt)
  have Rh_16 := Lib.hid (Rh.out.below hb16 Rh.out.lt)
  have k_16 := Lib.hid (k_15.out.trans (hb16.mono k_15.out.size))
  clear S5_15 PR_15 S9_15 Ra_15 Rb_15 Rc_15 Rd_15 Re_15 Rf_15 Rh k_15 hb16
  obtain ⟨cS50, cS51, cS52⟩ := S5_16.out
  go_wp2_with fail
  clear cS50 cS51 cS52
  refine (SameNumbers_any gb gc N qb qc K hNl _ Rb_16.out Rc_16.out).mono ?_; rintro e w17 ⟨rfl, hb17⟩
  have S5_17 := Lib.hid (S5_16.out.below hb17 S5_16.out.lt)
  have PR_17 := Lib.hid (PR_16.out.below hb17 PR_16.out.lt)
  have S9_17 := Lib.hid (S9_16.out.below hb17 S9_16.out.lt)
  have Ra_17 := Lib.hid (Ra_16.out.below hb17 Ra_16.out.lt)
  have Rb_17 := Lib.hid (Rb_16.out.below hb17 Rb_16.out.lt)
  have Rc_17 := Lib.hid (Rc_16.out.below hb17 Rc_16.out.lt)
  have Rd_17 := Lib.hid (Rd_16.out.below hb17 Rd_16.out.lt)
  have Re_17 := Lib.hid (Re_16.out.below hb17 Re_16.out.lt)
  have Rf_17 := Lib.hid (Rf_16.out.below hb17 Rf_16.out.lt)
  have Rh_17 := Lib.hid (Rh_16.out.below hb17 Rh_16.out.lt)
  have k_17 := Lib.hid (k_16.out.trans (hb17.mono k_16.out.size))
  clear S5_16 PR_16 S9_16 Ra_16 Rb_16 Rc_16 Rd_16 Re_16 Rf_16 Rh_16 k_16 hb17
  clear Rb_17
  go_wp2_with fail
  refine (SameNumbers_any gd ge N qd qe F hNl _ Rd_17.out Re_17.out).mono ?_; rintro e w18 ⟨rfl, hb18⟩
  have S5_18 := Lib.hid (S5_17.out.below hb18 S5_17.out.lt)
  have PR_18 := Lib.hid (PR_17.out.below hb18 PR_17.out.lt)
  have S9_18 := Lib.hid (S9_17.out.below hb18 S9_17.out.lt)
  have Ra_18 := Lib.hid (Ra_17.out.below hb18 Ra_17.out.lt)
  have Rc_18 := Lib.hid (Rc_17.out.below hb18 Rc_17.out.lt)
  have Rd_18 := Lib.hid (Rd_17.out.below hb18 Rd_17.out.lt)
  have Re_18 := Lib.hid (Re_17.out.below hb18 Re_17.out.lt)
  have Rf_18 := Lib.hid (Rf_17.out.below hb18 Rf_17.out.lt)
  have Rh_18 := Lib.hid (Rh_17.out.below hb18 Rh_17.out.lt)
  have k_18 := Lib.hid (k_17.out.trans (hb18.mono k_17.out.size))
  clear S5_17 PR_17 S9_17 Ra_17 Rc_17 Rd_17 Re_17 Rf_17 Rh_17 k_17 hb18
  clear Rd_18
  go_wp2_with fail
  refine (SameNumbers_any gf gh N qf qh G hNl _ Rf_18.out Rh_18.out).mono ?_; rintro e w19 ⟨rfl, hb19⟩
  have S5_19 := Lib.hid (S5_18.out.below hb19 S5_18.out.lt)
  have PR_19 := Lib.hid (PR_18.out.below hb19 PR_18.out.lt)
  have S9_19 := Lib.hid (S9_18.out.below hb19 S9_18.out.lt)
  have Ra_19 := Lib.hid (Ra_18.out.below hb19 Ra_18.out.lt)
  have Rc_19 := Lib.hid (Rc_18.out.below hb19 Rc_18.out.lt)
  have Re_19 := Lib.hid (Re_18.out.below hb19 Re_18.out.lt)
  have Rf_19 := Lib.hid (Rf_18.out.below hb19 Rf_18.out.lt)
  have Rh_19 := Lib.hid (Rh_18.out.below hb19 Rh_18.out.lt)
  have k_19 := Lib.hid (k_18.out.trans (hb19.mono k_18.out.size))
  clear S5_18 PR_18 S9_18 Ra_18 Rc_18 Re_18 Rf_18 Rh_18 k_18 hb19
  clear Rf_19
  clear HC10
  go_wp2_with fail
  go_loopw [25] (fun iv wr => ∃ i : Nat, i ≤ N ∧ iv = .int .i64 (i : Int) ∧ Below w19.heap.size w19 wr) (fun iv _ => N - (intOf iv).toNat)
  case atStart => exact ⟨0, Nat.zero_le _, rfl, Below.refl _ _⟩
  case round =>
    obtain ⟨i, hi, rfl, hB⟩ := hrel
    by_cases hin : i < N
    · have hin' : (i : Int) < N := by omega
      obtain ⟨⟨l1, l2⟩, l3, l4, l5⟩ := HL1.out i hin
      have hF := HF.out
      have ca1 : wr.cell? ⟨ga, i, none⟩ = some (.int .i64 (a + b * (i : Int))) := (Ra_19.out.below hB Ra_19.out.lt).cell hin
      have cc1 : wr.cell? ⟨gc, i, none⟩ = some (.int .i64 (K i)) := (Rc_19.out.below hB Rc_19.out.lt).cell hin
      have ce1 : wr.cell? ⟨ge, i, none⟩ = some (.int .i64 (F i)) := (Re_19.out.below hB Re_19.out.lt).cell hin
      have ch1 : wr.cell? ⟨gh, i, none⟩ = some (.int .i64 (G i)) := (Rh_19.out.below hB Rh_19.out.lt).cell hin
      have hP : 0 < i → ∃ p : Nat, (i : Int) - 1 = p ∧ p < N ∧ ¬ F i < F p ∧ ¬ G i < G p ∧ wr.cell? ⟨ge, p, none⟩ = some (.int .i64 (F p)) ∧ wr.cell? ⟨gh, p, none⟩ = some (.int .i64 (G p)) := fun h0 => ⟨i - 1, by omega, by omega, by have := (l5 h0).1; omega, by have := (l5 h0).2; omega, (Re_19.out.below hB Re_19.out.lt).cell (by omega), (Rh_19.out.below hB Rh_19.out.lt).cell (by omega)⟩
      have S := S5_19.out.below hB S5_19.out.lt
      obtain ⟨s0, s1, s2⟩ := S
      have hs := Hs.out
      have b0 := hs.b0
      have b9 := hs.b1
      have a0 := hs.a0
      have a9 := hs.a1
      clear hs l5 hF
      have HBB := Lib.hid hB; clear hB
      have l6 : ¬ K i < a + b * (i : Int) := by omega
      have l7 : ¬ G i < F i := by omega
      have iA : IntKind.i64.wrap a = a := IntWalk.i64_in _ (by omega)
      have iB : IntKind.i64.wrap b = b := IntWalk.i64_in _ (by omega)
      rw [Int.mul_comm b] at l1 l2 l3 l6 ca1
      generalize hQ : (i : Int) * b = Q at *
      have i2 : IntKind.i64.wrap Q = Q := IntWalk.i64_in _ (by omega)
      have i3 : IntKind.i64.wrap (a + Q) = a + Q := IntWalk.i64_in _ (by omega)
      generalize K i = kk at *
      generalize F i = ff at *
      generalize G i = gg at *
      clear l1 l2 l3 l4
      rcases Nat.eq_zero_or_pos i with h0 | h0
      · subst h0
        have hQ0 : Q = 0 := by rw [← hQ]; simp
        subst hQ0
        clear hP hQ
        have l8 : ¬ kk < a := by omega
        go_wp2_with fail
        go_quiet (fail)
        go_wp2_with fail
        go_roundw
        case rel => exact ⟨1, by omega, by go_num, below_drewBd HBB.out _⟩
        case measure => simp [intOf]; omega
      · have h1 : (0 : Int) < (i : Int) := by omega
        obtain ⟨p, hp, hpN, p1, p2, cp1, cp2⟩ := hP h0
        have hpN' : (p : Int) < N := by omega
        generalize F p = fp at *
        generalize G p = gp at *
        have ip : IntKind.i64.wrap (p : Int) = p := IntWalk.i64_in _ (by omega)
        go_wp2_with fail
        go_quiet (fail)
        go_wp2_with fail
        go_roundw
        case rel => exact ⟨i + 1, by omega, by go_num, below_drewBd HBB.out _⟩
        case measure => simp [intOf]; omega
    obtain rfl : N = i := by omega
    have hb30 := hB
    obtain ⟨w30, hw30⟩ : ∃ x : World, x = wr := ⟨_, rfl⟩
    rw [← hw30] at hb30 ⊢
    clear hw30 hB hi hin
    have S5_30 := Lib.hid (S5_19.out.below hb30 S5_19.out.lt)
    have PR_30 := Lib.hid (PR_19.out.below hb30 PR_19.out.lt)
    have S9_30 := Lib.hid (S9_19.out.below hb30 S9_19.out.lt)
    have Ra_30 := Lib.hid (Ra_19.out.below hb30 Ra_19.out.lt)
    have Rc_30 := Lib.hid (Rc_19.out.below hb30 Rc_19.out.lt)
    have Re_30 := Lib.hid (Re_19.out.below hb30 Re_19.out.lt)
    have Rh_30 := Lib.hid (Rh_19.out.below hb30 Rh_19.out.lt)
    have k_30 := Lib.hid (k_19.out.trans (hb30.mono k_19.out.size))
    clear S5_19 PR_19 S9_19 Ra_19 Rc_19 Re_19 Rh_19 k_19 hb30
    clear HL1 Rh_30
    clear Rc_30
    go_wp2_with fail
    refine (HC11.out _ ge qe Re_30.out (HE.out.below k_30.out (Nat.le_refl _))).mono ?_; rintro e w31 ⟨rfl, hb31⟩
    have S5_31 := Lib.hid (S5_30.out.below hb31 S5_30.out.lt)
    have PR_31 := Lib.hid (PR_30.out.below hb31 PR_30.out.lt)
    have S9_31 := Lib.hid (S9_30.out.below hb31 S9_30.out.lt)
    have Ra_31 := Lib.hid (Ra_30.out.below hb31 Ra_30.out.lt)
    have Re_31 := Lib.hid (Re_30.out.below hb31 Re_30.out.lt)
    have k_31 := Lib.hid (k_30.out.trans (hb31.mono k_30.out.size))
    clear S5_30 PR_30 S9_30 Ra_30 Re_30 k_30 hb31
    go_wp2_with fail
    refine (HC12.out _ ge qe Re_31.out).mono ?_; rintro e w32 ⟨rfl, hb32⟩
    have S5_32 := Lib.hid (S5_31.out.below hb32 S5_31.out.lt)
    have PR_32 := Lib.hid (PR_31.out.below hb32 PR_31.out.lt)
    have S9_32 := Lib.hid (S9_31.out.below hb32 S9_31.out.lt)
    have Ra_32 := Lib.hid (Ra_31.out.below hb32 Ra_31.out.lt)
    have Re_32 := Lib.hid (Re_31.out.below hb32 Re_31.out.lt)
    have k_32 := Lib.hid (k_31.out.trans (hb32.mono k_31.out.size))
    clear S5_31 PR_31 S9_31 Ra_31 Re_31 k_31 hb32
    go_wp2_with fail
    refine (HC13.out _ ge qe hqe Re_32.out (HE.out.below k_32.out (Nat.le_refl _))).mono ?_; rintro e w33 ⟨rfl, hb33⟩
    have S5_33 := Lib.hid (S5_32.out.below hb33 S5_32.out.lt)
    have PR_33 := Lib.hid (PR_32.out.below hb33 PR_32.out.lt)
    have S9_33 := Lib.hid (S9_32.out.below hb33 S9_32.out.lt)
    have Ra_33 := Lib.hid (Ra_32.out.below hb33 Ra_32.out.lt)
    have Re_33 := Lib.hid (Re_32.out.below hb33 Re_32.out.lt)
    have k_33 := Lib.hid (k_32.out.trans (hb33.mono k_32.out.size))
    clear S5_32 PR_32 S9_32 Ra_32 Re_32 k_32 hb33
    go_wp2_with fail
    refine (HC14.out _ ge qe Re_33.out).mono ?_; rintro e w34 ⟨rfl, hb34⟩
    have S5_34 := Lib.hid (S5_33.out.below hb34 S5_33.out.lt)
    have PR_34 := Lib.hid (PR_33.out.below hb34 PR_33.out.lt)
    have S9_34 := Lib.hid (S9_33.out.below hb34 S9_33.out.lt)
    have Ra_34 := Lib.hid (Ra_33.out.below hb34 Ra_33.out.lt)
    have Re_34 := Lib.hid (Re_33.out.below hb34 Re_33.out.lt)
    have k_34 := Lib.hid (k_33.out.trans (hb34.mono k_33.out.size))
    clear S5_33 PR_33 S9_33 Ra_33 Re_33 k_33 hb34
    clear HC11 HC12 HC13 HC14
    go_wp2_with fail
    go_loopw [36] (fun iv wr => ∃ i : Nat, i ≤ N ∧ iv = .int .i64 (i : Int) ∧ Below w34.heap.size w34 wr) (fun iv _ => N - (intOf iv).toNat)
    case atStart => exact ⟨0, Nat.zero_le _, rfl, Below.refl _ _⟩
    case round =>
      obtain ⟨i, hi, rfl, hB⟩ := hrel
      by_cases hin : i < N
      · have hin' : (i : Int) < N := by omega
        have l1 := HF.out i hin
        obtain ⟨l2, l3⟩ := HL2.out i hin
        have c1 := (Re_34.out.below hB Re_34.out.lt).cell hin
        have HBB := Lib.hid hB; clear hB
        generalize F i = ff at *
        have i1 : IntKind.i64.wrap (ff - t) = ff - t := IntWalk.i64_in _ (by omega)
        have i4 : IntKind.i64.wrap (-(ff - t)) = -(ff - t) := IntWalk.i64_in _ (by omega)
        have i5 : IntKind.i64.wrap (-O) = -O := IntWalk.i64_in _ (by omega)
        generalize hD : ff - t = D at *
        by_cases h7 : C7 = 0
        · have j1 : (C7 != 0) = false := by rw [h7]; rfl
          by_cases h8 : (i : Int) < V7
          · have j2 : ¬ 0 ≤ D := fun h => l3 ⟨.inr h8, h⟩
            clear l3
            go_wp2_with fail
            go_roundw
            case rel => exact ⟨i + 1, by omega, by go_num, HBB.out⟩
            case measure => simp [intOf]; omega
          · clear l3
            go_wp2_with fail
            go_roundw
            case rel => exact ⟨i + 1, by omega, by go_num, HBB.out⟩
            case measure => simp [intOf]; omega
        · have j1 : (C7 != 0) = true := by simpa using h7
          have j2 : ¬ 0 ≤ D := fun h => l3 ⟨.inl h7, h⟩
          clear l3
          go_wp2_with fail
          go_roundw
          case rel => exact ⟨i + 1, by omega, by go_num, HBB.out⟩
          case measure => simp [intOf]; omega
      obtain rfl : N = i := by omega
      have hb40 := hB
      obtain ⟨w40, hw40⟩ : ∃ x : World, x = wr := ⟨_, rfl⟩
      rw [← hw40] at hb40 ⊢
      clear hw40 hB hi hin
      have S5_40 := Lib.hid (S5_34.out.below hb40 S5_34.out.lt)
      have PR_40 := Lib.hid (PR_34.out.below hb40 PR_34.out.lt)
      have S9_40 := Lib.hid (S9_34.out.below hb40 S9_34.out.lt)
      have Ra_40 := Lib.hid (Ra_34.out.below hb40 Ra_34.out.lt)
      have Re_40 := Lib.hid (Re_34.out.below hb40 Re_34.out.lt)
      have k_40 := Lib.hid (k_34.out.trans (hb40.mono k_34.out.size))
      clear S5_34 PR_34 S9_34 Ra_34 Re_34 k_34 hb40
      clear HL2 HF
      go_wp2_with fail
      refine (HC15.out _ PR_40.out (HE.out.below k_40.out (Nat.le_refl _))).mono ?_; rintro e w41 ⟨rfl, hb41⟩
      have S5_41 := Lib.hid (S5_40.out.below hb41 S5_40.out.lt)
      have PR_41 := Lib.hid (PR_40.out.below hb41 PR_40.out.lt)
      have S9_41 := Lib.hid (S9_40.out.below hb41 S9_40.out.lt)
      have Ra_41 := Lib.hid (Ra_40.out.below hb41 Ra_40.out.lt)
      have Re_41 := Lib.hid (Re_40.out.below hb41 Re_40.out.lt)
      have k_41 := Lib.hid (k_40.out.trans (hb41.mono k_40.out.size))
      clear S5_40 PR_40 S9_40 Ra_40 Re_40 k_40 hb41
      go_wp2_with fail
      refine (HC16.out _ PR_41.out).mono ?_; rintro e w42 ⟨rfl, hb42⟩
      have S5_42 := Lib.hid (S5_41.out.below hb42 S5_41.out.lt)
      have PR_42 := Lib.hid (PR_41.out.below hb42 PR_41.out.lt)
      have S9_42 := Lib.hid (S9_41.out.below hb42 S9_41.out.lt)
      have Ra_42 := Lib.hid (Ra_41.out.below hb42 Ra_41.out.lt)
      have Re_42 := Lib.hid (Re_41.out.below hb42 Re_41.out.lt)
      have k_42 := Lib.hid (k_41.out.trans (hb42.mono k_41.out.size))
      clear S5_41 PR_41 S9_41 Ra_41 Re_41 k_41 hb42
      clear HC15 HC16
      go_wp2_with fail
      go_loopw [44] (fun iv wr => ∃ i : Nat, i ≤ 37 ∧ iv = .int .i64 (i : Int) ∧ Below w42.heap.size w42 wr) (fun iv _ => 37 - (intOf iv).toNat)
      case atStart => exact ⟨0, Nat.zero_le _, rfl, Below.refl _ _⟩
      case round =>
        obtain ⟨i, hi, rfl, hB⟩ := hrel
        by_cases hin : i < 37
        · have hin' : (i : Int) < 37 := by omega
          have hin'' : (i : Int) ≤ 36 := by omega
          have i1 : IntKind.i8.wrap (i : Int) = i := IntWalk.i8_in _ (by omega)
          have l1 := HL3.out i hin
          have HBB := Lib.hid hB
          go_wp2_with fail
          refine (HC17.out i hin _ (PR_42.out.below hB PR_42.out.lt) (HE.out.below (k_42.out.trans (hB.mono k_42.out.size)) (Nat.le_refl _))).mono ?_; rintro e w50 ⟨gx, qx, rfl, hgx, hrx, hb50⟩
          have cx := hrx.cell (show 0 < 1 by decide)
          have HB2 := Lib.hid (HBB.out.trans (hb50.mono HBB.out.size))
          clear HBB hB hb50 hrx hgx
          generalize E i = ee at *
          by_cases h8 : C8 = 0
          · subst h8
            by_cases h9 : V8 ≤ (i : Int)
            · have l2 : t ≤ ee := by simpa [h9] using l1
              clear l1
              go_wp2_with fail
              go_roundw
              case rel => exact ⟨i + 1, by omega, by go_num, HB2.out⟩
              case measure => simp [intOf]; omega
            · have l2 : ¬ t ≤ ee := by simpa [h9] using l1
              have l4 : (!(decide (t ≤ ee) == decide (V8 ≤ (i : Int)))) = false := by rw [decide_eq_false l2, decide_eq_false h9]; rfl
              clear l1
              go_wp2_with fail
              go_roundw
              case rel => exact ⟨i + 1, by omega, by go_num, HB2.out⟩
              case measure => simp [intOf]; omega
          · have l2 : ¬ t ≤ ee := by simpa [h8] using l1
            have l3 : (C8 == 0) = false := by simpa using h8
            clear l1
            go_wp2_with fail
            go_roundw
            case rel => exact ⟨i + 1, by omega, by go_num, HB2.out⟩
            case measure => simp [intOf]; omega
        obtain rfl : i = 37 := by omega
        have hb60 := hB
        obtain ⟨w60, hw60⟩ : ∃ x : World, x = wr := ⟨_, rfl⟩
        rw [← hw60] at hb60 ⊢
        clear hw60 hB hi hin
        have S5_60 := Lib.hid (S5_42.out.below hb60 S5_42.out.lt)
        have PR_60 := Lib.hid (PR_42.out.below hb60 PR_42.out.lt)
        have S9_60 := Lib.hid (S9_42.out.below hb60 S9_42.out.lt)
        have Ra_60 := Lib.hid (Ra_42.out.below hb60 Ra_42.out.lt)
        have Re_60 := Lib.hid (Re_42.out.below hb60 Re_42.out.lt)
        have k_60 := Lib.hid (k_42.out.trans (hb60.mono k_42.out.size))
        clear S5_42 PR_42 S9_42 Ra_42 Re_42 k_42 hb60
        clear HL3 HC17
        go_wp2_with fail
        refine (Hpm.out (N : Int) (by omega) (by omega) _ k_60.out).mono ?_; rintro e w61 ⟨m0, rfl, hm0, hb61⟩
        have S5_61 := Lib.hid (S5_60.out.below hb61 S5_60.out.lt)
        have PR_61 := Lib.hid (PR_60.out.below hb61 PR_60.out.lt)
        have S9_61 := Lib.hid (S9_60.out.below hb61 S9_60.out.lt)
        have Ra_61 := Lib.hid (Ra_60.out.below hb61 Ra_60.out.lt)
        have Re_61 := Lib.hid (Re_60.out.below hb61 Re_60.out.lt)
        have k_61 := Lib.hid (k_60.out.trans (hb61.mono k_60.out.size))
        clear S5_60 PR_60 S9_60 Ra_60 Re_60 k_60 hb61
        have hm0 : 0 ≤ m0 ∧ m0 < N := by
          rcases Nat.lt_or_ge 1 N with h | h
          · exact hm0.lt (by omega)
          · have := hm0.1 (by omega); omega
        obtain ⟨m, rfl⟩ := Int.eq_ofNat_of_zero_le hm0.1
        have hmN : m < N := by omega
        obtain ⟨fa, fc, hfa, f1, f2, f3⟩ := HC18.out m hmN
        have F1 := Lib.hid f1
        have F2 := Lib.hid f2
        have F3 := Lib.hid f3
        clear f1 f2 f3 HC18
        obtain ⟨cS50, cS51, cS52⟩ := S5_61.out
        go_wp2_with fail
        clear cS50 cS51 cS52
        refine (F1.out _ (HE.out.below k_61.out (Nat.le_refl _))).mono ?_; rintro e w62 ⟨rfl, hb62⟩
        have S5_62 := Lib.hid (S5_61.out.below hb62 S5_61.out.lt)
        have PR_62 := Lib.hid (PR_61.out.below hb62 PR_61.out.lt)
        have S9_62 := Lib.hid (S9_61.out.below hb62 S9_61.out.lt)
        have Ra_62 := Lib.hid (Ra_61.out.below hb62 Ra_61.out.lt)
        have Re_62 := Lib.hid (Re_61.out.below hb62 Re_61.out.lt)
        have k_62 := Lib.hid (k_61.out.trans (hb62.mono k_61.out.size))
        clear S5_61 PR_61 S9_61 Ra_61 Re_61 k_61 hb62
        have S5_a63 := Lib.hid (S5_62.out.alloc (.cells #[.int .i8 fa, .int .i8 1, .int .i8 fc] 26))
        have PR_a63 := Lib.hid (PR_62.out.below ((Below.refl w62.heap.size w62).alloc (Nat.le_refl _) (.cells #[.int .i8 fa, .int .i8 1, .int .i8 fc] 26)) PR_62.out.lt)
        have S9_a63 := Lib.hid (S9_62.out.alloc (.cells #[.int .i8 fa, .int .i8 1, .int .i8 fc] 26))
        have Ra_a63 := Lib.hid (Ra_62.out.alloc (.cells #[.int .i8 fa, .int .i8 1, .int .i8 fc] 26))
        have Re_a63 := Lib.hid (Re_62.out.alloc (.cells #[.int .i8 fa, .int .i8 1, .int .i8 fc] 26))
        have k_a63 := Lib.hid (k_62.out.alloc k_62.out.size (.cells #[.int .i8 fa, .int .i8 1, .int .i8 fc] 26))
        have S48_a63 := Lib.hid (StAt.new w62 26 fa 1 fc)
        clear S5_62 PR_62 S9_62 Ra_62 Re_62 k_62
        obtain ⟨cS50, cS51, cS52⟩ := S5_a63.out
        go_wp2_with fail
        clear cS50 cS51 cS52
        refine (F2.out _).mono ?_; rintro e w64 ⟨rfl, hb64⟩
        have S5_64 := Lib.hid (S5_a63.out.below hb64 S5_a63.out.lt)
        have PR_64 := Lib.hid (PR_a63.out.below hb64 PR_a63.out.lt)
        have S9_64 := Lib.hid (S9_a63.out.below hb64 S9_a63.out.lt)
        have Ra_64 := Lib.hid (Ra_a63.out.below hb64 Ra_a63.out.lt)
        have Re_64 := Lib.hid (Re_a63.out.below hb64 Re_a63.out.lt)
        have S48_64 := Lib.hid (S48_a63.out.below hb64 S48_a63.out.lt)
        have k_64 := Lib.hid (k_a63.out.trans (hb64.mono k_a63.out.size))
        clear S5_a63 PR_a63 S9_a63 Ra_a63 Re_a63 S48_a63 k_a63 hb64
        have S5_a65 := Lib.hid (S5_64.out.alloc (.cells #[.int .i8 fa, .int .i8 1, .int .i8 fc] 26))
        have PR_a65 := Lib.hid (PR_64.out.below ((Below.refl w64.heap.size w64).alloc (Nat.le_refl _) (.cells #[.int .i8 fa, .int .i8 1, .int .i8 fc] 26)) PR_64.out.lt)
        have S9_a65 := Lib.hid (S9_64.out.alloc (.cells #[.int .i8 fa, .int .i8 1, .int .i8 fc] 26))
        have Ra_a65 := Lib.hid (Ra_64.out.alloc (.cells #[.int .i8 fa, .int .i8 1, .int .i8 fc] 26))
        have Re_a65 := Lib.hid (Re_64.out.alloc (.cells #[.int .i8 fa, .int .i8 1, .int .i8 fc] 26))
        have S48_a65 := Lib.hid (S48_64.out.alloc (.cells #[.int .i8 fa, .int .i8 1, .int .i8 fc] 26))
        have k_a65 := Lib.hid (k_64.out.alloc k_64.out.size (.cells #[.int .i8 fa, .int .i8 1, .int .i8 fc] 26))
        have S50_a65 := Lib.hid (StAt.new w64 26 fa 1 fc)
        clear S5_64 PR_64 S9_64 Ra_64 Re_64 S48_64 k_64
        go_wp2_with fail
        obtain ⟨y0, y1, y2⟩ := S48_a65.out
        obtain ⟨z0, z1, z2⟩ := S50_a65.out
        have yl := Ra_a65.out.cell hmN
        have k9 := k_a65.out
        have F9 := Lib.hid (fun (y : WIn (Below (w64.alloc (.cells #[.int .i8 fa, .int .i8 1, .int .i8 fc] 26)).heap.size (w64.alloc (.cells #[.int .i8 fa, .int .i8 1, .int .i8 fc] 26)))) => F3.out y.w)
        generalize (w64.alloc (.cells #[.int .i8 fa, .int .i8 1, .int .i8 fc] 26)) = W9 at *
        have hmN' : (m : Int) < N := by omega
        have i1 : IntKind.i64.wrap fa = fa := IntWalk.i64_in _ (by omega)
        have i4 := hfa.2.2
        refine wp_region_quietD (Below W9.heap.size W9) (by kernel_rfl) (by kernel_rfl) (below_drew1 _) ?_
        have n0 := below_nonempty W9
        have v0 := inCell y0
        have v1 := inCell y1
        have v2 := inCell y2
        have u0 := inCell z0
        have u1 := inCell z1
        have u2 := inCell z2
        have ul := inCell yl
        clear y0 y1 y2 z0 z1 z2 yl
        repeat (go_big_quiet_step (first | (go_at_call 17; exact inCall _ (F9.out _))))
        refine wpQuiet_nil ?_
        rintro _ ⟨y, rfl⟩
        go_wp2
        go_ret
        exact ⟨rfl, k9.trans (y.ok.mono k9.size)⟩
end Go.Proofs.YtnlcjbobfhmnmabGreatDoor
