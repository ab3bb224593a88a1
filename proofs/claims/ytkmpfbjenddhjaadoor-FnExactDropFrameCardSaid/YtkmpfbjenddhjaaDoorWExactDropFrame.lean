/-
  The walk of the law FnExactDropFrame: it returns true for every argument. Condition: the listed variables hold what the row lists.
-/
import Derived.Test.YtkmpfbjenddhjaaDoorOpenPr
import Derived.Test.YtkmpfbjenddhjaaDoorDropL
import Derived.Test.YtkmpfbjenddhjaaDoorEnv
import Derived.Deep.CutBlock
namespace Go.Proofs.YtkmpfbjenddhjaaDoor
open Go.RowKit

/-- A sheet's variable. -/
def Bx (w : World) (b : Nat) (X : Int) (v : Value) : Prop := w.cell? ⟨b, 0, none⟩ = some (.int .i8 X) ∧ w.cell? ⟨b, 1, none⟩ = some v
section
variable {w w' : World} {b L U B m cap : Nat} {X : Int} {v : Value} {f : Nat → Value} {xs : Nat → Int}
theorem Bx.below (h : Bx w b X v) (hb : Below B w w') (hB : w.heap.size ≤ B) : Bx w' b X v := ⟨below_cellOf hb h.1 hB, below_cellOf hb h.2 hB⟩
theorem Bx.only (h : Bx w b X v) (ho : Only L U w w') (hb : b < L ∨ U ≤ b) : Bx w' b X v := ⟨ho.cellOf h.1 hb, ho.cellOf h.2 hb⟩
end

set_option maxRecDepth 100000 in
set_option maxHeartbeats 16000000 in
theorem walk_FnExactDropFrame (X : Int) (A : Option Addr) (n cap : Nat) (g : Nat → Nat → Int) (i : Int) (bi0 : -9223372036854775808 ≤ i) (bi1 : i ≤ 9223372036854775807) (w : World) (hL : laidMetH Tryd.prog Rows.fnExactDropFrameRow.laid w) (hX : -128 ≤ X ∧ X ≤ 127) (hr : PrsIn w A n g) (hm : n ≤ maxLen) (hs : ∀ i, i < n → S16 (g i)) :
    Calls Tryd.prog 4 #[.agg #[.int .i8 X, .slice A n cap], .int .i64 i] w fun e w' => e = .returned (.bool true) ∧ Below w.heap.size w w' := by
  obtain ⟨s, hE⟩ := errEnv_of_row hL (by kernel_rfl) (by kernel_rfl)
  clear hL bi0 bi1
  unfold maxLen at hm
  have k0 := (Below.refl w.heap.size w).alloc (Nat.le_refl _) (.cells #[.int .i8 X, .slice A n cap] 25)
  have c00 : Bx (w.alloc (.cells #[.int .i8 X, .slice A n cap] 25)) w.heap.size X (.slice A n cap) := ⟨by simp, by simp⟩
  have y0 : w.heap.size < (w.alloc (.cells #[.int .i8 X, .slice A n cap] 25)).heap.size := by simp
  by_cases hn : n ≤ 1048576
  rotate_left
  · clear hr hs hE
    have hz := fun W => szSheet_any X A n cap 1048576 (by omega) (by omega) hm W
    rw [if_neg (by omega)] at hz
    have Hz := Lib.hid hz; clear hz
    obtain ⟨c0, c1⟩ := c00
    go_enter Tryd.func4, Tryd.ntmps4
    go_wp2_with fail
    refine (Hz.out _).mono ?_; rintro e w1 ⟨rfl, hb1⟩
    have k1 := k0.trans (hb1.mono k0.size)
    go_wp2
    go_ret
    exact ⟨rfl, k1⟩
  have hz := fun W => szSheet_any X A n cap 1048576 (by omega) (by omega) hm W
  rw [if_pos (by omega)] at hz
  have Hz := Lib.hid hz; clear hz
  have Hto := Lib.hid (fun W h => toSheet_any X A n cap g hn W h)
  have hsp := fun b W h => specDrop_any X (some ⟨b, 0, none⟩) n n g i hn (Nat.le_refl _) hX hs W h
  have him := fun b W h hEW => DropFrame_any s X (some ⟨b, 0, none⟩) n n g i hn (Nat.le_refl _) hX W h hEW
  unfold DrpOut ShtOut at hsp him
  generalize (if askC X n g i = 0 then X else 0) = RX at hsp him
  have hRN : (if askC X n g i = 0 then n - 1 else 0) ≤ 1048576 := by split <;> omega
  generalize (if askC X n g i = 0 then n - 1 else 0) = RN at hsp him hRN
  generalize askC X n g i = C at hsp him
  generalize drpF g i.toNat = G at hsp him
  have Hsp := Lib.hid hsp; clear hsp
  have Him := Lib.hid him; clear him
  clear hs hX
  have Hr := Lib.hid hr; clear hr
  have HE := Lib.hid hE; clear hE
  have HC0 := Lib.hid c00; clear c00
  go_enter Tryd.func4, Tryd.ntmps4
  obtain ⟨e0, e1⟩ := HC0.out
  go_wp2_with fail
  generalize (w.alloc (.cells #[.int .i8 X, .slice A n cap] 25)) = W0 at *
  refine (Hz.out _).mono ?_; rintro e w1 ⟨rfl, hb1⟩
  clear e0 e1
  have k1 := k0.trans (hb1.mono k0.size)
  have z1 := hb1.size
  have HC1 := Lib.hid (HC0.out.below hb1 (Nat.le_refl _))
  clear HC0
  clear hb1 k0
  obtain ⟨e0, e1⟩ := HC1.out
  go_wp2_with fail
  refine (Hto.out _ (Hr.out.below k1 (Nat.le_refl _))).mono ?_; rintro e w2 ⟨b2, rfl, q2, r2, hb2⟩
  clear e0 e1
  have k2 := k1.trans (hb2.mono k1.size)
  have z2 := hb2.size
  have HC2 := Lib.hid (HC1.out.below hb2 (Nat.le_refl _))
  clear HC1
  clear hb2 k1
  have HQ2 := Lib.hid r2; clear r2 q2
  go_wp2_with fail
  refine (Hsp.out _ _ HQ2.out.prs).mono ?_; rintro e w3 ⟨v3, rfl, m3, hb3⟩
  obtain ⟨A3, cap3, rfl, _⟩ := id m3
  have k3 := k2.trans (hb3.mono k2.size)
  have z3 := hb3.size
  have HC3 := Lib.hid (HC2.out.below hb3 (Nat.le_refl _))
  have HQ3 := Lib.hid (HQ2.out.below hb3 HQ2.out.lt)
  clear HC2 HQ2
  clear hb3 k2
  clear HQ3
  have MS3 := Lib.hid m3; clear m3
  have t3 := (Below.refl w3.heap.size w3).alloc (Nat.le_refl _) (.cells #[.int .i8 RX, .slice A3 RN cap3] 29)
  have y3 : w3.heap.size < (w3.alloc (.cells #[.int .i8 RX, .slice A3 RN cap3] 29)).heap.size := by simp
  have kk3 := k3.trans (t3.mono k3.size)
  have HCv3 := Lib.hid (HC3.out.below t3 (Nat.le_refl _))
  have MSv3 := Lib.hid (MS3.out.below t3 (by omega))
  clear HC3 MS3
  have HSv3 := Lib.hid (show Bx (w3.alloc (.cells #[.int .i8 RX, .slice A3 RN cap3] 29)) w3.heap.size RX (.slice A3 RN cap3) from ⟨by simp, by simp⟩)
  clear t3 k3
  obtain ⟨e0, e1⟩ := HCv3.out
  go_wp2_with fail
  generalize (w3.alloc (.cells #[.int .i8 RX, .slice A3 RN cap3] 29)) = V3 at *
  refine (Hto.out _ (Hr.out.below kk3 (Nat.le_refl _))).mono ?_; rintro e w4 ⟨b4, rfl, q4, r4, hb4⟩
  clear e0 e1
  have k4 := kk3.trans (hb4.mono kk3.size)
  have z4 := hb4.size
  have HC4 := Lib.hid (HCv3.out.below hb4 (Nat.le_refl _))
  have HS4 := Lib.hid (HSv3.out.below hb4 (Nat.le_refl _))
  have MS4 := Lib.hid (MSv3.out.below hb4 (by omega))
  clear HCv3 HSv3 MSv3
  clear hb4 kk3
  have rl4 := r4.lt
  have HP4 := Lib.hid r4; clear r4
  have t4 := (Below.refl w4.heap.size w4).alloc (Nat.le_refl _) (.cells #[.int .i8 X, .slice (some ⟨b4, 0, none⟩) n n] 29)
  have y4 : w4.heap.size < (w4.alloc (.cells #[.int .i8 X, .slice (some ⟨b4, 0, none⟩) n n] 29)).heap.size := by simp
  have kk4 := k4.trans (t4.mono k4.size)
  have HCv4 := Lib.hid (HC4.out.below t4 (Nat.le_refl _))
  have HSv4 := Lib.hid (HS4.out.below t4 (Nat.le_refl _))
  have HPv4 := Lib.hid (HP4.out.below t4 HP4.out.lt)
  have MSv4 := Lib.hid (MS4.out.below t4 (by omega))
  clear HC4 HS4 HP4 MS4
  have HAv4 := Lib.hid (show Bx (w4.alloc (.cells #[.int .i8 X, .slice (some ⟨b4, 0, none⟩) n n] 29)) w4.heap.size X (.slice (some ⟨b4, 0, none⟩) n n) from ⟨by simp, by simp⟩)
  clear t4 k4
  obtain ⟨e0, e1⟩ := HAv4.out
  go_wp2_with fail
  generalize (w4.alloc (.cells #[.int .i8 X, .slice (some ⟨b4, 0, none⟩) n n] 29)) = V4 at *
  refine (Him.out _ _ HPv4.out.prs (HE.out.below kk4 (Nat.le_refl _))).mono ?_; rintro e w5 ⟨v5, rfl, m5, hb5⟩
  clear e0 e1
  obtain ⟨A5, cap5, rfl, _⟩ := id m5
  have k5 := kk4.trans (hb5.mono kk4.size)
  have z5 := hb5.size
  have HC5 := Lib.hid (HCv4.out.below hb5 (Nat.le_refl _))
  have HS5 := Lib.hid (HSv4.out.below hb5 (Nat.le_refl _))
  have HA5 := Lib.hid (HAv4.out.below hb5 (Nat.le_refl _))
  have HP5 := Lib.hid (HPv4.out.below hb5 HPv4.out.lt)
  have MS5 := Lib.hid (MSv4.out.below hb5 (by omega))
  clear HCv4 HSv4 HAv4 HPv4 MSv4
  clear hb5 kk4
  have MR5 := Lib.hid m5; clear m5
  have t5 := (Below.refl w5.heap.size w5).alloc (Nat.le_refl _) (.cells #[.int .i8 RX, .slice A5 RN cap5] 29)
  have y5 : w5.heap.size < (w5.alloc (.cells #[.int .i8 RX, .slice A5 RN cap5] 29)).heap.size := by simp
  have kk5 := k5.trans (t5.mono k5.size)
  have HCv5 := Lib.hid (HC5.out.below t5 (Nat.le_refl _))
  have HSv5 := Lib.hid (HS5.out.below t5 (Nat.le_refl _))
  have HAv5 := Lib.hid (HA5.out.below t5 (Nat.le_refl _))
  have HPv5 := Lib.hid (HP5.out.below t5 HP5.out.lt)
  have MSv5 := Lib.hid (MS5.out.below t5 (by omega))
  have MRv5 := Lib.hid (MR5.out.below t5 (by omega))
  clear HC5 HS5 HA5 HP5 MS5 MR5
  have HRv5 := Lib.hid (show Bx (w5.alloc (.cells #[.int .i8 RX, .slice A5 RN cap5] 29)) w5.heap.size RX (.slice A5 RN cap5) from ⟨by simp, by simp⟩)
  clear t5 k5
  obtain ⟨e0, e1⟩ := HRv5.out
  obtain ⟨e2, e3⟩ := HSv5.out
  go_wp2_with fail
  generalize (w5.alloc (.cells #[.int .i8 RX, .slice A5 RN cap5] 29)) = V5 at *
  refine (eqSheet_mine RX _ _ _ _ RN _ _ G hRN _ MRv5.out MSv5.out).mono ?_; rintro e w6 ⟨rfl, hb6⟩
  clear e0 e1 e2 e3
  have k6 := kk5.trans (hb6.mono kk5.size)
  have z6 := hb6.size
  have HC6 := Lib.hid (HCv5.out.below hb6 (Nat.le_refl _))
  have HS6 := Lib.hid (HSv5.out.below hb6 (Nat.le_refl _))
  have HA6 := Lib.hid (HAv5.out.below hb6 (Nat.le_refl _))
  have HR6 := Lib.hid (HRv5.out.below hb6 (Nat.le_refl _))
  have HP6 := Lib.hid (HPv5.out.below hb6 HPv5.out.lt)
  have MS6 := Lib.hid (MSv5.out.below hb6 (by omega))
  have MR6 := Lib.hid (MRv5.out.below hb6 (by omega))
  clear HCv5 HSv5 HAv5 HRv5 HPv5 MSv5 MRv5
  clear hb6 kk5
  obtain ⟨e0, e1⟩ := HA6.out
  obtain ⟨e2, e3⟩ := HC6.out
  go_wp2_with fail
  go_cut [49] from 45 to 49 (fun s56 wx => s56 = .bool false ∧ Below w6.heap.size w6 wx)
  case first =>
    go_region_with (first | (go_at_call 8; refine (Hto.out _ (Hr.out.below (k6.drew) (Nat.le_refl _))).mono ?_; rintro e wa ⟨ba, rfl, qa, ra, hba⟩; have f0 := below_cellOf hba (show w6.drew.cell? _ = _ from e0) (Nat.le_refl _); have f1 := below_cellOf hba (show w6.drew.cell? _ = _ from e1) (Nat.le_refl _)) | (go_at_call 10; refine (eqSheet_same X _ _ n _ _ g hn _ (HP6.out.prs.below ((below_drew1 w6).trans hba) (Nat.le_refl _)) ra.prs).mono ?_; rintro e wb ⟨rfl, hbb⟩))
    all_goals
      go_wp2_with fail
      go_meet
      exact ⟨rfl, ((below_drew1 w6).trans hba).trans (hbb.mono ((below_drew1 w6).trans hba).size)⟩
  obtain ⟨rfl, hb7⟩ := hcut
  clear e0 e1 e2 e3
  obtain ⟨w7, hwc⟩ : ∃ w7 : World, w7 = wc := ⟨_, rfl⟩
  rw [← hwc] at hb7 ⊢
  clear hwc
  have k7 := k6.trans (hb7.mono k6.size)
  have z7 := hb7.size
  have HC7 := Lib.hid (HC6.out.below hb7 (Nat.le_refl _))
  have HS7 := Lib.hid (HS6.out.below hb7 (Nat.le_refl _))
  have HA7 := Lib.hid (HA6.out.below hb7 (Nat.le_refl _))
  have HR7 := Lib.hid (HR6.out.below hb7 (Nat.le_refl _))
  have HP7 := Lib.hid (HP6.out.below hb7 HP6.out.lt)
  have MS7 := Lib.hid (MS6.out.below hb7 (by omega))
  have MR7 := Lib.hid (MR6.out.below hb7 (by omega))
  clear HC6 HS6 HA6 HR6 HP6 MS6 MR6
  clear hb7 k6
  have mx := HP7.out.mine n; clear HP7
  obtain ⟨e0, e1⟩ := HA7.out
  go_wp2_with fail
  refine (markSheet_mine X _ _ n _ _ 1 (by omega) (by omega) hn _ (by omega) mx).mono ?_; rintro e w8 ⟨rfl, m8, ho8⟩
  clear e0 e1
  have k8 := k7.trans ((ho8.below (by omega)).mono (by omega))
  have z8 := ho8.size
  have HC8 := Lib.hid (HC7.out.only ho8 (by omega))
  have HS8 := Lib.hid (HS7.out.only ho8 (by omega))
  have HA8 := Lib.hid (HA7.out.only ho8 (by omega))
  have HR8 := Lib.hid (HR7.out.only ho8 (by omega))
  have MS8 := Lib.hid (MS7.out.only ho8 (by omega))
  have MR8 := Lib.hid (MR7.out.only ho8 (by omega))
  clear HC7 HS7 HA7 HR7 MS7 MR7 k7 m8 ho8
  have hk1 : ¬ (1 + 64 * (n : Int) < 0) := by omega
  obtain ⟨e0, e1⟩ := HR8.out
  obtain ⟨e2, e3⟩ := HS8.out
  go_wp2_with fail
  refine (eqSheet_mine RX _ _ _ _ RN _ _ G hRN _ MR8.out MS8.out).mono ?_; rintro e w9 ⟨rfl, hb9⟩
  clear e0 e1 e2 e3
  clear hk1
  have k9 := k8.trans (hb9.mono k8.size)
  have z9 := hb9.size
  have HC9 := Lib.hid (HC8.out.below hb9 (Nat.le_refl _))
  have HS9 := Lib.hid (HS8.out.below hb9 (Nat.le_refl _))
  have HA9 := Lib.hid (HA8.out.below hb9 (Nat.le_refl _))
  have HR9 := Lib.hid (HR8.out.below hb9 (Nat.le_refl _))
  have MS9 := Lib.hid (MS8.out.below hb9 (by omega))
  have MR9 := Lib.hid (MR8.out.below hb9 (by omega))
  clear HC8 HS8 HA8 HR8 MS8 MR8
  clear hb9 k8
  obtain ⟨e0, e1⟩ := HR9.out
  go_wp2_with fail
  refine (markSheet_mine RX _ _ RN _ _ 1 (by omega) (by omega) hRN _ (by omega) MR9.out).mono ?_; rintro e w10 ⟨rfl, m10, ho10⟩
  clear e0 e1
  have k10 := k9.trans ((ho10.below (by omega)).mono (by omega))
  have z10 := ho10.size
  have HC10 := Lib.hid (HC9.out.only ho10 (by omega))
  have HS10 := Lib.hid (HS9.out.only ho10 (by omega))
  have HA10 := Lib.hid (HA9.out.only ho10 (by omega))
  have HR10 := Lib.hid (HR9.out.only ho10 (by omega))
  have MS10 := Lib.hid (MS9.out.only ho10 (by omega))
  have MR10 := Lib.hid m10
  clear HC9 HS9 HA9 HR9 MS9 MR9 k9 m10 ho10
  obtain ⟨e0, e1⟩ := HR10.out
  go_wp2_with fail
  refine (heldSheet_mine RX _ _ RN _ 1 (by omega) (by omega) hRN _ (by omega) MR10.out).mono ?_; rintro e w11 ⟨rfl, hb11⟩
  clear e0 e1
  have k11 := k10.trans (hb11.mono k10.size)
  have z11 := hb11.size
  have HC11 := Lib.hid (HC10.out.below hb11 (Nat.le_refl _))
  have HS11 := Lib.hid (HS10.out.below hb11 (Nat.le_refl _))
  have HA11 := Lib.hid (HA10.out.below hb11 (Nat.le_refl _))
  have HR11 := Lib.hid (HR10.out.below hb11 (Nat.le_refl _))
  have MS11 := Lib.hid (MS10.out.below hb11 (by omega))
  have MR11 := Lib.hid (MR10.out.below hb11 (by omega))
  clear HC10 HS10 HA10 HR10 MS10 MR10
  clear hb11 k10
  have hk2 : ¬ (1 + 64 * (RN : Int) < 0) := by omega
  obtain ⟨e0, e1⟩ := HC11.out
  go_wp2_with fail
  refine (Hto.out _ (Hr.out.below k11 (Nat.le_refl _))).mono ?_; rintro e w12 ⟨b12, rfl, q12, r12, hb12⟩
  clear e0 e1
  have k12 := k11.trans (hb12.mono k11.size)
  have z12 := hb12.size
  have HC12 := Lib.hid (HC11.out.below hb12 (Nat.le_refl _))
  have HS12 := Lib.hid (HS11.out.below hb12 (Nat.le_refl _))
  have HA12 := Lib.hid (HA11.out.below hb12 (Nat.le_refl _))
  have HR12 := Lib.hid (HR11.out.below hb12 (Nat.le_refl _))
  have MS12 := Lib.hid (MS11.out.below hb12 (by omega))
  have MR12 := Lib.hid (MR11.out.below hb12 (by omega))
  clear HC11 HS11 HA11 HR11 MS11 MR11
  clear hb12 k11
  have HQ12 := Lib.hid r12; clear r12 q12
  go_wp2_with fail
  refine (Him.out _ _ HQ12.out.prs (HE.out.below k12 (Nat.le_refl _))).mono ?_; rintro e w13 ⟨v13, rfl, m13, hb13⟩
  obtain ⟨A13, cap13, rfl, _⟩ := id m13
  have k13 := k12.trans (hb13.mono k12.size)
  have z13 := hb13.size
  have HC13 := Lib.hid (HC12.out.below hb13 (Nat.le_refl _))
  have HS13 := Lib.hid (HS12.out.below hb13 (Nat.le_refl _))
  have HA13 := Lib.hid (HA12.out.below hb13 (Nat.le_refl _))
  have HR13 := Lib.hid (HR12.out.below hb13 (Nat.le_refl _))
  have HQ13 := Lib.hid (HQ12.out.below hb13 HQ12.out.lt)
  have MS13 := Lib.hid (MS12.out.below hb13 (by omega))
  have MR13 := Lib.hid (MR12.out.below hb13 (by omega))
  clear HC12 HS12 HA12 HR12 HQ12 MS12 MR12
  clear hb13 k12
  clear HQ13
  have M213 := Lib.hid m13; clear m13
  have t13 := (Below.refl w13.heap.size w13).alloc (Nat.le_refl _) (.cells #[.int .i8 RX, .slice A13 RN cap13] 29)
  have y13 : w13.heap.size < (w13.alloc (.cells #[.int .i8 RX, .slice A13 RN cap13] 29)).heap.size := by simp
  have kk13 := k13.trans (t13.mono k13.size)
  have HCv13 := Lib.hid (HC13.out.below t13 (Nat.le_refl _))
  have HSv13 := Lib.hid (HS13.out.below t13 (Nat.le_refl _))
  have HAv13 := Lib.hid (HA13.out.below t13 (Nat.le_refl _))
  have HRv13 := Lib.hid (HR13.out.below t13 (Nat.le_refl _))
  have MSv13 := Lib.hid (MS13.out.below t13 (by omega))
  have MRv13 := Lib.hid (MR13.out.below t13 (by omega))
  have M2v13 := Lib.hid (M213.out.below t13 (by omega))
  clear HC13 HS13 HA13 HR13 MS13 MR13 M213
  have HTv13 := Lib.hid (show Bx (w13.alloc (.cells #[.int .i8 RX, .slice A13 RN cap13] 29)) w13.heap.size RX (.slice A13 RN cap13) from ⟨by simp, by simp⟩)
  clear t13 k13
  obtain ⟨e0, e1⟩ := HTv13.out
  obtain ⟨e2, e3⟩ := HSv13.out
  go_wp2_with fail
  generalize (w13.alloc (.cells #[.int .i8 RX, .slice A13 RN cap13] 29)) = V13 at *
  refine (eqSheet_mine RX _ _ _ _ RN _ _ G hRN _ M2v13.out MSv13.out).mono ?_; rintro e w14 ⟨rfl, hb14⟩
  clear e0 e1 e2 e3
  have k14 := kk13.trans (hb14.mono kk13.size)
  have z14 := hb14.size
  have HC14 := Lib.hid (HCv13.out.below hb14 (Nat.le_refl _))
  have HS14 := Lib.hid (HSv13.out.below hb14 (Nat.le_refl _))
  have HA14 := Lib.hid (HAv13.out.below hb14 (Nat.le_refl _))
  have HR14 := Lib.hid (HRv13.out.below hb14 (Nat.le_refl _))
  have HT14 := Lib.hid (HTv13.out.below hb14 (Nat.le_refl _))
  have MS14 := Lib.hid (MSv13.out.below hb14 (by omega))
  have MR14 := Lib.hid (MRv13.out.below hb14 (by omega))
  have M214 := Lib.hid (M2v13.out.below hb14 (by omega))
  clear HCv13 HSv13 HAv13 HRv13 HTv13 MSv13 MRv13 M2v13
  clear hb14 kk13
  obtain ⟨e0, e1⟩ := HR14.out
  go_wp2_with fail
  refine (heldSheet_mine RX _ _ RN _ 1 (by omega) (by omega) hRN _ (by omega) MR14.out).mono ?_; rintro e w15 ⟨rfl, hb15⟩
  clear e0 e1
  have k15 := k14.trans (hb15.mono k14.size)
  have z15 := hb15.size
  have HC15 := Lib.hid (HC14.out.below hb15 (Nat.le_refl _))
  have HS15 := Lib.hid (HS14.out.below hb15 (Nat.le_refl _))
  have HA15 := Lib.hid (HA14.out.below hb15 (Nat.le_refl _))
  have HR15 := Lib.hid (HR14.out.below hb15 (Nat.le_refl _))
  have HT15 := Lib.hid (HT14.out.below hb15 (Nat.le_refl _))
  have MS15 := Lib.hid (MS14.out.below hb15 (by omega))
  have MR15 := Lib.hid (MR14.out.below hb15 (by omega))
  have M215 := Lib.hid (M214.out.below hb15 (by omega))
  clear HC14 HS14 HA14 HR14 HT14 MS14 MR14 M214
  clear hb15 k14
  go_wp2_with fail
  go_ret
  exact ⟨rfl, k15⟩
end Go.Proofs.YtkmpfbjenddhjaaDoor
