/-
  The walk of the law FnExactPickFrames: it returns true for every argument. Condition: the listed variables hold what the row lists.
-/
import Derived.Test.YtfjjbmiocomelaaDoorOpenPr
import Derived.Test.YtfjjbmiocomelaaDoorPickJ
import Derived.Test.YtfjjbmiocomelaaDoorOwnInts
import Derived.Test.YtfjjbmiocomelaaDoorEnv
import Derived.Deep.CutBlock
namespace Go.Proofs.YtfjjbmiocomelaaDoor
open Go.RowKit

/-- A sheet's variable. -/
def Bx (w : World) (b : Nat) (X : Int) (v : Value) : Prop := w.cell? ⟨b, 0, none⟩ = some (.int .i8 X) ∧ w.cell? ⟨b, 1, none⟩ = some v
section
variable {w w' : World} {b L U B m cap : Nat} {X : Int} {v : Value} {f : Nat → Value} {xs : Nat → Int}
theorem Bx.below (h : Bx w b X v) (hb : Below B w w') (hB : w.heap.size ≤ B) : Bx w' b X v := ⟨below_cellOf hb h.1 hB, below_cellOf hb h.2 hB⟩
theorem Bx.only (h : Bx w b X v) (ho : Only L U w w') (hb : b < L ∨ U ≤ b) : Bx w' b X v := ⟨ho.cellOf h.1 hb, ho.cellOf h.2 hb⟩
theorem rowIs_ints (h : w.rowIs b 2 m (fun j => .int .i64 (xs j))) : IntsIn w (some ⟨b, 0, none⟩) m xs := .inr ⟨b, 0, rfl, h.lt, fun j hj => by rw [Nat.zero_add]; exact h.cell hj⟩
theorem mine_of_ints (h : w.rowIs b 2 m f) : Mine w b (b + 1) 2 1 (.slice (some ⟨b, 0, none⟩) m cap) m f := ⟨_, cap, rfl, .inr ⟨b, m, f, rfl, Nat.le_refl _, by omega, by omega, h, fun _ _ => rfl⟩⟩
end

set_option maxRecDepth 100000 in
set_option maxHeartbeats 16000000 in
theorem walk_FnExactPickFrames (X : Int) (A : Option Addr) (n cap : Nat) (g : Nat → Nat → Int) (B : Option Addr) (m c : Nat) (xs : Nat → Int) (w : World) (hL : laidMetH Tryd.prog Rows.fnExactPickFramesRow.laid w) (hX : -128 ≤ X ∧ X ≤ 127) (hr : PrsIn w A n g) (hm : n ≤ maxLen) (hs : ∀ i, i < n → S16 (g i)) (hi : IntsIn w B m xs) (hmi : m ≤ maxLen) :
    Calls Tryd.prog 5 #[.agg #[.int .i8 X, .slice A n cap], .slice B m c] w fun e w' => e = .returned (.bool true) ∧ Below w.heap.size w w' := by
  obtain ⟨s, hE⟩ := errEnv_of_row hL (by kernel_rfl) (by kernel_rfl)
  clear hL
  unfold maxLen at hm hmi
  have k0 := (Below.refl w.heap.size w).alloc (Nat.le_refl _) (.cells #[.int .i8 X, .slice A n cap] 25)
  by_cases hmn : m ≤ 1048576
  rotate_left
  · have hm' : (1048576 : Int) < m := by omega
    clear hr hi hs hE
    go_enter Tryd.func5, Tryd.ntmps5
    go_wp2
    go_ret
    exact ⟨rfl, k0⟩
  have hm' : ¬ (1048576 : Int) < m := by omega
  have c00 : Bx (w.alloc (.cells #[.int .i8 X, .slice A n cap] 25)) w.heap.size X (.slice A n cap) := ⟨by simp, by simp⟩
  have y0 : w.heap.size < (w.alloc (.cells #[.int .i8 X, .slice A n cap] 25)).heap.size := by simp
  by_cases hn : n ≤ 1048576
  rotate_left
  · clear hr hi hs hE
    have hz := fun W => szSheet_any X A n cap 1048576 (by omega) (by omega) hm W
    rw [if_neg (by omega)] at hz
    have Hz := Lib.hid hz; clear hz
    obtain ⟨c0, c1⟩ := c00
    go_enter Tryd.func5, Tryd.ntmps5
    go_wp2_with fail
    refine (Hz.out _).mono ?_; rintro e w1 ⟨rfl, hb1⟩
    have k1 := k0.trans (hb1.mono k0.size)
    go_wp2
    go_ret
    exact ⟨rfl, k1⟩
  have hz := fun W => szSheet_any X A n cap 1048576 (by omega) (by omega) hm W
  rw [if_pos (by omega)] at hz
  have Hz := Lib.hid hz; clear hz
  have Hto := Lib.hid (fun W h => toSheet_any X A n cap g hn W h)
  have Hti := Lib.hid (fun W h => toInt64S_any B m c xs hmn W h)
  have hsp := fun b b' W h h' => specPick_any X (some ⟨b, 0, none⟩) n n g (some ⟨b', 0, none⟩) m m xs hn hmn hX hs W h h'
  have him := fun b b' W h h' hEW => PickFrames_any s X (some ⟨b, 0, none⟩) n n g (some ⟨b', 0, none⟩) m m xs hn hmn hX W h h' hEW
  unfold PicOut ShtOut at hsp him
  generalize (if picC X n g m xs = 0 then X else 0) = RX at hsp him
  have hRN : (if picC X n g m xs = 0 then m else 0) ≤ 1048576 := by split <;> omega
  generalize (if picC X n g m xs = 0 then m else 0) = RN at hsp him hRN
  generalize picC X n g m xs = C at hsp him
  generalize picG g xs = G at hsp him
  have Hsp := Lib.hid hsp; clear hsp
  have Him := Lib.hid him; clear him
  clear hs hX
  have Hr := Lib.hid hr; clear hr
  have Hi := Lib.hid hi; clear hi
  have HE := Lib.hid hE; clear hE
  have HC0 := Lib.hid c00; clear c00
  go_enter Tryd.func5, Tryd.ntmps5
  obtain ⟨e0, e1⟩ := HC0.out
  go_wp2_with fail
  generalize (w.alloc (.cells #[.int .i8 X, .slice A n cap] 25)) = W0 at *
  refine (Hz.out _).mono ?_; rintro e w1 ⟨rfl, hb1⟩
  clear e0 e1
  have k1 := k0.trans (hb1.mono k0.size)
  have z1 := hb1.size
  have HC1 := Lib.hid (HC0.out.below hb1 (Nat.le_refl _))
  clear HC0
  clear hb1 k0
  obtain ⟨e0, e1⟩ := HC1.out
  go_wp2_with fail
  refine (Hto.out _ (Hr.out.below k1 (Nat.le_refl _))).mono ?_; rintro e w2 ⟨b2, rfl, q2, r2, hb2⟩
  clear e0 e1
  have k2 := k1.trans (hb2.mono k1.size)
  have z2 := hb2.size
  have HC2 := Lib.hid (HC1.out.below hb2 (Nat.le_refl _))
  clear HC1
  clear hb2 k1
  have HQ2 := Lib.hid r2; clear r2 q2
  go_wp2_with fail
  refine (Hti.out _ (Hi.out.below k2 (Nat.le_refl _))).mono ?_; rintro e w3 ⟨rfl, r3, hb3⟩
  have k3 := k2.trans (hb3.mono k2.size)
  have z3 := hb3.size
  have HC3 := Lib.hid (HC2.out.below hb3 (Nat.le_refl _))
  have HQ3 := Lib.hid (HQ2.out.below hb3 HQ2.out.lt)
  clear HC2 HQ2
  clear hb3 k2
  have i3 := rowIs_ints r3
  go_wp2_with fail
  refine (Hsp.out _ _ _ HQ3.out.prs i3).mono ?_; rintro e w4 ⟨v4, rfl, m4, hb4⟩
  obtain ⟨A4, cap4, rfl, _⟩ := id m4
  have k4 := k3.trans (hb4.mono k3.size)
  have z4 := hb4.size
  have HC4 := Lib.hid (HC3.out.below hb4 (Nat.le_refl _))
  have HQ4 := Lib.hid (HQ3.out.below hb4 HQ3.out.lt)
  clear HC3 HQ3
  clear hb4 k3
  clear HQ4 i3 r3
  have MS4 := Lib.hid m4; clear m4
  have t4 := (Below.refl w4.heap.size w4).alloc (Nat.le_refl _) (.cells #[.int .i8 RX, .slice A4 RN cap4] 29)
  have y4 : w4.heap.size < (w4.alloc (.cells #[.int .i8 RX, .slice A4 RN cap4] 29)).heap.size := by simp
  have kk4 := k4.trans (t4.mono k4.size)
  have HCv4 := Lib.hid (HC4.out.below t4 (Nat.le_refl _))
  have MSv4 := Lib.hid (MS4.out.below t4 (by omega))
  clear HC4 MS4
  have HSv4 := Lib.hid (show Bx (w4.alloc (.cells #[.int .i8 RX, .slice A4 RN cap4] 29)) w4.heap.size RX (.slice A4 RN cap4) from ⟨by simp, by simp⟩)
  clear t4 k4
  obtain ⟨e0, e1⟩ := HCv4.out
  go_wp2_with fail
  generalize (w4.alloc (.cells #[.int .i8 RX, .slice A4 RN cap4] 29)) = V4 at *
  refine (Hto.out _ (Hr.out.below kk4 (Nat.le_refl _))).mono ?_; rintro e w5 ⟨b5, rfl, q5, r5, hb5⟩
  clear e0 e1
  have k5 := kk4.trans (hb5.mono kk4.size)
  have z5 := hb5.size
  have HC5 := Lib.hid (HCv4.out.below hb5 (Nat.le_refl _))
  have HS5 := Lib.hid (HSv4.out.below hb5 (Nat.le_refl _))
  have MS5 := Lib.hid (MSv4.out.below hb5 (by omega))
  clear HCv4 HSv4 MSv4
  clear hb5 kk4
  have rl5 := r5.lt
  have HP5 := Lib.hid r5; clear r5
  have t5 := (Below.refl w5.heap.size w5).alloc (Nat.le_refl _) (.cells #[.int .i8 X, .slice (some ⟨b5, 0, none⟩) n n] 29)
  have y5 : w5.heap.size < (w5.alloc (.cells #[.int .i8 X, .slice (some ⟨b5, 0, none⟩) n n] 29)).heap.size := by simp
  have kk5 := k5.trans (t5.mono k5.size)
  have HCv5 := Lib.hid (HC5.out.below t5 (Nat.le_refl _))
  have HSv5 := Lib.hid (HS5.out.below t5 (Nat.le_refl _))
  have HPv5 := Lib.hid (HP5.out.below t5 HP5.out.lt)
  have MSv5 := Lib.hid (MS5.out.below t5 (by omega))
  clear HC5 HS5 HP5 MS5
  have HAv5 := Lib.hid (show Bx (w5.alloc (.cells #[.int .i8 X, .slice (some ⟨b5, 0, none⟩) n n] 29)) w5.heap.size X (.slice (some ⟨b5, 0, none⟩) n n) from ⟨by simp, by simp⟩)
  clear t5 k5
  go_wp2_with fail
  generalize (w5.alloc (.cells #[.int .i8 X, .slice (some ⟨b5, 0, none⟩) n n] 29)) = V5 at *
  refine (Hti.out _ (Hi.out.below kk5 (Nat.le_refl _))).mono ?_; rintro e w6 ⟨rfl, r6, hb6⟩
  have bl6 := r6.lt
  have k6 := kk5.trans (hb6.mono kk5.size)
  have z6 := hb6.size
  have HC6 := Lib.hid (HCv5.out.below hb6 (Nat.le_refl _))
  have HS6 := Lib.hid (HSv5.out.below hb6 (Nat.le_refl _))
  have HA6 := Lib.hid (HAv5.out.below hb6 (Nat.le_refl _))
  have HP6 := Lib.hid (HPv5.out.below hb6 HPv5.out.lt)
  have MS6 := Lib.hid (MSv5.out.below hb6 (by omega))
  clear HCv5 HSv5 HAv5 HPv5 MSv5
  clear hb6 kk5
  have HI6 := Lib.hid r6; clear r6
  obtain ⟨bi, hbi⟩ : ∃ bi, bi = V5.heap.size := ⟨_, rfl⟩
  rw [← hbi] at HI6 bl6 z6 ⊢
  have hbi1 : w5.heap.size < bi := by omega
  clear hbi
  obtain ⟨e0, e1⟩ := HA6.out
  go_wp2_with fail
  refine (Him.out _ _ _ HP6.out.prs (rowIs_ints HI6.out) (HE.out.below k6 (Nat.le_refl _))).mono ?_; rintro e w7 ⟨v7, rfl, m7, hb7⟩
  clear e0 e1
  obtain ⟨A7, cap7, rfl, _⟩ := id m7
  have k7 := k6.trans (hb7.mono k6.size)
  have z7 := hb7.size
  have HC7 := Lib.hid (HC6.out.below hb7 (Nat.le_refl _))
  have HS7 := Lib.hid (HS6.out.below hb7 (Nat.le_refl _))
  have HA7 := Lib.hid (HA6.out.below hb7 (Nat.le_refl _))
  have HP7 := Lib.hid (HP6.out.below hb7 HP6.out.lt)
  have HI7 := Lib.hid (rowIs_below HI6.out hb7 HI6.out.lt)
  have MS7 := Lib.hid (MS6.out.below hb7 (by omega))
  clear HC6 HS6 HA6 HP6 HI6 MS6
  clear hb7 k6
  have MR7 := Lib.hid m7; clear m7
  have t7 := (Below.refl w7.heap.size w7).alloc (Nat.le_refl _) (.cells #[.int .i8 RX, .slice A7 RN cap7] 29)
  have y7 : w7.heap.size < (w7.alloc (.cells #[.int .i8 RX, .slice A7 RN cap7] 29)).heap.size := by simp
  have kk7 := k7.trans (t7.mono k7.size)
  have HCv7 := Lib.hid (HC7.out.below t7 (Nat.le_refl _))
  have HSv7 := Lib.hid (HS7.out.below t7 (Nat.le_refl _))
  have HAv7 := Lib.hid (HA7.out.below t7 (Nat.le_refl _))
  have HPv7 := Lib.hid (HP7.out.below t7 HP7.out.lt)
  have HIv7 := Lib.hid (rowIs_below HI7.out t7 HI7.out.lt)
  have MSv7 := Lib.hid (MS7.out.below t7 (by omega))
  have MRv7 := Lib.hid (MR7.out.below t7 (by omega))
  clear HC7 HS7 HA7 HP7 HI7 MS7 MR7
  have HRv7 := Lib.hid (show Bx (w7.alloc (.cells #[.int .i8 RX, .slice A7 RN cap7] 29)) w7.heap.size RX (.slice A7 RN cap7) from ⟨by simp, by simp⟩)
  clear t7 k7
  obtain ⟨e0, e1⟩ := HRv7.out
  obtain ⟨e2, e3⟩ := HSv7.out
  go_wp2_with fail
  generalize (w7.alloc (.cells #[.int .i8 RX, .slice A7 RN cap7] 29)) = V7 at *
  refine (eqSheet_mine RX _ _ _ _ RN _ _ G hRN _ MRv7.out MSv7.out).mono ?_; rintro e w8 ⟨rfl, hb8⟩
  clear e0 e1 e2 e3
  have k8 := kk7.trans (hb8.mono kk7.size)
  have z8 := hb8.size
  have HC8 := Lib.hid (HCv7.out.below hb8 (Nat.le_refl _))
  have HS8 := Lib.hid (HSv7.out.below hb8 (Nat.le_refl _))
  have HA8 := Lib.hid (HAv7.out.below hb8 (Nat.le_refl _))
  have HR8 := Lib.hid (HRv7.out.below hb8 (Nat.le_refl _))
  have HP8 := Lib.hid (HPv7.out.below hb8 HPv7.out.lt)
  have HI8 := Lib.hid (rowIs_below HIv7.out hb8 HIv7.out.lt)
  have MS8 := Lib.hid (MSv7.out.below hb8 (by omega))
  have MR8 := Lib.hid (MRv7.out.below hb8 (by omega))
  clear HCv7 HSv7 HAv7 HRv7 HPv7 HIv7 MSv7 MRv7
  clear hb8 kk7
  obtain ⟨e0, e1⟩ := HA8.out
  obtain ⟨e2, e3⟩ := HC8.out
  go_wp2_with fail
  go_cut [56] from 52 to 56 (fun s56 wx => s56 = .bool false ∧ Below w8.heap.size w8 wx)
  case first =>
    go_region_with (first | (go_at_call 8; refine (Hto.out _ (Hr.out.below (k8.drew) (Nat.le_refl _))).mono ?_; rintro e wa ⟨ba, rfl, qa, ra, hba⟩; have f0 := below_cellOf hba (show w8.drew.cell? _ = _ from e0) (Nat.le_refl _); have f1 := below_cellOf hba (show w8.drew.cell? _ = _ from e1) (Nat.le_refl _)) | (go_at_call 10; refine (eqSheet_same X _ _ n _ _ g hn _ (HP8.out.prs.below ((below_drew1 w8).trans hba) (Nat.le_refl _)) ra.prs).mono ?_; rintro e wb ⟨rfl, hbb⟩))
    all_goals
      go_wp2_with fail
      go_meet
      exact ⟨rfl, ((below_drew1 w8).trans hba).trans (hbb.mono ((below_drew1 w8).trans hba).size)⟩
  obtain ⟨rfl, hb9⟩ := hcut
  clear e0 e1 e2 e3
  obtain ⟨w9, hwc⟩ : ∃ w9 : World, w9 = wc := ⟨_, rfl⟩
  rw [← hwc] at hb9 ⊢
  clear hwc
  have k9 := k8.trans (hb9.mono k8.size)
  have z9 := hb9.size
  have HC9 := Lib.hid (HC8.out.below hb9 (Nat.le_refl _))
  have HS9 := Lib.hid (HS8.out.below hb9 (Nat.le_refl _))
  have HA9 := Lib.hid (HA8.out.below hb9 (Nat.le_refl _))
  have HR9 := Lib.hid (HR8.out.below hb9 (Nat.le_refl _))
  have HP9 := Lib.hid (HP8.out.below hb9 HP8.out.lt)
  have HI9 := Lib.hid (rowIs_below HI8.out hb9 HI8.out.lt)
  have MS9 := Lib.hid (MS8.out.below hb9 (by omega))
  have MR9 := Lib.hid (MR8.out.below hb9 (by omega))
  clear HC8 HS8 HA8 HR8 HP8 HI8 MS8 MR8
  clear hb9 k8
  go_wp2_with fail
  refine (Hti.out _ (Hi.out.below k9 (Nat.le_refl _))).mono ?_; rintro e w10 ⟨rfl, r10, hb10⟩
  have k10 := k9.trans (hb10.mono k9.size)
  have z10 := hb10.size
  have HC10 := Lib.hid (HC9.out.below hb10 (Nat.le_refl _))
  have HS10 := Lib.hid (HS9.out.below hb10 (Nat.le_refl _))
  have HA10 := Lib.hid (HA9.out.below hb10 (Nat.le_refl _))
  have HR10 := Lib.hid (HR9.out.below hb10 (Nat.le_refl _))
  have HP10 := Lib.hid (HP9.out.below hb10 HP9.out.lt)
  have HI10 := Lib.hid (rowIs_below HI9.out hb10 HI9.out.lt)
  have MS10 := Lib.hid (MS9.out.below hb10 (by omega))
  have MR10 := Lib.hid (MR9.out.below hb10 (by omega))
  clear HC9 HS9 HA9 HR9 HP9 HI9 MS9 MR9
  clear hb10 k9
  go_wp2_with fail
  refine (eqInt64S_same _ _ m _ _ xs hmn _ HI10.out r10).mono ?_; rintro e w11 ⟨rfl, hb11⟩
  clear r10
  have k11 := k10.trans (hb11.mono k10.size)
  have z11 := hb11.size
  have HC11 := Lib.hid (HC10.out.below hb11 (Nat.le_refl _))
  have HS11 := Lib.hid (HS10.out.below hb11 (Nat.le_refl _))
  have HA11 := Lib.hid (HA10.out.below hb11 (Nat.le_refl _))
  have HR11 := Lib.hid (HR10.out.below hb11 (Nat.le_refl _))
  have HP11 := Lib.hid (HP10.out.below hb11 HP10.out.lt)
  have HI11 := Lib.hid (rowIs_below HI10.out hb11 HI10.out.lt)
  have MS11 := Lib.hid (MS10.out.below hb11 (by omega))
  have MR11 := Lib.hid (MR10.out.below hb11 (by omega))
  clear HC10 HS10 HA10 HR10 HP10 HI10 MS10 MR10
  clear hb11 k10
  have mx := HP11.out.mine n; clear HP11
  obtain ⟨e0, e1⟩ := HA11.out
  go_wp2_with fail
  refine (markSheet_mine X _ _ n _ _ 1 (by omega) (by omega) hn _ (by omega) mx).mono ?_; rintro e w12 ⟨rfl, m12, ho12⟩
  clear e0 e1
  have k12 := k11.trans ((ho12.below (by omega)).mono (by omega))
  have z12 := ho12.size
  have HC12 := Lib.hid (HC11.out.only ho12 (by omega))
  have HS12 := Lib.hid (HS11.out.only ho12 (by omega))
  have HA12 := Lib.hid (HA11.out.only ho12 (by omega))
  have HR12 := Lib.hid (HR11.out.only ho12 (by omega))
  have HI12 := Lib.hid (rowIs_only HI11.out ho12 (by omega))
  have MS12 := Lib.hid (MS11.out.only ho12 (by omega))
  have MR12 := Lib.hid (MR11.out.only ho12 (by omega))
  clear HC11 HS11 HA11 HR11 HI11 MS11 MR11 k11 m12 ho12
  have mi := mine_of_ints (cap := m) HI12.out; clear HI12
  go_wp2_with fail
  refine (markInt64S_mine _ _ m _ _ (1 + 64 * (n : Int)) (by omega) (by omega) hmn _ mi).mono ?_; rintro e w13 ⟨rfl, m13, ho13⟩
  have k13 := k12.trans ((ho13.below (by omega)).mono (by omega))
  have z13 := ho13.size
  have HC13 := Lib.hid (HC12.out.only ho13 (by omega))
  have HS13 := Lib.hid (HS12.out.only ho13 (by omega))
  have HA13 := Lib.hid (HA12.out.only ho13 (by omega))
  have HR13 := Lib.hid (HR12.out.only ho13 (by omega))
  have MS13 := Lib.hid (MS12.out.only ho13 (by omega))
  have MR13 := Lib.hid (MR12.out.only ho13 (by omega))
  clear HC12 HS12 HA12 HR12 MS12 MR12 k12 m13 ho13
  have hk1 : ¬ (1 + 64 * (n : Int) + (m : Int) < 0) := by omega
  obtain ⟨e0, e1⟩ := HR13.out
  obtain ⟨e2, e3⟩ := HS13.out
  go_wp2_with fail
  refine (eqSheet_mine RX _ _ _ _ RN _ _ G hRN _ MR13.out MS13.out).mono ?_; rintro e w14 ⟨rfl, hb14⟩
  clear e0 e1 e2 e3
  clear hk1
  have k14 := k13.trans (hb14.mono k13.size)
  have z14 := hb14.size
  have HC14 := Lib.hid (HC13.out.below hb14 (Nat.le_refl _))
  have HS14 := Lib.hid (HS13.out.below hb14 (Nat.le_refl _))
  have HA14 := Lib.hid (HA13.out.below hb14 (Nat.le_refl _))
  have HR14 := Lib.hid (HR13.out.below hb14 (Nat.le_refl _))
  have MS14 := Lib.hid (MS13.out.below hb14 (by omega))
  have MR14 := Lib.hid (MR13.out.below hb14 (by omega))
  clear HC13 HS13 HA13 HR13 MS13 MR13
  clear hb14 k13
  obtain ⟨e0, e1⟩ := HR14.out
  go_wp2_with fail
  refine (markSheet_mine RX _ _ RN _ _ 1 (by omega) (by omega) hRN _ (by omega) MR14.out).mono ?_; rintro e w15 ⟨rfl, m15, ho15⟩
  clear e0 e1
  have k15 := k14.trans ((ho15.below (by omega)).mono (by omega))
  have z15 := ho15.size
  have HC15 := Lib.hid (HC14.out.only ho15 (by omega))
  have HS15 := Lib.hid (HS14.out.only ho15 (by omega))
  have HA15 := Lib.hid (HA14.out.only ho15 (by omega))
  have HR15 := Lib.hid (HR14.out.only ho15 (by omega))
  have MS15 := Lib.hid (MS14.out.only ho15 (by omega))
  have MR15 := Lib.hid m15
  clear HC14 HS14 HA14 HR14 MS14 MR14 k14 m15 ho15
  obtain ⟨e0, e1⟩ := HR15.out
  go_wp2_with fail
  refine (heldSheet_mine RX _ _ RN _ 1 (by omega) (by omega) hRN _ (by omega) MR15.out).mono ?_; rintro e w16 ⟨rfl, hb16⟩
  clear e0 e1
  have k16 := k15.trans (hb16.mono k15.size)
  have z16 := hb16.size
  have HC16 := Lib.hid (HC15.out.below hb16 (Nat.le_refl _))
  have HS16 := Lib.hid (HS15.out.below hb16 (Nat.le_refl _))
  have HA16 := Lib.hid (HA15.out.below hb16 (Nat.le_refl _))
  have HR16 := Lib.hid (HR15.out.below hb16 (Nat.le_refl _))
  have MS16 := Lib.hid (MS15.out.below hb16 (by omega))
  have MR16 := Lib.hid (MR15.out.below hb16 (by omega))
  clear HC15 HS15 HA15 HR15 MS15 MR15
  clear hb16 k15
  have hk2 : ¬ (1 + 64 * (RN : Int) < 0) := by omega
  obtain ⟨e0, e1⟩ := HC16.out
  go_wp2_with fail
  refine (Hto.out _ (Hr.out.below k16 (Nat.le_refl _))).mono ?_; rintro e w17 ⟨b17, rfl, q17, r17, hb17⟩
  clear e0 e1
  have k17 := k16.trans (hb17.mono k16.size)
  have z17 := hb17.size
  have HC17 := Lib.hid (HC16.out.below hb17 (Nat.le_refl _))
  have HS17 := Lib.hid (HS16.out.below hb17 (Nat.le_refl _))
  have HA17 := Lib.hid (HA16.out.below hb17 (Nat.le_refl _))
  have HR17 := Lib.hid (HR16.out.below hb17 (Nat.le_refl _))
  have MS17 := Lib.hid (MS16.out.below hb17 (by omega))
  have MR17 := Lib.hid (MR16.out.below hb17 (by omega))
  clear HC16 HS16 HA16 HR16 MS16 MR16
  clear hb17 k16
  have HQ17 := Lib.hid r17; clear r17 q17
  go_wp2_with fail
  refine (Hti.out _ (Hi.out.below k17 (Nat.le_refl _))).mono ?_; rintro e w18 ⟨rfl, r18, hb18⟩
  have k18 := k17.trans (hb18.mono k17.size)
  have z18 := hb18.size
  have HC18 := Lib.hid (HC17.out.below hb18 (Nat.le_refl _))
  have HS18 := Lib.hid (HS17.out.below hb18 (Nat.le_refl _))
  have HA18 := Lib.hid (HA17.out.below hb18 (Nat.le_refl _))
  have HR18 := Lib.hid (HR17.out.below hb18 (Nat.le_refl _))
  have HQ18 := Lib.hid (HQ17.out.below hb18 HQ17.out.lt)
  have MS18 := Lib.hid (MS17.out.below hb18 (by omega))
  have MR18 := Lib.hid (MR17.out.below hb18 (by omega))
  clear HC17 HS17 HA17 HR17 HQ17 MS17 MR17
  clear hb18 k17
  go_wp2_with fail
  refine (Him.out _ _ _ HQ18.out.prs (rowIs_ints r18) (HE.out.below k18 (Nat.le_refl _))).mono ?_; rintro e w19 ⟨v19, rfl, m19, hb19⟩
  obtain ⟨A19, cap19, rfl, _⟩ := id m19
  clear r18
  have k19 := k18.trans (hb19.mono k18.size)
  have z19 := hb19.size
  have HC19 := Lib.hid (HC18.out.below hb19 (Nat.le_refl _))
  have HS19 := Lib.hid (HS18.out.below hb19 (Nat.le_refl _))
  have HA19 := Lib.hid (HA18.out.below hb19 (Nat.le_refl _))
  have HR19 := Lib.hid (HR18.out.below hb19 (Nat.le_refl _))
  have HQ19 := Lib.hid (HQ18.out.below hb19 HQ18.out.lt)
  have MS19 := Lib.hid (MS18.out.below hb19 (by omega))
  have MR19 := Lib.hid (MR18.out.below hb19 (by omega))
  clear HC18 HS18 HA18 HR18 HQ18 MS18 MR18
  clear hb19 k18
  clear HQ19
  have M219 := Lib.hid m19; clear m19
  have t19 := (Below.refl w19.heap.size w19).alloc (Nat.le_refl _) (.cells #[.int .i8 RX, .slice A19 RN cap19] 29)
  have y19 : w19.heap.size < (w19.alloc (.cells #[.int .i8 RX, .slice A19 RN cap19] 29)).heap.size := by simp
  have kk19 := k19.trans (t19.mono k19.size)
  have HCv19 := Lib.hid (HC19.out.below t19 (Nat.le_refl _))
  have HSv19 := Lib.hid (HS19.out.below t19 (Nat.le_refl _))
  have HAv19 := Lib.hid (HA19.out.below t19 (Nat.le_refl _))
  have HRv19 := Lib.hid (HR19.out.below t19 (Nat.le_refl _))
  have MSv19 := Lib.hid (MS19.out.below t19 (by omega))
  have MRv19 := Lib.hid (MR19.out.below t19 (by omega))
  have M2v19 := Lib.hid (M219.out.below t19 (by omega))
  clear HC19 HS19 HA19 HR19 MS19 MR19 M219
  have HTv19 := Lib.hid (show Bx (w19.alloc (.cells #[.int .i8 RX, .slice A19 RN cap19] 29)) w19.heap.size RX (.slice A19 RN cap19) from ⟨by simp, by simp⟩)
  clear t19 k19
  obtain ⟨e0, e1⟩ := HTv19.out
  obtain ⟨e2, e3⟩ := HSv19.out
  go_wp2_with fail
  generalize (w19.alloc (.cells #[.int .i8 RX, .slice A19 RN cap19] 29)) = V19 at *
  refine (eqSheet_mine RX _ _ _ _ RN _ _ G hRN _ M2v19.out MSv19.out).mono ?_; rintro e w20 ⟨rfl, hb20⟩
  clear e0 e1 e2 e3
  have k20 := kk19.trans (hb20.mono kk19.size)
  have z20 := hb20.size
  have HC20 := Lib.hid (HCv19.out.below hb20 (Nat.le_refl _))
  have HS20 := Lib.hid (HSv19.out.below hb20 (Nat.le_refl _))
  have HA20 := Lib.hid (HAv19.out.below hb20 (Nat.le_refl _))
  have HR20 := Lib.hid (HRv19.out.below hb20 (Nat.le_refl _))
  have HT20 := Lib.hid (HTv19.out.below hb20 (Nat.le_refl _))
  have MS20 := Lib.hid (MSv19.out.below hb20 (by omega))
  have MR20 := Lib.hid (MRv19.out.below hb20 (by omega))
  have M220 := Lib.hid (M2v19.out.below hb20 (by omega))
  clear HCv19 HSv19 HAv19 HRv19 HTv19 MSv19 MRv19 M2v19
  clear hb20 kk19
  obtain ⟨e0, e1⟩ := HR20.out
  go_wp2_with fail
  refine (heldSheet_mine RX _ _ RN _ 1 (by omega) (by omega) hRN _ (by omega) MR20.out).mono ?_; rintro e w21 ⟨rfl, hb21⟩
  clear e0 e1
  have k21 := k20.trans (hb21.mono k20.size)
  have z21 := hb21.size
  have HC21 := Lib.hid (HC20.out.below hb21 (Nat.le_refl _))
  have HS21 := Lib.hid (HS20.out.below hb21 (Nat.le_refl _))
  have HA21 := Lib.hid (HA20.out.below hb21 (Nat.le_refl _))
  have HR21 := Lib.hid (HR20.out.below hb21 (Nat.le_refl _))
  have HT21 := Lib.hid (HT20.out.below hb21 (Nat.le_refl _))
  have MS21 := Lib.hid (MS20.out.below hb21 (by omega))
  have MR21 := Lib.hid (MR20.out.below hb21 (by omega))
  have M221 := Lib.hid (M220.out.below hb21 (by omega))
  clear HC20 HS20 HA20 HR20 HT20 MS20 MR20 M220
  clear hb21 k20
  go_wp2_with fail
  go_ret
  exact ⟨rfl, k21⟩
end Go.Proofs.YtfjjbmiocomelaaDoor
