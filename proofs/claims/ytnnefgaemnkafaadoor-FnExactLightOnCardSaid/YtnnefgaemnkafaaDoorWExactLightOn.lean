/-
  The walk of the law FnExactLightOn: it returns true for every argument. Condition: the listed variables hold what the row lists.
-/
import Derived.Test.YtnnefgaemnkafaaDoorOpenSt
import Derived.Test.YtnnefgaemnkafaaDoorLightI2
import Derived.Test.YtnnefgaemnkafaaDoorEnv
import Derived.Test.YtnnefgaemnkafaaDoorRows
namespace Go.Proofs.YtnnefgaemnkafaaDoor
open Go.RowKit

set_option maxRecDepth 100000 in
set_option maxHeartbeats 2000000 in
theorem walk_FnExactLightOn (A0 : Option Addr) (n0 cap0 : Nat) (fs0 es0 : Nat → Int) (w : World) (hL : laidMetH Tryd.prog Rows.fnExactLightOnRow.laid w) (hr0 : StsIn w A0 n0 fs0 es0) (hm0 : n0 ≤ maxLen) (hs0 : SmallS n0 fs0 es0) :
    Calls Tryd.prog 7 #[.slice A0 n0 cap0] w fun e w' => e = .returned (.bool true) ∧ Below w.heap.size w w' := by
  obtain ⟨s, hE⟩ := errEnv_of_row hL (by kernel_rfl) (by kernel_rfl)
  have hT := timEnv_of_row hL (by kernel_rfl) (by kernel_rfl)
  unfold maxLen at hm0
  by_cases hn0 : n0 ≤ 1048576
  rotate_left
  · clear hr0
    have hz0 := szStepS_any A0 n0 cap0 (1048576) (by omega) (by omega) hm0
    rw [if_neg (by omega)] at hz0
    have Hz0 := Lib.hid hz0; clear hz0
    go_enter Tryd.func7, Tryd.ntmps7
    go_wp2_with fail
    refine (Hz0.out _).mono ?_; rintro e z0 ⟨rfl, rfl⟩
    go_wp2
    go_ret
    exact ⟨rfl, Below.refl _ _⟩
  have hz0 := szStepS_any A0 n0 cap0 (1048576) (by omega) (by omega) hm0
  rw [if_pos (by omega)] at hz0
  have Hz0 := Lib.hid hz0; clear hz0
  have hsp := fun b0 (W : World) hW0 => specLightOn_any b0 n0 n0 fs0 es0 hn0 hs0 W hW0
  have him := fun b0 (W : World) hW0 hEW hTW => LightOn_any s b0 n0 n0 fs0 es0 hn0 hs0 W hW0 hEW hTW
  generalize mirC n0 es0 = C at hsp him
  generalize lgtV n0 fs0 es0 = F at hsp him
  have Hsp := Lib.hid hsp; clear hsp
  have Him := Lib.hid him; clear him
  have HE := Lib.hid hE; clear hE hL
  have HT := Lib.hid hT; clear hT
  have Hr0 := Lib.hid hr0; clear hr0
  have k0 := Below.refl w.heap.size w
  go_enter Tryd.func7, Tryd.ntmps7
  go_wp2_with fail
  refine (Hz0.out _).mono ?_; rintro e z0 ⟨rfl, rfl⟩
  go_wp2_with fail
  refine (toStepS_any A0 n0 cap0 fs0 es0 hn0 _ Hr0.out).mono ?_; rintro e w1 ⟨rfl, ra0, k1⟩
  go_wp2_with fail
  refine (Hsp.out _ _ ra0).mono ?_; rintro e w2 ⟨rfl, hb2⟩
  have k2 := k1.trans (hb2.mono k1.size)
  clear ra0 hb2
  have z2 := k2.size
  have a2 := HasArr.zeroI w2 (b := w2.heap.size) rfl
  have r2 := a2.setRow .i64 F
  have k2' := below_setRow (k2.alloc z2 (.cells #[.int .i64 0, .int .i64 0, .int .i64 0, .int .i64 0, .int .i64 0, .int .i64 0, .int .i64 0, .int .i64 0, .int .i64 0, .int .i64 0, .int .i64 0, .int .i64 0, .int .i64 0, .int .i64 0, .int .i64 0, .int .i64 0, .int .i64 0, .int .i64 0, .int .i64 0, .int .i64 0, .int .i64 0, .int .i64 0, .int .i64 0, .int .i64 0, .int .i64 0, .int .i64 0, .int .i64 0, .int .i64 0, .int .i64 0, .int .i64 0, .int .i64 0, .int .i64 0, .int .i64 0, .int .i64 0, .int .i64 0, .int .i64 0, .int .i64 0, .int .i64 0, .int .i64 0, .int .i64 0, .int .i64 0, .int .i64 0, .int .i64 0, .int .i64 0, .int .i64 0, .int .i64 0, .int .i64 0, .int .i64 0, .int .i64 0, .int .i64 0, .int .i64 0, .int .i64 0, .int .i64 0, .int .i64 0, .int .i64 0, .int .i64 0, .int .i64 0, .int .i64 0, .int .i64 0, .int .i64 0, .int .i64 0, .int .i64 0, .int .i64 0, .int .i64 0] 34)) (b := w2.heap.size) z2 (arrV .i64 64 F)
  obtain ⟨v2, hv2⟩ : ∃ x : World, x = (w2.alloc (.cells #[.int .i64 0, .int .i64 0, .int .i64 0, .int .i64 0, .int .i64 0, .int .i64 0, .int .i64 0, .int .i64 0, .int .i64 0, .int .i64 0, .int .i64 0, .int .i64 0, .int .i64 0, .int .i64 0, .int .i64 0, .int .i64 0, .int .i64 0, .int .i64 0, .int .i64 0, .int .i64 0, .int .i64 0, .int .i64 0, .int .i64 0, .int .i64 0, .int .i64 0, .int .i64 0, .int .i64 0, .int .i64 0, .int .i64 0, .int .i64 0, .int .i64 0, .int .i64 0, .int .i64 0, .int .i64 0, .int .i64 0, .int .i64 0, .int .i64 0, .int .i64 0, .int .i64 0, .int .i64 0, .int .i64 0, .int .i64 0, .int .i64 0, .int .i64 0, .int .i64 0, .int .i64 0, .int .i64 0, .int .i64 0, .int .i64 0, .int .i64 0, .int .i64 0, .int .i64 0, .int .i64 0, .int .i64 0, .int .i64 0, .int .i64 0, .int .i64 0, .int .i64 0, .int .i64 0, .int .i64 0, .int .i64 0, .int .i64 0, .int .i64 0, .int .i64 0] 34)).setRow w2.heap.size (arrV .i64 64 F) := ⟨_, rfl⟩
  rw [← hv2] at r2 k2'
  go_wp2_with (refine wpList_store_arr a2 _ _ _ rfl rfl rfl rfl sizeI64 ?_)
  rw [← hv2]
  clear hv2 a2 k2
  refine (toStepS_any A0 n0 cap0 fs0 es0 hn0 _ (Hr0.out.below k2' (Nat.le_refl _))).mono ?_; rintro e w3 ⟨rfl, rb0, hb3⟩
  have k3 := k2'.trans (hb3.mono k2'.size)
  have r3 := r2.below hb3 r2.lt
  have zb := r2.lt
  have rl := rb0.lt
  clear hb3 r2
  go_wp2_with fail
  refine (Him.out _ _ rb0 (HE.out.below k3 (Nat.le_refl _)) (HT.out.below k3 (Nat.le_refl _))).mono ?_; rintro e w4 ⟨rfl, hb4⟩
  have k4 := k3.trans (hb4.mono k3.size)
  have r4 := r3.below hb4 r3.lt
  have rb0 := rb0.below hb4 rl
  clear hb4 r3
  have z4 := k4.size
  have rbl := rb0.lt
  have rrl := r4.lt
  have a4 := HasArr.zeroI w4 (b := w4.heap.size) rfl
  have q4 := a4.setRow .i64 F
  have r5 := (r4.alloc (.cells #[.int .i64 0, .int .i64 0, .int .i64 0, .int .i64 0, .int .i64 0, .int .i64 0, .int .i64 0, .int .i64 0, .int .i64 0, .int .i64 0, .int .i64 0, .int .i64 0, .int .i64 0, .int .i64 0, .int .i64 0, .int .i64 0, .int .i64 0, .int .i64 0, .int .i64 0, .int .i64 0, .int .i64 0, .int .i64 0, .int .i64 0, .int .i64 0, .int .i64 0, .int .i64 0, .int .i64 0, .int .i64 0, .int .i64 0, .int .i64 0, .int .i64 0, .int .i64 0, .int .i64 0, .int .i64 0, .int .i64 0, .int .i64 0, .int .i64 0, .int .i64 0, .int .i64 0, .int .i64 0, .int .i64 0, .int .i64 0, .int .i64 0, .int .i64 0, .int .i64 0, .int .i64 0, .int .i64 0, .int .i64 0, .int .i64 0, .int .i64 0, .int .i64 0, .int .i64 0, .int .i64 0, .int .i64 0, .int .i64 0, .int .i64 0, .int .i64 0, .int .i64 0, .int .i64 0, .int .i64 0, .int .i64 0, .int .i64 0, .int .i64 0, .int .i64 0] 34)).rowOther (b' := w4.heap.size) (by omega) (arrV .i64 64 F)
  have kk := below_setRow (k4.alloc z4 (.cells #[.int .i64 0, .int .i64 0, .int .i64 0, .int .i64 0, .int .i64 0, .int .i64 0, .int .i64 0, .int .i64 0, .int .i64 0, .int .i64 0, .int .i64 0, .int .i64 0, .int .i64 0, .int .i64 0, .int .i64 0, .int .i64 0, .int .i64 0, .int .i64 0, .int .i64 0, .int .i64 0, .int .i64 0, .int .i64 0, .int .i64 0, .int .i64 0, .int .i64 0, .int .i64 0, .int .i64 0, .int .i64 0, .int .i64 0, .int .i64 0, .int .i64 0, .int .i64 0, .int .i64 0, .int .i64 0, .int .i64 0, .int .i64 0, .int .i64 0, .int .i64 0, .int .i64 0, .int .i64 0, .int .i64 0, .int .i64 0, .int .i64 0, .int .i64 0, .int .i64 0, .int .i64 0, .int .i64 0, .int .i64 0, .int .i64 0, .int .i64 0, .int .i64 0, .int .i64 0, .int .i64 0, .int .i64 0, .int .i64 0, .int .i64 0, .int .i64 0, .int .i64 0, .int .i64 0, .int .i64 0, .int .i64 0, .int .i64 0, .int .i64 0, .int .i64 0] 34)) (b := w4.heap.size) z4 (arrV .i64 64 F)
  have kb := below_setRow ((Below.refl w4.heap.size w4).alloc (Nat.le_refl _) (.cells #[.int .i64 0, .int .i64 0, .int .i64 0, .int .i64 0, .int .i64 0, .int .i64 0, .int .i64 0, .int .i64 0, .int .i64 0, .int .i64 0, .int .i64 0, .int .i64 0, .int .i64 0, .int .i64 0, .int .i64 0, .int .i64 0, .int .i64 0, .int .i64 0, .int .i64 0, .int .i64 0, .int .i64 0, .int .i64 0, .int .i64 0, .int .i64 0, .int .i64 0, .int .i64 0, .int .i64 0, .int .i64 0, .int .i64 0, .int .i64 0, .int .i64 0, .int .i64 0, .int .i64 0, .int .i64 0, .int .i64 0, .int .i64 0, .int .i64 0, .int .i64 0, .int .i64 0, .int .i64 0, .int .i64 0, .int .i64 0, .int .i64 0, .int .i64 0, .int .i64 0, .int .i64 0, .int .i64 0, .int .i64 0, .int .i64 0, .int .i64 0, .int .i64 0, .int .i64 0, .int .i64 0, .int .i64 0, .int .i64 0, .int .i64 0, .int .i64 0, .int .i64 0, .int .i64 0, .int .i64 0, .int .i64 0, .int .i64 0, .int .i64 0, .int .i64 0] 34)) (b := w4.heap.size) (Nat.le_refl _) (arrV .i64 64 F)
  have rb0 := rb0.below kb rbl
  obtain ⟨v4, hv4⟩ : ∃ x : World, x = (w4.alloc (.cells #[.int .i64 0, .int .i64 0, .int .i64 0, .int .i64 0, .int .i64 0, .int .i64 0, .int .i64 0, .int .i64 0, .int .i64 0, .int .i64 0, .int .i64 0, .int .i64 0, .int .i64 0, .int .i64 0, .int .i64 0, .int .i64 0, .int .i64 0, .int .i64 0, .int .i64 0, .int .i64 0, .int .i64 0, .int .i64 0, .int .i64 0, .int .i64 0, .int .i64 0, .int .i64 0, .int .i64 0, .int .i64 0, .int .i64 0, .int .i64 0, .int .i64 0, .int .i64 0, .int .i64 0, .int .i64 0, .int .i64 0, .int .i64 0, .int .i64 0, .int .i64 0, .int .i64 0, .int .i64 0, .int .i64 0, .int .i64 0, .int .i64 0, .int .i64 0, .int .i64 0, .int .i64 0, .int .i64 0, .int .i64 0, .int .i64 0, .int .i64 0, .int .i64 0, .int .i64 0, .int .i64 0, .int .i64 0, .int .i64 0, .int .i64 0, .int .i64 0, .int .i64 0, .int .i64 0, .int .i64 0, .int .i64 0, .int .i64 0, .int .i64 0, .int .i64 0] 34)).setRow w4.heap.size (arrV .i64 64 F) := ⟨_, rfl⟩
  rw [← hv4] at q4 r5 kk rb0
  clear r4 k4 kb
  have Q4 := Lib.hid q4; clear q4
  have R5 := Lib.hid r5; clear r5
  go_wp2_with (first | (refine wpList_store_arr a4 _ _ _ rfl rfl rfl rfl sizeI64 ?_; rw [← hv4]; clear hv4 a4) | (refine wpList_load_arr Q4.out _ _ rfl rfl rfl Tryd.underlying34 sizeI64 ?_) | (refine wpList_load_arr R5.out _ _ rfl rfl rfl Tryd.underlying34 sizeI64 ?_))
  refine (eqA64_same F _).mono ?_; rintro e w5 ⟨rfl, hb5⟩
  have k5 := kk.trans (hb5.mono kk.size)
  have rb0 := rb0.below hb5 rb0.lt
  clear hb5 Q4 R5
  go_wp2_with fail
  refine (toStepS_any A0 n0 cap0 fs0 es0 hn0 _ (Hr0.out.below k5 (Nat.le_refl _))).mono ?_; rintro e w6 ⟨rfl, rc0, hb6⟩
  have k6 := k5.trans (hb6.mono k5.size)
  have rb0 := rb0.below hb6 rb0.lt
  go_wp2_with fail
  refine (eqStepS_same _ _ n0 n0 n0 fs0 es0 hn0 _ rb0 rc0).mono ?_; rintro e w7 ⟨rfl, hb7⟩
  have k7 := k6.trans (hb7.mono k6.size)
  go_wp2_with fail
  go_ret
  exact ⟨rfl, k7⟩
end Go.Proofs.YtnnefgaemnkafaaDoor
