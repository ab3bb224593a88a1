/-
  The walk of the law FnContrast: it returns true for all bytes. Condition: the listed variables hold what the row lists.
-/
import Derived.Test.YtmphmpddlgcofaaDoorScDraw
import Derived.Test.YtmphmpddlgcofaaDoorFldB
import Derived.Test.YtmphmpddlgcofaaDoorPlcI
import Derived.Test.YtmphmpddlgcofaaDoorOwn
import Derived.Test.YtmphmpddlgcofaaDoorEnv
namespace Go.Proofs.YtmphmpddlgcofaaDoor
open Go.RowKit

theorem r60_scn {f : Nat → Int} (h : R60 f) : scnB f = true := scnB_iff.2 fun k hk => inB_true.2 (h k hk)
theorem r60_s8 {f : Nat → Int} (h : R60 f) : S8 f := fun k hk => by have := h k hk; omega
theorem ct_zero {f : Nat → Int} {M N : Nat} (h : scnB f = true) (hM : M < 16777216) (hN : N < 16777216) (h0 : M = 0 ∨ N = 0) :
    frC f M N = 4 ∧ brV f M N = 0 ∧ frC f N M = 4 ∧ brV f N M = 0 ∧ dvC f M N = 4 ∧ dvV f M N = 0 := by
  have e1 : frC f M N = 4 ∧ frC f N M = 4 := by
    unfold frC
    by_cases a : M = 0
    · rw [fm_4 h a]
      by_cases b : N = 0
      · rw [fm_4 h b]; simp
      · rw [fm_0 h hN b]; simp
    · have b : N = 0 := by omega
      rw [fm_4 h b, fm_0 h hM a]; simp
  have e2 : dvC f M N = 4 := by unfold dvC; rw [e1.1]; simp
  refine ⟨e1.1, ?_, e1.2, ?_, e2, ?_⟩
  · unfold brV; rw [e1.1]; rfl
  · unfold brV; rw [e1.2]; rfl
  · unfold dvV; rw [e2]; rfl
theorem ct_full {f : Nat → Int} {M N : Nat} (h : scnB f = true) (hM : M < 16777216) (hN : N < 16777216) (a : M ≠ 0) (b : N ≠ 0) :
    fmC f M = 0 ∧ fmC f N = 0 ∧ frC f M N = 0 ∧ brV f M N = cmpZ (fmV f M) (fmV f N) ∧ frC f N M = 0 ∧ brV f N M = cmpZ (fmV f N) (fmV f M) ∧
      dvC f M N = (if fmV f N < fmV f M then 4 else 0) ∧ dvV f M N = (if fmV f N < fmV f M then 0 else 5 - (fmV f N - fmV f M + 1) / 3) := by
  have e1 := fm_0 h hM a
  have e2 := fm_0 h hN b
  have e3 : frC f M N = 0 := by unfold frC; rw [e1, e2]; rfl
  have e4 : frC f N M = 0 := by unfold frC; rw [e1, e2]; rfl
  have e5 : dvC f M N = (if fmV f N < fmV f M then 4 else 0) := by unfold dvC; rw [e3]; rfl
  refine ⟨e1, e2, e3, ?_, e4, ?_, e5, ?_⟩
  · unfold brV; rw [e3]; rfl
  · unfold brV; rw [e4]; rfl
  · unfold dvV; rw [e5]
    by_cases h : fmV f N < fmV f M
    · rw [if_pos h, if_pos h]; rfl
    · rw [if_neg h, if_neg h]; rfl
/-- What the calls answer when both fields have a cell. -/
theorem ct_ways {f : Nat → Int} {M N : Nat} (h : scnB f = true) (hM : M < 16777216) (hN : N < 16777216) (a : M ≠ 0) (b : N ≠ 0) :
    ∃ X Y U V C D Z, fmV f M = X ∧ fmV f N = Y ∧ (0 ≤ X ∧ X ≤ 60) ∧ (0 ≤ Y ∧ Y ≤ 60) ∧ fmC f M = 0 ∧ fmC f N = 0 ∧ frC f M N = 0 ∧ frC f N M = 0 ∧ brV f M N = U ∧ brV f N M = V ∧ dvC f M N = C ∧ dvV f M N = D ∧
      zonC X 3 Y = 0 ∧ zonZ X 3 Y = Z ∧ (-30 ≤ Z ∧ Z ≤ 40) ∧
      ((X < Y ∧ (U ≤ -1 ∧ -1 ≤ U) ∧ V = -U ∧ C = 0 ∧ D = 8 - Z) ∨ ((X ≤ Y ∧ Y ≤ X) ∧ (U ≤ 0 ∧ 0 ≤ U) ∧ V = -U ∧ C = 0 ∧ D = 8 - Z) ∨ (Y < X ∧ (U ≤ 1 ∧ 1 ≤ U) ∧ V = -U ∧ C = 4 ∧ D = 0)) := by
  obtain ⟨e1, e2, e3, e4, e5, e6, e7, e8⟩ := ct_full h hM hN a b
  have b1 := fmV_60 (f := f) (M := M)
  have b2 := fmV_60 (f := f) (M := N)
  have hz : zonC (fmV f M) 3 (fmV f N) = 0 := by
    unfold zonC plcB
    rw [inB_true.2 b1, inB_true.2 b2]; rfl
  refine ⟨fmV f M, fmV f N, _, _, _, _, zonZ (fmV f M) 3 (fmV f N), rfl, rfl, b1, b2, e1, e2, e3, e5, e4, e6, e7, e8, hz, rfl, by unfold zonZ; omega, ?_⟩
  generalize fmV f M = X at *
  generalize fmV f N = Y at *
  unfold cmpZ zonZ
  rcases Int.lt_trichotomy X Y with h | h | h
  · exact .inl ⟨h, by rw [if_pos h]; omega, by rw [if_neg (by omega), if_pos h, if_pos h]; rfl, by rw [if_neg (by omega)], by rw [if_neg (by omega)]; omega⟩
  · exact .inr (.inl ⟨⟨by omega, by omega⟩, by rw [if_neg (by omega), if_neg (by omega)]; omega, by rw [if_neg (by omega), if_neg (by omega), if_neg (by omega), if_neg (by omega)]; rfl, by rw [if_neg (by omega)], by rw [if_neg (by omega)]; omega⟩)
  · exact .inr (.inr ⟨h, by rw [if_neg (by omega), if_pos h]; omega, by rw [if_pos h, if_neg (by omega), if_pos h], by rw [if_pos h], by rw [if_pos h]⟩)

theorem ahead3_bd {bs : Nat → Int} {n : Nat} (h : ∀ j, j < n → 0 ≤ bs j ∧ bs j ≤ 255) : ∀ j, j < n + 1 → 0 ≤ ahead3 bs j ∧ ahead3 bs j ≤ 255 := fun j hj => by
  unfold ahead3
  split
  · omega
  · exact h _ (by omega)

set_option maxRecDepth 100000 in
set_option maxHeartbeats 4000000 in
theorem walk_FnContrast (A : Option Addr) (n cap : Nat) (bs : Nat → Int) (A' : Option Addr) (n' cap' : Nat) (bs' : Nat → Int) (w : World) (hL : laidMetH Tryd.prog Rows.fnContrastRow.laid w)
    (hr : BytesIn w A n bs) (hm : n ≤ maxLen) (hbs : ∀ j, j < n → 0 ≤ bs j ∧ bs j ≤ 255) (hr' : BytesIn w A' n' bs') (hm' : n' ≤ maxLen) (hbs' : ∀ j, j < n' → 0 ≤ bs' j ∧ bs' j ≤ 255) (hcap' : A' = none → cap' = 0) :
    Calls Tryd.prog 7 #[.slice A n cap, .slice A' n' cap'] w fun e w' => e = .returned (.bool true) ∧ Below w.heap.size w w' := by
  obtain ⟨s, hE⟩ := errEnv_of_row hL (by kernel_rfl) (by kernel_rfl)
  unfold maxLen at hm hm'
  have HE := Lib.hid hE; clear hE hL
  have e1 := a2Long_any A n cap A' n' cap' (by omega) (by omega) w
  by_cases hbig : 3000 < n ∨ 3000 < n'
  · rw [show (decide (3000 < n) || decide (3000 < n')) = true by rcases hbig with h | h <;> simp [h]] at e1
    have E1 := Lib.hid e1; clear e1
    go_enter Tryd.func7, Tryd.ntmps7
    go_wp2_with fail
    refine E1.out.mono ?_; rintro e w1 ⟨rfl, rfl⟩
    go_wp2_with fail
    go_ret
    exact ⟨rfl, Below.refl _ _⟩
  have hs : n ≤ 3000 := by omega
  have hs' : n' ≤ 3000 := by omega
  rw [show (decide (3000 < n) || decide (3000 < n')) = false by simp; omega] at e1
  have E1 := Lib.hid e1; clear e1
  have Hbs := Lib.hid hbs; clear hbs
  have Hbs' := Lib.hid hbs'; clear hbs'
  clear hbig hm hm'
  go_enter Tryd.func7, Tryd.ntmps7
  go_wp2_with fail
  refine E1.out.mono ?_; rintro e w1 ⟨rfl, rfl⟩
  clear E1
  go_wp2_with fail
  refine (A2Scene_any (by omega) Hbs.out _ hr).mono ?_; rintro e w1 ⟨f, rfl, h60, k1⟩
  have a0 := HasArr.zeroS w1 28 (b := w1.heap.size) rfl
  have k1' := k1.alloc k1.size (.cells #[.int .i8 0, .int .i8 0, .int .i8 0, .int .i8 0, .int .i8 0, .int .i8 0, .int .i8 0, .int .i8 0, .int .i8 0, .int .i8 0, .int .i8 0, .int .i8 0, .int .i8 0, .int .i8 0, .int .i8 0, .int .i8 0, .int .i8 0, .int .i8 0, .int .i8 0, .int .i8 0, .int .i8 0, .int .i8 0, .int .i8 0, .int .i8 0] 28)
  have hz0 : (w1.alloc (.cells #[.int .i8 0, .int .i8 0, .int .i8 0, .int .i8 0, .int .i8 0, .int .i8 0, .int .i8 0, .int .i8 0, .int .i8 0, .int .i8 0, .int .i8 0, .int .i8 0, .int .i8 0, .int .i8 0, .int .i8 0, .int .i8 0, .int .i8 0, .int .i8 0, .int .i8 0, .int .i8 0, .int .i8 0, .int .i8 0, .int .i8 0, .int .i8 0] 28)).heap.size = w1.heap.size + 1 := by simp
  go_wp2_with (refine wpList_store_arr a0 _ _ _ rfl rfl rfl rfl sizeScn ?_)
  have k2 := below_setRow k1' (b := w1.heap.size) k1.size (arrV .i8 24 f)
  have a1 := a0.setRow .i8 f
  generalize (w1.alloc (.cells #[.int .i8 0, .int .i8 0, .int .i8 0, .int .i8 0, .int .i8 0, .int .i8 0, .int .i8 0, .int .i8 0, .int .i8 0, .int .i8 0, .int .i8 0, .int .i8 0, .int .i8 0, .int .i8 0, .int .i8 0, .int .i8 0, .int .i8 0, .int .i8 0, .int .i8 0, .int .i8 0, .int .i8 0, .int .i8 0, .int .i8 0, .int .i8 0] 28)).setRow w1.heap.size (arrV .i8 24 f) = W at *
  refine (A2Field_any (by omega) Hbs'.out _ (hr'.below k2 (Nat.le_refl _))).mono ?_; rintro e w2 ⟨M, rfl, hM, hb2⟩
  have k3 := k2.trans (hb2.mono k2.size)
  have a2 := a1.below hb2 a1.lt
  clear a0 a1 k1 k1' k2 hb2 hz0
  have hB2 := hr'.below k3 (Nat.le_refl _)
  go_wp2_with (refine wpList_append_3 _ _ rfl rfl rfl rfl hcap' hs' hB2 fun g c w3 _ hB3 hb3 => ?_)
  have k4 := k3.trans (hb3.mono k3.size)
  have a3 := a2.below hb3 a2.lt
  clear a2 k3 hb3 hB2
  refine (A2Field_any (by omega) (ahead3_bd Hbs'.out) _ hB3).mono ?_; rintro e w4 ⟨N, rfl, hN, hb4⟩
  have k5 := k4.trans (hb4.mono k4.size)
  have a4 := a3.below hb4 a3.lt
  clear a3 k4 hb4 hB3 hr hr' Hbs Hbs' hcap'
  have hsc := r60_scn h60
  have hf := r60_s8 h60
  have i1 := fun W h => BrighterField_any s f M N (by omega) (by omega) W h
  have i2 := fun W => specBrighterField_any f hf M N (by omega) (by omega) W
  have i3 := fun W h => BrighterField_any s f N M (by omega) (by omega) W h
  have i4 := fun W h => DevelopBy_any s f M N (by omega) (by omega) W h
  have i5 := fun W => specDevelopBy_any f hf M N (by omega) (by omega) W
  have i6 := fun W => specFieldMean_any f hf M (by omega) W
  have i7 := fun W => specFieldMean_any f hf N (by omega) W
  clear hf h60
  by_cases h0 : M = 0 ∨ N = 0
  · obtain ⟨e1, e2, e3, e4, e5, e6⟩ := ct_zero hsc hM hN h0
    rw [e1, e2] at i1 i2
    rw [e3, e4] at i3
    rw [e5, e6] at i4 i5
    clear e1 e2 e3 e4 e5 e6 i6 i7
    have h0' : (M : Int) = 0 ∨ ((M : Int) ≠ 0 ∧ (N : Int) = 0) := by omega
    generalize (M : Int) = x at *
    generalize (N : Int) = y at *
    have I1 := Lib.hid i1; clear i1
    have I2 := Lib.hid i2; clear i2
    have I3 := Lib.hid i3; clear i3
    have I4 := Lib.hid i4; clear i4
    have I5 := Lib.hid i5; clear i5
    as_aux_lemma =>
      go_wp2_with (refine wpList_load_arr a4 _ _ rfl rfl rfl Tryd.underlying28 sizeScn ?_)
      refine (I1.out _ (HE.out.below k5 (Nat.le_refl _))).mono ?_; rintro e v1 ⟨rfl, hb1⟩
      have k6 := k5.trans (hb1.mono k5.size)
      have a5 := a4.below hb1 a4.lt
      clear a4 k5 hb1
      go_wp2_with (refine wpList_load_arr a5 _ _ rfl rfl rfl Tryd.underlying28 sizeScn ?_)
      refine (I2.out _).mono ?_; rintro e v2 ⟨rfl, hb2⟩
      have k7 := k6.trans (hb2.mono k6.size)
      have a6 := a5.below hb2 a5.lt
      clear a5 k6 hb2
      go_wp2_with (refine wpList_load_arr a6 _ _ rfl rfl rfl Tryd.underlying28 sizeScn ?_)
      refine (I3.out _ (HE.out.below k7 (Nat.le_refl _))).mono ?_; rintro e v3 ⟨rfl, hb3⟩
      have k8 := k7.trans (hb3.mono k7.size)
      have a7 := a6.below hb3 a6.lt
      clear a6 k7 hb3
      go_wp2_with (refine wpList_load_arr a7 _ _ rfl rfl rfl Tryd.underlying28 sizeScn ?_)
      refine (I4.out _ (HE.out.below k8 (Nat.le_refl _))).mono ?_; rintro e v4 ⟨rfl, hb4⟩
      have k9 := k8.trans (hb4.mono k8.size)
      have a8 := a7.below hb4 a7.lt
      clear a7 k8 hb4
      go_wp2_with (refine wpList_load_arr a8 _ _ rfl rfl rfl Tryd.underlying28 sizeScn ?_)
      refine (I5.out _).mono ?_; rintro e v5 ⟨rfl, hb5⟩
      have k10 := k9.trans (hb5.mono k9.size)
      clear a8 k9 hb5 I1 I2 I3 I4 I5
      rcases h0' with rfl | ⟨hx, rfl⟩
      all_goals
        go_wp2_with fail
        go_ret
        exact ⟨rfl, k10⟩
  · obtain ⟨X, Y, U, V, C, D, Z, e1, e2, hX, hY, e3, e4, e5, e6, e7, e8, e9, e10, hz, hzz, hq, hway⟩ := ct_ways hsc hM hN (by omega) (by omega)
    have i8 := fun W h => ZoneOf_any s X 3 Y (by omega) (by omega) (by omega) (by omega) W h
    rw [hz, ifS_0, hzz] at i8
    rw [e5, e7] at i1 i2
    rw [e6, e8] at i3
    rw [e9, e10] at i4 i5
    rw [e1, e3] at i6
    rw [e2, e4] at i7
    clear e1 e2 e3 e4 e5 e6 e7 e8 e9 e10 hz hzz
    have h0' : (M : Int) ≠ 0 ∧ (N : Int) ≠ 0 := by omega
    generalize (M : Int) = x at *
    generalize (N : Int) = y at *
    have I1 := Lib.hid i1; clear i1
    have I2 := Lib.hid i2; clear i2
    have I3 := Lib.hid i3; clear i3
    have I4 := Lib.hid i4; clear i4
    have I5 := Lib.hid i5; clear i5
    have I6 := Lib.hid i6; clear i6
    have I7 := Lib.hid i7; clear i7
    have I8 := Lib.hid i8; clear i8
    obtain ⟨hx, hy⟩ := h0'
    obtain ⟨hX0, hX1⟩ := hX
    obtain ⟨hY0, hY1⟩ := hY
    obtain ⟨hq0, hq1⟩ := hq
    clear h0 hsc hM hN
    go_wp2_with (refine wpList_load_arr a4 _ _ rfl rfl rfl Tryd.underlying28 sizeScn ?_)
    refine (I1.out _ (HE.out.below k5 (Nat.le_refl _))).mono ?_; rintro e v1 ⟨rfl, hb1⟩
    have k6 := k5.trans (hb1.mono k5.size)
    have a5 := a4.below hb1 a4.lt
    clear a4 k5 hb1
    go_wp2_with (refine wpList_load_arr a5 _ _ rfl rfl rfl Tryd.underlying28 sizeScn ?_)
    refine (I2.out _).mono ?_; rintro e v2 ⟨rfl, hb2⟩
    have k7 := k6.trans (hb2.mono k6.size)
    have a6 := a5.below hb2 a5.lt
    clear a5 k6 hb2
    go_wp2_with (refine wpList_load_arr a6 _ _ rfl rfl rfl Tryd.underlying28 sizeScn ?_)
    refine (I3.out _ (HE.out.below k7 (Nat.le_refl _))).mono ?_; rintro e v3 ⟨rfl, hb3⟩
    have k8 := k7.trans (hb3.mono k7.size)
    have a7 := a6.below hb3 a6.lt
    clear a6 k7 hb3
    go_wp2_with (refine wpList_load_arr a7 _ _ rfl rfl rfl Tryd.underlying28 sizeScn ?_)
    refine (I4.out _ (HE.out.below k8 (Nat.le_refl _))).mono ?_; rintro e v4 ⟨rfl, hb4⟩
    have k9 := k8.trans (hb4.mono k8.size)
    have a8 := a7.below hb4 a7.lt
    clear a7 k8 hb4
    go_wp2_with (refine wpList_load_arr a8 _ _ rfl rfl rfl Tryd.underlying28 sizeScn ?_)
    refine (I5.out _).mono ?_; rintro e v5 ⟨rfl, hb5⟩
    have k10 := k9.trans (hb5.mono k9.size)
    have a9 := a8.below hb5 a8.lt
    clear a8 k9 hb5 I1 I2 I3 I4 I5
    rcases hway with ⟨hc, ⟨hU, hU'⟩, rfl, rfl, rfl⟩ | ⟨⟨hc, hc'⟩, ⟨hU, hU'⟩, rfl, rfl, rfl⟩ | ⟨hc, ⟨hU, hU'⟩, rfl, rfl, rfl⟩
    · as_aux_lemma =>
        go_wp2_with (refine wpList_load_arr a9 _ _ rfl rfl rfl Tryd.underlying28 sizeScn ?_)
        · exfalso
          rename_i hh
          rcases hh with hh | hh <;> simp at hh <;> omega
        refine (I6.out _).mono ?_; rintro e v6 ⟨rfl, hb6⟩
        have k11 := k10.trans (hb6.mono k10.size)
        have a10 := a9.below hb6 a9.lt
        clear a9 k10 hb6
        go_wp2_with (refine wpList_load_arr a10 _ _ rfl rfl rfl Tryd.underlying28 sizeScn ?_)
        refine (I7.out _).mono ?_; rintro e v7 ⟨rfl, hb7⟩
        have k12 := k11.trans (hb7.mono k11.size)
        clear a10 k11 hb7
        go_wp2_with fail
        refine (I8.out _ (HE.out.below k12 (Nat.le_refl _))).mono ?_; rintro e v8 ⟨rfl, hb8⟩
        have k13 := k12.trans (hb8.mono k12.size)
        clear k12 hb8
        go_wp2_with fail
        go_ret
        exact ⟨rfl, k13⟩
    · as_aux_lemma =>
        go_wp2_with (refine wpList_load_arr a9 _ _ rfl rfl rfl Tryd.underlying28 sizeScn ?_)
        · exfalso
          rename_i hh
          rcases hh with hh | hh <;> simp at hh <;> omega
        refine (I6.out _).mono ?_; rintro e v6 ⟨rfl, hb6⟩
        have k11 := k10.trans (hb6.mono k10.size)
        have a10 := a9.below hb6 a9.lt
        clear a9 k10 hb6
        go_wp2_with (refine wpList_load_arr a10 _ _ rfl rfl rfl Tryd.underlying28 sizeScn ?_)
        refine (I7.out _).mono ?_; rintro e v7 ⟨rfl, hb7⟩
        have k12 := k11.trans (hb7.mono k11.size)
        clear a10 k11 hb7
        go_wp2_with fail
        refine (I8.out _ (HE.out.below k12 (Nat.le_refl _))).mono ?_; rintro e v8 ⟨rfl, hb8⟩
        have k13 := k12.trans (hb8.mono k12.size)
        clear k12 hb8
        go_wp2_with fail
        go_ret
        exact ⟨rfl, k13⟩
    · as_aux_lemma =>
        go_wp2_with (refine wpList_load_arr a9 _ _ rfl rfl rfl Tryd.underlying28 sizeScn ?_)
        · exfalso
          rename_i hh
          rcases hh with hh | hh <;> simp at hh <;> omega
        refine (I6.out _).mono ?_; rintro e v6 ⟨rfl, hb6⟩
        have k11 := k10.trans (hb6.mono k10.size)
        have a10 := a9.below hb6 a9.lt
        clear a9 k10 hb6
        go_wp2_with (refine wpList_load_arr a10 _ _ rfl rfl rfl Tryd.underlying28 sizeScn ?_)
        refine (I7.out _).mono ?_; rintro e v7 ⟨rfl, hb7⟩
        have k12 := k11.trans (hb7.mono k11.size)
        clear a10 k11 hb7
        go_wp2_with fail
        go_ret
        exact ⟨rfl, k12⟩
end Go.Proofs.YtmphmpddlgcofaaDoor
