/-
  The walk of the law FnEverySetting: it returns true for every argument. Condition: the listed variables hold what the row lists.
-/
import Derived.Test.YtmphmpddlgcofaaDoorStf
import Derived.Test.YtmphmpddlgcofaaDoorPhaseG
import Derived.Test.YtmphmpddlgcofaaDoorExp
import Derived.Test.YtmphmpddlgcofaaDoorEnv
namespace Go.Proofs.YtmphmpddlgcofaaDoor
open Go.RowKit

/-- The code of an exposure so placed; where it is none and the reading is the placement's own, the light that it lets in. -/
theorem every_ok (a b c m r z : Int) (X Y Z : Int) (hv : stV a b c m r z = setV X Y Z) :
    stC a b c m r z = 1 ∨ stC a b c m r z = 2 ∨ stC a b c m r z = 6 ∨
      (stC a b c m r z = 0 ∧ valC a b c = 0 ∧ valC X Y Z = 0 ∧ exC r z = 0 ∧ (0 ≤ X ∧ X ≤ 45) ∧ (0 ≤ Y ∧ Y ≤ 30) ∧ (0 ≤ Z ∧ Z ≤ 21) ∧ (-200 ≤ valR a b c ∧ valR a b c ≤ 200) ∧ (0 ≤ z ∧ z ≤ 10) ∧
        (r = m → valR X Y Z = valR a b c + 3 * (z - 5))) := by
  unfold stC
  unfold stV at hv
  by_cases h1 : okS a b c = true
  · rw [if_pos h1] at hv ⊢
    by_cases h2 : plcB r z = true
    · rw [if_pos h2] at hv ⊢
      by_cases h3 : inB m 0 60 = true
      · rw [if_pos h3] at hv ⊢
        have hb := okS_true.1 h1
        have hz := (plcB_bd h2).2
        rcases moreC_or a b c (3 * (z - 5) + m - r) with h | h | h | h
        · refine .inr (.inr (.inr ⟨h, by simp [valC, h1], ?_⟩))
          have hi : inB (moreA a b (3 * (z - 5) + m - r)) 0 30 = true := by
            unfold moreC at h
            rw [if_pos h1] at h
            by_cases h4 : inB (3 * (z - 5) + m - r) (-100) 100 = true
            · rw [if_pos h4] at h
              by_cases h5 : inB (moreA a b (3 * (z - 5) + m - r)) 0 30 = true
              · exact h5
              · rw [if_neg h5] at h; omega
            · rw [if_neg h4] at h; omega
          unfold moreV at hv
          rw [if_pos h] at hv
          obtain ⟨e1, e2, e3⟩ : moreS a (3 * (z - 5) + m - r) = X ∧ moreA a b (3 * (z - 5) + m - r) = Y ∧ c = Z := by
            simpa using hv
          have hs := moreS_bd a (3 * (z - 5) + m - r)
          have ha := inB_true.1 hi
          have hok : okS X Y Z = true := okS_true.2 ⟨by omega, by omega, by omega⟩
          refine ⟨by simp [valC, hok], by simp [exC, h2], by omega, by omega, by omega, ?_, hz, fun hm => ?_⟩
          · simp only [valR, h1, if_true]; omega
          · simp only [valR, h1, hok, if_true]
            unfold moreA at e2
            omega
        · exact .inl h
        · exact .inr (.inl h)
        · exact .inr (.inr (.inl h))
      · rw [if_neg h3]; simp
    · rw [if_neg h2]; simp
  · rw [if_neg h1]; simp

theorem neqSet (x y z : Int) (w : World) : (binOp .neq 66 (setV x y z) (setV x y z)).run Tryd.prog w = .ok (.bool false) w := by
  simp [go_sem]

set_option maxRecDepth 100000 in
set_option maxHeartbeats 4000000 in
theorem walk_FnEverySetting (a b c : Int) (ha : -128 ≤ a) (ha' : a ≤ 127) (hb : -128 ≤ b) (hb' : b ≤ 127) (hc : -128 ≤ c) (hc' : c ≤ 127) (m : Int) (_hm : -9223372036854775808 ≤ m) (_hm' : m ≤ 9223372036854775807) (r z : Int) (hr : -128 ≤ r) (hr' : r ≤ 127) (hz : -128 ≤ z) (hz' : z ≤ 127) (w : World) (hL : laidMetH Tryd.prog Rows.fnEverySettingRow.laid w) :
    Calls Tryd.prog 9 #[setV a b c, .int .i64 m, plcV r z] w fun e w' => e = .returned (.bool true) ∧ Below w.heap.size w w' := by
  obtain ⟨s, hE⟩ := errEnv_of_row hL (by kernel_rfl) (by kernel_rfl)
  have hsp := fun W => specSettingFor_any a b c m r z ha ha' hb hb' hc hc' hr hr' hz hz' W
  have him := fun W h => SettingFor_any s a b c m r z ha ha' hb hb' hc hc' hr hr' hz hz' W h
  obtain ⟨X0, Y0, Z0, hv⟩ := stV_set a b c m r z
  have hall := every_ok a b c m r z X0 Y0 Z0 hv
  rw [hv] at hsp him
  clear hv
  generalize stC a b c m r z = C at hsp him hall
  have i1 := fun W h => ValueOf_any s a b c ha ha' hb hb' hc hc' W h
  have i2 := fun h1 h1' h2 h2' h3 h3' W h => ValueOf_any s X0 Y0 Z0 h1 h1' h2 h2' h3 h3' W h
  have i3 := fun W => ExposureThirds_any r z hr hr' hz hz' W
  have Hsp := Lib.hid hsp; clear hsp
  have Him := Lib.hid him; clear him
  have Hall := Lib.hid hall; clear hall
  have I1 := Lib.hid i1; clear i1
  have I2 := Lib.hid i2; clear i2
  have I3 := Lib.hid i3; clear i3
  have k0 : Below w.heap.size w ((w.alloc (.cells #[.int .i8 a, .int .i8 b, .int .i8 c] 66)).alloc (.cells #[.int .i8 r, .int .i8 z] 25)) := ((Below.refl _ _).alloc (Nat.le_refl _) _).alloc (by simp) _
  have s0 : ((w.alloc (.cells #[.int .i8 a, .int .i8 b, .int .i8 c] 66)).alloc (.cells #[.int .i8 r, .int .i8 z] 25)).cell? ⟨w.heap.size, 0, none⟩ = some (.int .i8 a) := by simp
  have s1 : ((w.alloc (.cells #[.int .i8 a, .int .i8 b, .int .i8 c] 66)).alloc (.cells #[.int .i8 r, .int .i8 z] 25)).cell? ⟨w.heap.size, 1, none⟩ = some (.int .i8 b) := by simp
  have s2 : ((w.alloc (.cells #[.int .i8 a, .int .i8 b, .int .i8 c] 66)).alloc (.cells #[.int .i8 r, .int .i8 z] 25)).cell? ⟨w.heap.size, 2, none⟩ = some (.int .i8 c) := by simp
  have p0 : ((w.alloc (.cells #[.int .i8 a, .int .i8 b, .int .i8 c] 66)).alloc (.cells #[.int .i8 r, .int .i8 z] 25)).cell? ⟨w.heap.size + 1, 0, none⟩ = some (.int .i8 r) := by simp
  have p1 : ((w.alloc (.cells #[.int .i8 a, .int .i8 b, .int .i8 c] 66)).alloc (.cells #[.int .i8 r, .int .i8 z] 25)).cell? ⟨w.heap.size + 1, 1, none⟩ = some (.int .i8 z) := by simp
  go_enter Tryd.func9, Tryd.ntmps9
  go_wp2_with fail
  generalize ((w.alloc (.cells #[.int .i8 a, .int .i8 b, .int .i8 c] 66)).alloc (.cells #[.int .i8 r, .int .i8 z] 25)) = W at *
  have hE0 := hE; clear hE
  have HE := Lib.hid (hE0.below k0 (Nat.le_refl _))
  have K0 := Lib.hid k0; clear k0
  have Qs0 := Lib.hid s0; clear s0
  have Qs1 := Lib.hid s1; clear s1
  have Qs2 := Lib.hid s2; clear s2
  have Qp0 := Lib.hid p0; clear p0
  have Qp1 := Lib.hid p1; clear p1
  refine (Him.out _ HE.out).mono ?_; rintro e v0 ⟨rfl, hb0⟩
  have k1 := K0.out.trans (hb0.mono K0.out.size)
  have g1 : Below v0.heap.size v0 (v0.alloc (.cells #[.int .i8 X0, .int .i8 Y0, .int .i8 Z0] 66)) := (Below.refl _ _).alloc (Nat.le_refl _) _
  have k2 : Below w.heap.size w (v0.alloc (.cells #[.int .i8 X0, .int .i8 Y0, .int .i8 Z0] 66)) := k1.trans (g1.mono k1.size)
  have s0 := below_cellOf g1 (below_cellOf hb0 Qs0.out (Nat.le_refl _)) (Nat.le_refl _)
  have s1 := below_cellOf g1 (below_cellOf hb0 Qs1.out (Nat.le_refl _)) (Nat.le_refl _)
  have s2 := below_cellOf g1 (below_cellOf hb0 Qs2.out (Nat.le_refl _)) (Nat.le_refl _)
  have p0 := below_cellOf g1 (below_cellOf hb0 Qp0.out (Nat.le_refl _)) (Nat.le_refl _)
  have p1 := below_cellOf g1 (below_cellOf hb0 Qp1.out (Nat.le_refl _)) (Nat.le_refl _)
  have x0 : (v0.alloc (.cells #[.int .i8 X0, .int .i8 Y0, .int .i8 Z0] 66)).cell? ⟨v0.heap.size, 0, none⟩ = some (.int .i8 X0) := by simp
  have x1 : (v0.alloc (.cells #[.int .i8 X0, .int .i8 Y0, .int .i8 Z0] 66)).cell? ⟨v0.heap.size, 1, none⟩ = some (.int .i8 Y0) := by simp
  have x2 : (v0.alloc (.cells #[.int .i8 X0, .int .i8 Y0, .int .i8 Z0] 66)).cell? ⟨v0.heap.size, 2, none⟩ = some (.int .i8 Z0) := by simp
  clear hb0 Qs0 Qs1 Qs2 Qp0 Qp1 K0 HE Him k1 g1
  have HE := Lib.hid (hE0.below k2 (Nat.le_refl _))
  have K2 := Lib.hid k2; clear k2
  go_wp2_with fail
  generalize (v0.alloc (.cells #[.int .i8 X0, .int .i8 Y0, .int .i8 Z0] 66)) = V1 at *
  refine (Hsp.out _).mono ?_; rintro e v1 ⟨rfl, hb1⟩
  have k3 := K2.out.trans (hb1.mono K2.out.size)
  have g1 : Below v1.heap.size v1 (v1.alloc (.cells #[.int .i8 X0, .int .i8 Y0, .int .i8 Z0] 66)) := (Below.refl _ _).alloc (Nat.le_refl _) _
  have k4 : Below w.heap.size w (v1.alloc (.cells #[.int .i8 X0, .int .i8 Y0, .int .i8 Z0] 66)) := k3.trans (g1.mono k3.size)
  replace s0 := below_cellOf g1 (below_cellOf hb1 s0 (Nat.le_refl _)) (Nat.le_refl _)
  replace s1 := below_cellOf g1 (below_cellOf hb1 s1 (Nat.le_refl _)) (Nat.le_refl _)
  replace s2 := below_cellOf g1 (below_cellOf hb1 s2 (Nat.le_refl _)) (Nat.le_refl _)
  replace p0 := below_cellOf g1 (below_cellOf hb1 p0 (Nat.le_refl _)) (Nat.le_refl _)
  replace p1 := below_cellOf g1 (below_cellOf hb1 p1 (Nat.le_refl _)) (Nat.le_refl _)
  replace x0 := below_cellOf g1 (below_cellOf hb1 x0 (Nat.le_refl _)) (Nat.le_refl _)
  replace x1 := below_cellOf g1 (below_cellOf hb1 x1 (Nat.le_refl _)) (Nat.le_refl _)
  replace x2 := below_cellOf g1 (below_cellOf hb1 x2 (Nat.le_refl _)) (Nat.le_refl _)
  have y0 : (v1.alloc (.cells #[.int .i8 X0, .int .i8 Y0, .int .i8 Z0] 66)).cell? ⟨v1.heap.size, 0, none⟩ = some (.int .i8 X0) := by simp
  have y1 : (v1.alloc (.cells #[.int .i8 X0, .int .i8 Y0, .int .i8 Z0] 66)).cell? ⟨v1.heap.size, 1, none⟩ = some (.int .i8 Y0) := by simp
  have y2 : (v1.alloc (.cells #[.int .i8 X0, .int .i8 Y0, .int .i8 Z0] 66)).cell? ⟨v1.heap.size, 2, none⟩ = some (.int .i8 Z0) := by simp
  clear hb1 K2 HE Hsp k3 g1
  have HE2 := Lib.hid (hE0.below k4 (Nat.le_refl _))
  have K2 := Lib.hid k4; clear k4
  rcases Hall.out with h0 | h0 | h0 | h0
  · subst h0
    as_aux_lemma =>
      clear Hall I1 I2 I3
      go_wp2_with (refine wpList_run (neqSet _ _ _ _) ?_)
      go_ret
      exact ⟨rfl, K2.out⟩
  · subst h0
    as_aux_lemma =>
      clear Hall I1 I2 I3
      go_wp2_with fail
      go_ret
      exact ⟨rfl, K2.out⟩
  · subst h0
    as_aux_lemma =>
      clear Hall I1 I2 I3
      go_wp2_with fail
      go_ret
      exact ⟨rfl, K2.out⟩
  · obtain ⟨rfl, e1, e2, e3, hX, hY, hZ, hR, hzz, hm⟩ := h0
    clear Hall
    by_cases hrm : r = m
    · subst hrm
      have e4 := hm rfl
      have i1 := I1.out
      have i2 := I2.out (by omega) (by omega) (by omega) (by omega) (by omega) (by omega)
      have i3 := I3.out
      rw [e1] at i1
      rw [e2, e4] at i2
      rw [e3, ifS_0] at i3
      generalize valR a b c = V at *
      clear e1 e2 e3 e4 hm I1 I2 I3
      have I1 := Lib.hid i1; clear i1
      have I2 := Lib.hid i2; clear i2
      have I3 := Lib.hid i3; clear i3
      as_aux_lemma =>
        go_wp2_with fail
        refine (I1.out _ (HE2.out)).mono ?_; rintro e v1 ⟨rfl, hb1⟩
        have k3 := K2.out.trans (hb1.mono K2.out.size)
        have p0' := below_cellOf hb1 p0 (Nat.le_refl _)
        have p1' := below_cellOf hb1 p1 (Nat.le_refl _)
        have x0' := below_cellOf hb1 x0 (Nat.le_refl _)
        have x1' := below_cellOf hb1 x1 (Nat.le_refl _)
        have x2' := below_cellOf hb1 x2 (Nat.le_refl _)
        have hE3 := HE2.out.below hb1 (Nat.le_refl _)
        clear s0 s1 s2 p0 p1 x0 x1 x2 y0 y1 y2 hb1
        go_wp2_with fail
        refine (I2.out _ hE3).mono ?_; rintro e v2 ⟨rfl, hb2⟩
        have k4 := k3.trans (hb2.mono k3.size)
        have p0 := below_cellOf hb2 p0' (Nat.le_refl _)
        have p1 := below_cellOf hb2 p1' (Nat.le_refl _)
        clear p0' p1' x0' x1' x2' hb2 hE3
        go_wp2_with fail
        refine (I3.out _).mono ?_; rintro e v3 ⟨rfl, hb3⟩
        have k5 := k4.trans (hb3.mono k4.size)
        clear p0 p1 hb3
        go_wp2_with fail
        go_ret
        exact ⟨rfl, k5⟩
    · as_aux_lemma =>
        clear I1 I2 I3 hm
        go_wp2_with fail
        go_ret
        exact ⟨rfl, K2.out⟩
end Go.Proofs.YtmphmpddlgcofaaDoor
