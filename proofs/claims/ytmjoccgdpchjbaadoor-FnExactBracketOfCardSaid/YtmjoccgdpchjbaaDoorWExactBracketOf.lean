/-
  The walk of the law FnExactBracketOf: it returns true for every setting and two numbers. Condition: the listed variables hold what the row lists.
-/
import Derived.Test.YtmjoccgdpchjbaaDoorBracket
import Derived.Test.YtmjoccgdpchjbaaDoorWSets
import Derived.Test.YtmjoccgdpchjbaaDoorEnv
namespace Go.Proofs.YtmjoccgdpchjbaaDoor
open Go.RowKit

set_option maxRecDepth 100000 in
set_option maxHeartbeats 2000000 in
theorem walk_FnExactBracketOf (a b c : Int) (ha : -128 ≤ a) (ha' : a ≤ 127) (hb : -128 ≤ b) (hb' : b ≤ 127) (hc : -128 ≤ c) (hc' : c ≤ 127) (x : Int) (_hx : -9223372036854775808 ≤ x) (_hx' : x ≤ 9223372036854775807) (y : Int) (_hy : -9223372036854775808 ≤ y) (_hy' : y ≤ 9223372036854775807) (w : World) (hL : laidMetH Tryd.prog Rows.fnExactBracketOfRow.laid w) :
    Calls Tryd.prog 8 #[setV a b c, .int .i64 x, .int .i64 y] w fun e w' => e = .returned (.bool true) ∧ Below w.heap.size w w' := by
  obtain ⟨s, hE⟩ := errEnv_of_row hL (by kernel_rfl) (by kernel_rfl)
  have HE := Lib.hid hE; clear hE
  have hsp := specBracketOf_any a b c x y ha ha' hb hb' hc hc'
  have him := fun (W : World) hW => BracketOf_any s a b c x y ha ha' hb hb' hc hc' W hW
  have hl := brN_le a b c x y
  generalize brL a b c x y = l at hsp him hl
  generalize brC a b c x y = C at hsp him
  generalize brF0 a x y = F0 at hsp him
  generalize brF1 a b x y = F1 at hsp him
  generalize (fun _ => c : Nat → Int) = F2 at hsp him
  have Hsp := Lib.hid hsp; clear hsp
  have Him := Lib.hid him; clear him
  have k0 : Below w.heap.size w (w.alloc (.cells #[.int .i8 a, .int .i8 b, .int .i8 c] 26)) := (Below.refl _ _).alloc (Nat.le_refl _) _
  go_enter Tryd.func8, Tryd.ntmps8
  go_wp2_with fail
  refine (toSetting_any a b c _).mono ?_; rintro e w1 ⟨rfl, hb1⟩
  obtain ⟨q1, f1⟩ := bcell hb1
  have y1 : w.heap.size < w1.heap.size := by have := hb1.size; simp at this; omega
  have k1 := k0.trans (hb1.mono k0.size)
  have s0 : w1.cell? ⟨w.heap.size, 0, none⟩ = some (.int .i8 a) := by rw [q1 _ _ (by simp)]; simp
  have s1 : w1.cell? ⟨w.heap.size, 1, none⟩ = some (.int .i8 b) := by rw [q1 _ _ (by simp)]; simp
  have s2 : w1.cell? ⟨w.heap.size, 2, none⟩ = some (.int .i8 c) := by rw [q1 _ _ (by simp)]; simp
  clear q1 f1
  go_wp2_with fail
  refine (Hsp.out _).mono ?_; rintro e w2 ⟨v0, rfl, hm0, hb2⟩
  have k2 := k1.trans (hb2.mono k1.size)
  have z2 := hb2.size
  have t0 : w2.cell? ⟨w.heap.size, 0, none⟩ = some (.int .i8 a) := by rw [hb2.cell (p := ⟨w.heap.size, 0, none⟩) y1]; exact s0
  have t1 : w2.cell? ⟨w.heap.size, 1, none⟩ = some (.int .i8 b) := by rw [hb2.cell (p := ⟨w.heap.size, 1, none⟩) y1]; exact s1
  have t2 : w2.cell? ⟨w.heap.size, 2, none⟩ = some (.int .i8 c) := by rw [hb2.cell (p := ⟨w.heap.size, 2, none⟩) y1]; exact s2
  clear s0 s1 s2
  go_wp2_with fail
  refine (toSetting_any a b c _).mono ?_; rintro e w3 ⟨rfl, hb3⟩
  have k3 := k2.trans (hb3.mono k2.size)
  have z3 := hb3.size
  have hm0 := hm0.below hb3 (Nat.le_refl _)
  go_wp2_with fail
  refine (Him.out _ (HE.out.below k3 (Nat.le_refl _))).mono ?_; rintro e w4 ⟨v1, rfl, hm1, hb4⟩
  have k4 := k3.trans (hb4.mono k3.size)
  have z4 := hb4.size
  have hm0 := hm0.below hb4 (by omega)
  go_wp2_with fail
  refine (eqSettingS_mine _ _ _ _ _ v1 v0 F0 F1 F2 (by omega) _ hm1 hm0).mono ?_; rintro e w5 ⟨rfl, hb5⟩
  have k5 := k4.trans (hb5.mono k4.size)
  have z5 := hb5.size
  have hm0 := hm0.below hb5 (by omega)
  have hm1 := hm1.below hb5 (by omega)
  have t5 := keep3B (hb3.trans ((hb4.trans (hb5.mono hb4.size)).mono hb3.size)) (g := w.heap.size) ⟨t0, t1, t2⟩ (by omega)
  clear t0 t1 t2
  go_wp2_with fail
  refine (markSettingS_mine _ _ _ v1 _ 1 (by omega) (by omega) (by omega) _ hm1).mono ?_; rintro e w6 ⟨rfl, hm1, ho6⟩
  have k6 := k5.trans ((ho6.below (by omega)).mono (by omega))
  have z6 := ho6.size
  have hm0 := hm0.only ho6 (.inl (by omega))
  have t6 := keep3B (ho6.below (by omega)) (g := w.heap.size) t5 (by omega)
  clear t5
  go_wp2_with fail
  refine (heldSettingS_mine _ _ _ v1 1 (by omega) (by omega) (by omega) _ hm1).mono ?_; rintro e w7 ⟨rfl, rfl⟩
  obtain ⟨t0, t1, t2⟩ := t6
  go_wp2_with fail
  refine (toSetting_any a b c _).mono ?_; rintro e w8 ⟨rfl, hb8⟩
  have k8 := k6.trans (hb8.mono k6.size)
  have z8 := hb8.size
  have hm0 := hm0.below hb8 (by omega)
  have hm1 := hm1.below hb8 (by omega)
  clear t0 t1 t2
  go_wp2_with fail
  refine (Him.out _ (HE.out.below k8 (Nat.le_refl _))).mono ?_; rintro e w9 ⟨v2, rfl, hm2, hb9⟩
  have k9 := k8.trans (hb9.mono k8.size)
  have z9 := hb9.size
  have hm0 := hm0.below hb9 (by omega)
  have hm1 := hm1.below hb9 (by omega)
  go_wp2_with fail
  refine (eqSettingS_mine _ _ _ _ _ v2 v0 F0 F1 F2 (by omega) _ hm2 hm0).mono ?_; rintro e w10 ⟨rfl, hb10⟩
  have k10 := k9.trans (hb10.mono k9.size)
  have hm1 := hm1.below hb10 (by omega)
  go_wp2_with fail
  refine (heldSettingS_mine _ _ _ v1 1 (by omega) (by omega) (by omega) _ hm1).mono ?_; rintro e w11 ⟨rfl, rfl⟩
  go_wp2_with fail
  go_ret
  exact ⟨rfl, k10⟩
end Go.Proofs.YtmjoccgdpchjbaaDoor
