/-
  The walk of the law FnExactMoreLight: it returns true for every setting and number. Condition: the listed variables hold what the row lists.
-/
import Derived.Test.YtmjoccgdpchjbaaDoorWSets
namespace Go.Proofs.YtmjoccgdpchjbaaDoor
open Go.RowKit

set_option maxHeartbeats 1000000 in
theorem walk_FnExactMoreLight (a b c : Int) (ha : -128 ≤ a) (ha' : a ≤ 127) (hb : -128 ≤ b) (hb' : b ≤ 127) (hc : -128 ≤ c) (hc' : c ≤ 127) (t : Int) (_ht : -9223372036854775808 ≤ t) (_ht' : t ≤ 9223372036854775807) (w : World) (hL : laidMetH Tryd.prog Rows.fnExactMoreLightRow.laid w) :
    Calls Tryd.prog 7 #[setV a b c, .int .i64 t] w fun e w' => e = .returned (.bool true) ∧ Below w.heap.size w w' := by
  obtain ⟨s, hE⟩ := errEnv_of_row hL (by kernel_rfl) (by kernel_rfl)
  obtain ⟨x, y, z, hv⟩ := moreV_set a b c t
  have hsp := specMoreLight_any a b c t ha ha' hb hb' hc hc'
  have him := MoreLight_any s a b c t ha ha' hb hb' hc hc'
  rw [hv] at hsp him
  clear hv
  have Hsp := Lib.hid hsp; clear hsp
  have Him := Lib.hid him; clear him
  go_enter Tryd.func7, Tryd.ntmps7
  go_wp2_with fail
  refine (toSetting_any a b c _).mono ?_; rintro e w1 ⟨rfl, hb1⟩
  obtain ⟨hc1, hf1⟩ := bcell hb1
  have hz1 : w.heap.size < w1.heap.size := by have := hb1.size; simp at this; omega
  have k1 : Below w.heap.size w w1 := ((Below.refl _ _).alloc (Nat.le_refl _) _).trans (hb1.mono (by simp))
  go_wp2_with fail
  refine (Hsp.out _).mono ?_; rintro e w2 ⟨rfl, hb2⟩
  obtain ⟨hc2, hf2⟩ := bcell hb2
  have hz2 : w.heap.size < w2.heap.size := by have := hb2.size; omega
  have k2 := k1.trans (hb2.mono k1.size)
  go_wp2_with fail
  refine (toSetting_any a b c _).mono ?_; rintro e w3 ⟨rfl, hb3⟩
  obtain ⟨hc3, hf3⟩ := bcell hb3
  have hz3 : w2.heap.size < w3.heap.size := by have := hb3.size; simp at this; omega
  have k3 := (k2.alloc k2.size (.cells #[.int .i8 x, .int .i8 y, .int .i8 z] 29)).trans (hb3.mono (by simp; omega))
  go_wp2_with fail
  refine (Him.out _ (hE.below k3 (Nat.le_refl _))).mono ?_; rintro e w4 ⟨rfl, hb4⟩
  obtain ⟨hc4, hf4⟩ := bcell hb4
  have hz4 : w2.heap.size < w4.heap.size := by have := hb4.size; omega
  have k4 := k3.trans (hb4.mono k3.size)
  go_wp2_with fail
  refine (eqSetting_same x y z _).mono ?_; rintro e w5 ⟨rfl, hb5⟩
  have k5 := (k4.alloc k4.size (.cells #[.int .i8 x, .int .i8 y, .int .i8 z] 29)).trans (hb5.mono (by have := k4.size; simp; omega))
  go_wp2_with fail
  go_ret
  exact ⟨rfl, k5⟩
end Go.Proofs.YtmjoccgdpchjbaaDoor
