/-
  The walk of the law FnExactValueOf: it returns true for every setting. Condition: the listed variables hold what the row lists.
-/
import Derived.Test.YtmjoccgdpchjbaaDoorWSets
namespace Go.Proofs.YtmjoccgdpchjbaaDoor
open Go.RowKit

set_option maxHeartbeats 1000000 in
theorem walk_FnExactValueOf (a b c : Int) (ha : -128 ≤ a) (ha' : a ≤ 127) (hb : -128 ≤ b) (hb' : b ≤ 127) (hc : -128 ≤ c) (hc' : c ≤ 127) (w : World) (hL : laidMetH Tryd.prog Rows.fnExactValueOfRow.laid w) :
    Calls Tryd.prog 6 #[setV a b c] w fun e w' => e = .returned (.bool true) ∧ Below w.heap.size w w' := by
  obtain ⟨s, hE⟩ := errEnv_of_row hL (by kernel_rfl) (by kernel_rfl)
  go_enter Tryd.func6, Tryd.ntmps6
  go_wp2_with fail
  refine (toSetting_any a b c _).mono ?_; rintro e w1 ⟨rfl, hb1⟩
  obtain ⟨hc1, hf1⟩ := bcell hb1
  have hz1 : w.heap.size < w1.heap.size := by have := hb1.size; simp at this; omega
  have k1 : Below w.heap.size w w1 := ((Below.refl _ _).alloc (Nat.le_refl _) _).trans (hb1.mono (by simp))
  go_wp2_with fail
  refine (specValueOf_any a b c ha ha' hb hb' hc hc' _).mono ?_; rintro e w2 ⟨rfl, hb2⟩
  obtain ⟨hc2, hf2⟩ := bcell hb2
  have hz2 : w.heap.size < w2.heap.size := by have := hb2.size; omega
  have k2 := k1.trans (hb2.mono k1.size)
  go_wp2_with fail
  refine (toSetting_any a b c _).mono ?_; rintro e w3 ⟨rfl, hb3⟩
  have k3 := k2.trans (hb3.mono k2.size)
  go_wp2_with fail
  refine (ValueOf_any s a b c ha ha' hb hb' hc hc' _ (hE.below k3 (Nat.le_refl _))).mono ?_; rintro e w4 ⟨rfl, hb4⟩
  have k4 := k3.trans (hb4.mono k3.size)
  go_wp2_with fail
  go_ret
  exact ⟨rfl, k4⟩
end Go.Proofs.YtmjoccgdpchjbaaDoor
