/-
  The walk of the law FnExactWithFilters: it returns true for every setting and list. Condition: the listed variables hold what the row lists.
-/
import Derived.Test.YtmjoccgdpchjbaaDoorFilters
import Derived.Test.YtmjoccgdpchjbaaDoorWSets
namespace Go.Proofs.YtmjoccgdpchjbaaDoor
open Go.RowKit

set_option maxRecDepth 100000 in
set_option maxHeartbeats 400000 in
theorem walk_FnExactWithFilters (a b c : Int) (ha : -128 ≤ a) (ha' : a ≤ 127) (hb : -128 ≤ b) (hb' : b ≤ 127) (hc : -128 ≤ c) (hc' : c ≤ 127) (A : Option Addr) (n cap : Nat) (xs : Nat → Int) (w : World) (hL : laidMetH Tryd.prog Rows.fnExactWithFiltersRow.laid w) (hr : IntsIn w A n xs) (hm : n ≤ maxLen) :
    Calls Tryd.prog 10 #[setV a b c, .slice A n cap] w fun e w' => e = .returned (.bool true) ∧ Below w.heap.size w w' := by
  obtain ⟨s, hE⟩ := errEnv_of_row hL (by kernel_rfl) (by kernel_rfl)
  have hT := timEnv_of_row hL (by kernel_rfl) (by kernel_rfl)
  unfold maxLen at hm
  by_cases hn : n ≤ 1048576
  · obtain ⟨x, y, z, hv⟩ := wfV_set a b c n xs
    have hsp := fun (g cap : Nat) (W : World) hrW => specWithFilters_any a b c g n cap xs ha ha' hb hb' hc hc' hn W hrW
    have him := fun (g cap : Nat) (W : World) hrW hTW hEW => WithFilters_any s a b c g n cap xs ha ha' hb hb' hc hc' W hrW hTW hEW
    rw [hv] at hsp him
    clear hv
    have Hsp := Lib.hid hsp; clear hsp
    have Him := Lib.hid him; clear him
    go_enter Tryd.func10, Tryd.ntmps10
    go_wp2_with fail
    refine (toSetting_any a b c _).mono ?_; rintro e w1 ⟨rfl, hb1⟩
    obtain ⟨hc1, hf1⟩ := bcell hb1
    have hz1 : w.heap.size < w1.heap.size := by have := hb1.size; simp at this; omega
    have k1 : Below w.heap.size w w1 := ((Below.refl _ _).alloc (Nat.le_refl _) _).trans (hb1.mono (by simp))
    go_wp2_with fail
    refine (toInt64S_any A n cap xs hn _ (hr.below k1 (Nat.le_refl _))).mono ?_; rintro e w2 ⟨rfl, hr2, hb2⟩
    obtain ⟨hc2, hf2⟩ := bcell hb2
    have hz2 : w.heap.size < w2.heap.size := by have := hb2.size; omega
    have k2 := k1.trans (hb2.mono k1.size)
    go_wp2_with fail
    refine (Hsp.out _ _ _ hr2).mono ?_; rintro e w3 ⟨rfl, hb3⟩
    obtain ⟨hc3, hf3⟩ := bcell hb3
    have hz3 : w.heap.size < w3.heap.size := by have := hb3.size; omega
    have k3 := k2.trans (hb3.mono k2.size)
    have k3' := k3.alloc k3.size (.cells #[.int .i8 x, .int .i8 y, .int .i8 z] 29)
    have s3 : w3.heap.size < (w3.alloc (.cells #[.int .i8 x, .int .i8 y, .int .i8 z] 29)).heap.size := by simp
    go_wp2_with fail
    refine (toInt64S_any A n cap xs hn _ (hr.below k3' (Nat.le_refl _))).mono ?_; rintro e w4 ⟨rfl, hr4, hb4⟩
    rw [World.size_alloc] at hr4
    obtain ⟨hc4, hf4⟩ := bcell hb4
    have hz4 : w.heap.size < w4.heap.size := by have := hb4.size; omega
    have hy4 : w3.heap.size < w4.heap.size := by have := hb4.size; omega
    have k4 := k3'.trans (hb4.mono k3'.size)
    go_wp2_with fail
    refine (toSetting_any a b c _).mono ?_; rintro e w5 ⟨rfl, hb5⟩
    obtain ⟨hc5, hf5⟩ := bcell hb5
    have hy5 : w3.heap.size < w5.heap.size := by have := hb5.size; omega
    have k5 := k4.trans (hb5.mono k4.size)
    have hr5 := rowIs_below hr4 hb5 hr4.lt
    go_wp2_with fail
    refine (Him.out _ _ _ hr5 (hT.below k5 (Nat.le_refl _)) (hE.below k5 (Nat.le_refl _))).mono ?_; rintro e w6 ⟨rfl, hb6⟩
    obtain ⟨hc6, hf6⟩ := bcell hb6
    have hy6 : w3.heap.size < w6.heap.size := by have := hb6.size; omega
    have k6 := k5.trans (hb6.mono k5.size)
    have hr6 := rowIs_below hr5 hb6 hr5.lt
    have k6' := k6.alloc k6.size (.cells #[.int .i8 x, .int .i8 y, .int .i8 z] 29)
    have hr6' := hr6.alloc (.cells #[.int .i8 x, .int .i8 y, .int .i8 z] 29)
    go_wp2_with fail
    refine (eqSetting_same x y z _).mono ?_; rintro e w7 ⟨rfl, hb7⟩
    have k7 := k6'.trans (hb7.mono k6'.size)
    have hr7 := rowIs_below hr6' hb7 hr6'.lt
    go_wp2_with fail
    refine (toInt64S_any A n cap xs hn _ (hr.below k7 (Nat.le_refl _))).mono ?_; rintro e w8 ⟨rfl, hr8, hb8⟩
    have k8 := k7.trans (hb8.mono k7.size)
    have hr9 := rowIs_below hr7 hb8 hr7.lt
    go_wp2_with fail
    refine (eqInt64S_same _ _ n n n xs hn _ hr9 hr8).mono ?_; rintro e w9 ⟨rfl, hb9⟩
    go_wp2_with fail
    go_ret
    exact ⟨rfl, k8.trans (hb9.mono k8.size)⟩
  · go_enter Tryd.func10, Tryd.ntmps10
    go_wp2
    go_ret
    exact ⟨rfl, (Below.refl _ _).alloc (Nat.le_refl _) _⟩
end Go.Proofs.YtmjoccgdpchjbaaDoor
