/-
  The walk of the law FnExactPlaceFor: it returns true for every argument. Condition: the listed variables hold what the row lists.
-/
import Derived.Test.YtaanboedhabheaaDoorPlcJ
import Derived.Test.YtaanboedhabheaaDoorEnv
namespace Go.Proofs.YtaanboedhabheaaDoor
open Go.RowKit

set_option maxHeartbeats 1000000 in
theorem walk_FnExactPlaceFor (x : Int) (_hx : -9223372036854775808 ≤ x) (_hx' : x ≤ 9223372036854775807) (z : Int) (_hz : -9223372036854775808 ≤ z) (_hz' : z ≤ 9223372036854775807) (w : World) (hL : laidMetH Tryd.prog Rows.fnExactPlaceForRow.laid w) :
    Calls Tryd.prog 10 #[.int .i64 x, .int .i64 z] w fun e w' => e = .returned (.bool true) ∧ Below w.heap.size w w' := by
  obtain ⟨s, hE⟩ := errEnv_of_row hL (by kernel_rfl) (by kernel_rfl)
  have hsp := fun W => specPlaceFor_any x z W
  have him := fun W h => PlaceFor_any s x z W h
  generalize ifS (plC x z) x = X at *
  generalize ifS (plC x z) z = Z at *
  generalize plC x z = C at *
  have Hsp := Lib.hid hsp; clear hsp
  have Him := Lib.hid him; clear him
  have HE := Lib.hid hE; clear hE
  go_enter Tryd.func10, Tryd.ntmps10
  go_wp2_with fail
  refine (Hsp.out _).mono ?_; rintro e w2 ⟨rfl, hb2⟩
  have k2 := hb2
  go_wp2_with fail
  refine (Him.out _ (HE.out.below (k2.alloc k2.size (.cells #[.int .i8 X, .int .i8 Z] 37)) (Nat.le_refl _))).mono ?_; rintro e w4 ⟨rfl, hb4⟩
  obtain ⟨hc4, hf4⟩ := bcell hb4
  have hz4 : w2.heap.size < w4.heap.size := by have := hb4.size; simp at this; omega
  have k4 := (k2.alloc k2.size (.cells #[.int .i8 X, .int .i8 Z] 37)).trans (hb4.mono (by have := k2.size; simp; omega))
  go_wp2_with fail
  refine (eqPlacement_same X Z _).mono ?_; rintro e w5 ⟨rfl, hb5⟩
  have k5 := (k4.alloc k4.size (.cells #[.int .i8 X, .int .i8 Z] 37)).trans (hb5.mono (by have := k4.size; simp; omega))
  go_wp2_with fail
  go_ret
  exact ⟨rfl, k5⟩
end Go.Proofs.YtaanboedhabheaaDoor
