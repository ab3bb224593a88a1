/-
  The walk of the law FnExactZoneOf: it returns true for every argument. Condition: the listed variables hold what the row lists.
-/
import Derived.Test.YtaanboedhabheaaDoorPlcI
import Derived.Test.YtaanboedhabheaaDoorEnv
namespace Go.Proofs.YtaanboedhabheaaDoor
open Go.RowKit

set_option maxHeartbeats 1000000 in
theorem walk_FnExactZoneOf (r z : Int) (hr : -128 ≤ r) (hr' : r ≤ 127) (hz : -128 ≤ z) (hz' : z ≤ 127) (x : Int) (_hx : -9223372036854775808 ≤ x) (_hx' : x ≤ 9223372036854775807) (w : World) (hL : laidMetH Tryd.prog Rows.fnExactZoneOfRow.laid w) :
    Calls Tryd.prog 6 #[plcV r z, .int .i64 x] w fun e w' => e = .returned (.bool true) ∧ Below w.heap.size w w' := by
  obtain ⟨s, hE⟩ := errEnv_of_row hL (by kernel_rfl) (by kernel_rfl)
  have hsp := fun W => specZoneOf_any r z x hr hr' hz hz' W
  have him := fun W h => ZoneOf_any s r z x hr hr' hz hz' W h
  generalize ifS (zonC r z x) (zonZ r z x) = V at *
  generalize zonC r z x = C at *
  have Hsp := Lib.hid hsp; clear hsp
  have Him := Lib.hid him; clear him
  have HE := Lib.hid hE; clear hE
  go_enter Tryd.func6, Tryd.ntmps6
  go_wp2_with fail
  refine (toPlacement_any r z _).mono ?_; rintro e w1 ⟨rfl, hb1⟩
  obtain ⟨hc1, hf1⟩ := bcell hb1
  have hz1 : w.heap.size < w1.heap.size := by have := hb1.size; simp at this; omega
  have k1 : Below w.heap.size w w1 := ((Below.refl _ _).alloc (Nat.le_refl _) _).trans (hb1.mono (by simp))
  go_wp2_with fail
  refine (Hsp.out _).mono ?_; rintro e w2 ⟨rfl, hb2⟩
  obtain ⟨hc2, hf2⟩ := bcell hb2
  have hz2 : w.heap.size < w2.heap.size := by have := hb2.size; omega
  have k2 := k1.trans (hb2.mono k1.size)
  go_wp2_with fail
  refine (toPlacement_any r z _).mono ?_; rintro e w3 ⟨rfl, hb3⟩
  have k3 := k2.trans (hb3.mono k2.size)
  go_wp2_with fail
  refine (Him.out _ (HE.out.below k3 (Nat.le_refl _))).mono ?_; rintro e w4 ⟨rfl, hb4⟩
  have k4 := k3.trans (hb4.mono k3.size)
  go_wp2_with fail
  go_ret
  exact ⟨rfl, k4⟩
end Go.Proofs.YtaanboedhabheaaDoor
