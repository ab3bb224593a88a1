/-
  The walk of the law FnExactGreatestSpot: it returns true for every argument. Condition: the listed variables hold what the row lists.
-/
import Derived.Test.YteeobpcccpinbaaDoorGstJ
import Derived.Test.YteeobpcccpinbaaDoorEnv
namespace Go.Proofs.YteeobpcccpinbaaDoor
open Go.RowKit

set_option maxRecDepth 100000 in
set_option maxHeartbeats 1000000 in
theorem walk_FnExactGreatestSpot (x : Int) (h1 : 0 ≤ x) (h2 : x ≤ 18446744073709551615) (w : World) (hL : laidMetH Tryd.prog Rows.fnExactGreatestSpotRow.laid w) :
    Calls Tryd.prog 5 #[.int .u64 x] w fun e w' => e = .returned (.bool true) ∧ Below w.heap.size w w' := by
  obtain ⟨s, hE⟩ := errEnv_of_row hL (by kernel_rfl) (by kernel_rfl)
  clear hL
  obtain ⟨m, rfl⟩ := bvI_of h1 h2
  clear h1 h2
  have hs := fun W => specGreatestSpot_any m W
  have hi := fun W h => GreatestSpot_any s m W h
  obtain ⟨R, _, c, _, _, hT⟩ := gst_code s m
  simp only [hT] at hs hi
  clear hT
  have Hs := Lib.hid hs; have Hi := Lib.hid hi; clear hs hi
  have HE := Lib.hid hE; clear hE
  go_enter Tryd.func5, Tryd.ntmps5
  go_wp2_with fail
  refine (Hs.out _).mono ?_; rintro e w1 ⟨rfl, hb1⟩
  go_wp2_with fail
  refine (Hi.out _ (HE.out.below hb1 (Nat.le_refl _))).mono ?_; rintro e w2 ⟨rfl, hb2⟩
  have k2 := hb1.trans (hb2.mono hb1.size)
  go_wp2_with fail
  go_ret
  exact ⟨rfl, k2⟩
end Go.Proofs.YteeobpcccpinbaaDoor
