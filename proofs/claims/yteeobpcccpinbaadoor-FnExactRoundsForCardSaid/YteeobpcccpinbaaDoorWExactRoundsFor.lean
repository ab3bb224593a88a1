/-
  The walk of the law FnExactRoundsFor: it returns true for every argument. Condition: the listed variables hold what the row lists.
-/
import Derived.Test.YteeobpcccpinbaaDoorRndI
import Derived.Test.YteeobpcccpinbaaDoorEnv
namespace Go.Proofs.YteeobpcccpinbaaDoor
open Go.RowKit

set_option maxRecDepth 100000 in
set_option maxHeartbeats 1000000 in
theorem walk_FnExactRoundsFor (x : Int) (h1 : 0 ≤ x) (h2 : x ≤ 18446744073709551615) (w : World) (hL : laidMetH Tryd.prog Rows.fnExactRoundsForRow.laid w) :
    Calls Tryd.prog 7 #[.int .u64 x] w fun e w' => e = .returned (.bool true) ∧ Below w.heap.size w w' := by
  obtain ⟨s, hE⟩ := errEnv_of_row hL (by kernel_rfl) (by kernel_rfl)
  clear hL
  obtain ⟨m, rfl⟩ := bvI_of h1 h2
  clear h1 h2
  obtain ⟨R, c, hs, hi⟩ := rounds_both m
  have Hs := Lib.hid hs; have Hi := Lib.hid (hi s); clear hs hi
  have HE := Lib.hid hE; clear hE
  go_enter Tryd.func7, Tryd.ntmps7
  go_wp2_with fail
  refine (Hs.out _).mono ?_; rintro e w1 ⟨rfl, hb1⟩
  go_wp2_with fail
  refine (Hi.out _ (HE.out.below hb1 (Nat.le_refl _))).mono ?_; rintro e w2 ⟨rfl, hb2⟩
  have k2 := hb1.trans (hb2.mono hb1.size)
  go_wp2_with fail
  go_ret
  exact ⟨rfl, k2⟩
end Go.Proofs.YteeobpcccpinbaaDoor
