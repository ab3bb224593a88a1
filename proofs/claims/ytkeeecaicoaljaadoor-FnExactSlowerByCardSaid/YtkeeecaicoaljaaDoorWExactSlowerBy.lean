/-
  The walk of the law FnExactSlowerBy: it returns true for every argument. Condition: the listed variables hold what the row lists.
-/
import Derived.Test.YtkeeecaicoaljaaDoorTray
import Derived.Test.YtkeeecaicoaljaaDoorEnv
namespace Go.Proofs.YtkeeecaicoaljaaDoor
open Go.RowKit

set_option maxRecDepth 100000 in
set_option maxHeartbeats 1000000 in
theorem walk_FnExactSlowerBy (x : Int) (_h0 : -9223372036854775808 ≤ x) (_h1 : x ≤ 9223372036854775807) (w : World) (hL : laidMetH Tryd.prog Rows.fnExactSlowerByRow.laid w) :
    Calls Tryd.prog 5 #[.int .i64 x] w fun e w' => e = .returned (.bool true) ∧ Below w.heap.size w w' := by
  obtain ⟨z, hE⟩ := errEnv_of_row hL (by kernel_rfl) (by kernel_rfl)
  have hT := timEnv_of_row hL (by kernel_rfl) (by kernel_rfl)
  have hsp := fun W => specSlowerBy_any x W
  have him := fun W hT hE => SlowerBy_any z x W hT hE
  generalize slwR x = R at hsp him
  generalize slwC x = C at hsp him
  have Hsp := Lib.hid hsp; clear hsp
  have Him := Lib.hid him; clear him
  go_enter Tryd.func5, Tryd.ntmps5
  go_wp2_with fail
  refine (Hsp.out _).mono ?_; rintro e w1 ⟨rfl, hb1⟩
  go_wp2_with fail
  refine (Him.out _ (hT.below hb1 (Nat.le_refl _)) (hE.below hb1 (Nat.le_refl _))).mono ?_; rintro e w2 ⟨rfl, hb2⟩
  go_wp2_with fail
  go_ret
  exact ⟨rfl, hb1.trans (hb2.mono hb1.size)⟩
end Go.Proofs.YtkeeecaicoaljaaDoor
