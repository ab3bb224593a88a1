/-
  The laws' own copying and comparing of settings. No condition.
-/
import Derived.Test.YtakmekidnfeciaaDoorSets
import Derived.Test.YtakmekidnfeciaaDoorEnv
import Derived.Test.YtakmekidnfeciaaDoorMore2
namespace Go.Proofs.YtakmekidnfeciaaDoor
open Go.RowKit

set_option maxHeartbeats 1000000 in
theorem eqSetting_same (x y z : Int) (w : World) :
    Calls Tryd.prog 38 #[setV x y z, setV x y z] w fun e w' => e = .returned (.bool true) ∧ Below w.heap.size w w' := by
  go_enter Tryd.func38, Tryd.ntmps38
  go_wp2
  go_ret
  refine ⟨rfl, ?_⟩
  repeat (first | exact Below.refl _ _ | assumption | apply Below.drew | apply below_drewN | (refine Below.alloc ?_ (by first | omega | (simp; done) | (simp; omega)) _) | (refine Below.setCell ?_ (by first | omega | (simp; done) | (simp; omega)) _))
theorem eqSetting_val {v : Value} (h : ∃ x y z, v = setV x y z) (w : World) :
    Calls Tryd.prog 38 #[v, v] w fun e w' => e = .returned (.bool true) ∧ Below w.heap.size w w' := by
  obtain ⟨x, y, z, rfl⟩ := h
  exact eqSetting_same x y z w

theorem moreV_set (a b c t : Int) : ∃ x y z, moreV a b c t = setV x y z := by
  unfold moreV
  split
  · exact ⟨_, _, _, rfl⟩
  · exact ⟨_, _, _, rfl⟩
end Go.Proofs.YtakmekidnfeciaaDoor
