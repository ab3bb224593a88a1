/-
  The walk of the law FnExactSceneText: it returns true for every argument. No condition.
-/
import Derived.Test.YtmphmpddlgcofaaDoorOpenA
import Derived.Test.YtmphmpddlgcofaaDoorScTI
namespace Go.Proofs.YtmphmpddlgcofaaDoor
open Go.RowKit

set_option maxRecDepth 100000 in
set_option maxHeartbeats 1000000 in
theorem walk_FnExactSceneText (f : Nat → Int) (w : World) (_hL : laidMetH Tryd.prog Rows.fnExactSceneTextRow.laid w) (hf : S8 f) :
    Calls Tryd.prog 5 #[.agg (arrV .i8 24 f)] w fun e w' => e = .returned (.bool true) ∧ Below w.heap.size w w' := by
  have a1 := HasArr.new w 23 .i8 24 f
  have k0 := (Below.refl w.heap.size w).alloc (Nat.le_refl _) (.cells (arrV .i8 24 f) 23)
  have hs := fun W => specSceneText_any f hf W
  have hi := fun W => SceneText_any f W
  clear _hL
  generalize scT f = V0 at *
  have Hs := Lib.hid hs; clear hs
  have Hi := Lib.hid hi; clear hi
  have K0 := Lib.hid k0; clear k0 hf
  go_enter Tryd.func5, Tryd.ntmps5
  go_wp2_with (refine wpList_load_arr a1 _ _ rfl rfl rfl Tryd.underlying23 sizeA24 ?_)
  refine (toScene_any _ _).mono ?_; rintro e w1 ⟨rfl, hb1⟩
  have k1 := K0.out.trans (hb1.mono K0.out.size)
  have a2 := a1.below hb1 (by simp)
  go_wp2_with fail
  refine (Hs.out _).mono ?_; rintro e w2 ⟨rfl, hb2⟩
  have k2 := k1.trans (hb2.mono k1.size)
  have a3 := a2.below hb2 a2.lt
  clear a1 a2 hb1 hb2
  go_wp2_with (refine wpList_load_arr a3 _ _ rfl rfl rfl Tryd.underlying23 sizeA24 ?_)
  refine (toScene_any _ _).mono ?_; rintro e w3 ⟨rfl, hb3⟩
  have k3 := k2.trans (hb3.mono k2.size)
  go_wp2_with fail
  refine (Hi.out _).mono ?_; rintro e w4 ⟨rfl, hb4⟩
  have k4 := k3.trans (hb4.mono k3.size)
  clear a3
  go_wp2_with fail
  go_ret
  exact ⟨rfl, k4⟩
end Go.Proofs.YtmphmpddlgcofaaDoor
