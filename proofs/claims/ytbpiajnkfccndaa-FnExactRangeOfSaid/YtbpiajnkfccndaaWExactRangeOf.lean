/-
  The walk of the law FnExactRangeOf: it returns true for every argument. No condition.
-/
import Derived.Test.YtbpiajnkfccndaaOpenA
import Derived.Test.YtbpiajnkfccndaaRangeOf
namespace Go.Proofs.Ytbpiajnkfccndaa
open Go.RowKit

set_option maxRecDepth 100000 in
set_option maxHeartbeats 2000000 in
theorem walk_FnExactRangeOf (f : Nat → Int) (w : World) (hf : Sm16 f) :
    Calls Try.prog 7 #[.agg (arrV .i16 64 f)] w fun e w' => e = .returned (.bool true) ∧ Below w.heap.size w w' := by
  have a1 := HasArr.new w 23 .i16 64 f
  have k0 := (Below.refl w.heap.size w).alloc (Nat.le_refl _) (.cells (arrV .i16 64 f) 23)
  have hs := fun W => specRangeOf_any f hf W
  have hi := fun W => RangeOf_any f hf W
  generalize lowN f 63 = L at *
  generalize highN f 63 = M at *
  clear hf
  rcases hv : dnsB f with _ | _
  all_goals
    rw [hv] at hs hi
    simp only [if_true, Bool.false_eq_true, if_false] at hs hi
    have Hs := Lib.hid hs; clear hs
    have Hi := Lib.hid hi; clear hi hv
    have K0 := Lib.hid k0; clear k0
    go_enter Try.func7, Try.ntmps7
    go_wp2_with (refine wpList_load_arr a1 _ _ rfl rfl rfl Try.underlying23 sizeA64 ?_)
    refine (toPrint_16 _ _).mono ?_; rintro e w1 ⟨rfl, hb1⟩
    have k1 := K0.out.trans (hb1.mono K0.out.size)
    have b1 := a1.below hb1 (by simp)
    clear a1 hb1
    go_wp2_with fail
    refine (Hs.out _).mono ?_; rintro e w2 ⟨rfl, hb2⟩
    have k2 := k1.trans (hb2.mono k1.size)
    have c1 := b1.below hb2 b1.lt
    clear k1 b1 hb2
    go_wp2_with (refine wpList_load_arr c1 _ _ rfl rfl rfl Try.underlying23 sizeA64 ?_)
    refine (toPrint_16 _ _).mono ?_; rintro e w3 ⟨rfl, hb3⟩
    have k3 := k2.trans (hb3.mono k2.size)
    clear k2 c1 hb3
    go_wp2_with fail
    refine (Hi.out _).mono ?_; rintro e w4 ⟨rfl, hb4⟩
    have k4 := k3.trans (hb4.mono k3.size)
    clear k3 hb4
    go_wp2_with fail
    go_ret
    exact ⟨rfl, k4⟩
end Go.Proofs.Ytbpiajnkfccndaa
