/-
  The walk of the law FnExactStripText: it returns true for every strip. No condition.
-/
import Derived.Test.YtkeigoighebjpaaDoorStripT
import Derived.Test.YtkeigoighebjpaaDoorEnv
namespace Go.Proofs.YtkeigoighebjpaaDoor
open Go.RowKit

set_option maxHeartbeats 1000000 in
theorem walk_FnExactStripText (a b c : Int) (ha : -128 ≤ a) (ha' : a ≤ 127) (hb : -128 ≤ b) (hb' : b ≤ 127) (hc : -128 ≤ c) (hc' : c ≤ 127) (w : World) (_hL : laidMetH Tryd.prog Rows.fnExactStripTextRow.laid w) :
    Calls Tryd.prog 6 #[stV a b c] w fun e w' => e = .returned (.bool true) ∧ Below w.heap.size w w' := by
  have k1 := specStripText_any a b c ha ha' hb hb' hc hc'
  have k2 := StripText_any a b c ha ha' hb hb' hc hc'
  generalize stripTx a b c = x at k1 k2
  have K1 := Lib.hid k1; clear k1
  have K2 := Lib.hid k2; clear k2
  have k0 : Below w.heap.size w (w.alloc (.cells #[.int .i8 a, .int .i8 b, .int .i8 c] 48)) := (Below.refl _ _).alloc (Nat.le_refl _) _
  go_enter Tryd.func6, Tryd.ntmps6
  go_wp2_with fail
  refine (toStrip_any a b c _).mono ?_; rintro e w1 ⟨rfl, hb1⟩
  obtain ⟨q1, f1⟩ := bcell hb1
  have hz1 : w.heap.size < w1.heap.size := by have := hb1.size; simp at this; omega
  have k1 := k0.trans (hb1.mono k0.size)
  go_wp2_with fail
  refine (K1.out _).mono ?_; rintro e w2 ⟨rfl, hb2⟩
  obtain ⟨q2, f2⟩ := bcell hb2
  have k2 := k1.trans (hb2.mono k1.size)
  go_wp2_with fail
  refine (toStrip_any a b c _).mono ?_; rintro e w3 ⟨rfl, hb3⟩
  have k3 := k2.trans (hb3.mono k2.size)
  go_wp2_with fail
  refine (K2.out _).mono ?_; rintro e w4 ⟨rfl, hb4⟩
  go_wp2_with fail
  go_ret
  exact ⟨rfl, k3.trans (hb4.mono k3.size)⟩
end Go.Proofs.YtkeigoighebjpaaDoor
