/-
  The walk of the law FnExactValidStrip: it returns true for every strip. No condition.
-/
import Derived.Test.YtkhahffdacopdaaStrip
namespace Go.Proofs.Ytkhahffdacopdaa
open Go.RowKit

set_option maxHeartbeats 1000000 in
theorem walk_FnExactValidStrip (a b c : Int) (ha : -128 ≤ a) (ha' : a ≤ 127) (hb : -128 ≤ b) (hb' : b ≤ 127) (hc : -128 ≤ c) (hc' : c ≤ 127) (w : World) :
    Calls Try.prog 3 #[stV a b c] w fun e w' => e = .returned (.bool true) ∧ Below w.heap.size w w' := by
  go_enter Try.func3, Try.ntmps3
  go_wp2_with fail
  refine (toStrip_any a b c _).mono ?_; rintro e w1 ⟨rfl, hb1⟩
  obtain ⟨hc1, hf1⟩ := bcell hb1
  have hz1 : w.heap.size < w1.heap.size := by have := hb1.size; simp at this; omega
  go_wp2_with fail
  refine (specValidStrip_any a b c ha ha' hb hb' hc hc' _).mono ?_; rintro e w2 ⟨rfl, hb2⟩
  obtain ⟨hc2, hf2⟩ := bcell hb2
  have hz2 : w.heap.size < w2.heap.size := by have := hb2.size; omega
  go_wp2_with fail
  refine (toStrip_any a b c _).mono ?_; rintro e w3 ⟨rfl, hb3⟩
  go_wp2_with fail
  refine (ValidStrip_any a b c ha ha' hb hb' hc hc' _).mono ?_; rintro e w4 ⟨rfl, hb4⟩
  go_wp2_with fail
  go_ret
  have hB : w.heap.size ≤ (w.alloc (.cells #[.int .i8 a, .int .i8 b, .int .i8 c] 24)).heap.size := by simp
  have hz3 := hb3.size
  have k1 := ((Below.refl w.heap.size w).alloc (Nat.le_refl _) _).trans (hb1.mono hB)
  exact ⟨rfl, (((k1.trans (hb2.mono (by omega))).trans (hb3.mono (by omega))).trans (hb4.mono (by omega)))⟩
end Go.Proofs.Ytkhahffdacopdaa
