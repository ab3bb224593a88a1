/-
  The walk of the law FnExactReadStrip: it returns true for every text. Condition: the listed variables hold what the row lists.
-/
import Derived.Test.YtkeigoighebjpaaDoorReadRI
namespace Go.Proofs.YtkeigoighebjpaaDoor
open Go.RowKit

set_option maxRecDepth 100000 in
set_option maxHeartbeats 2000000 in
theorem walk_FnExactReadStrip (s : ByteArray) (hs : s.size ≤ maxLen) (w : World) (hL : laidMetH Tryd.prog Rows.fnExactReadStripRow.laid w) :
    Calls Tryd.prog 7 #[.string s] w fun e w' => e = .returned (.bool true) ∧ Below w.heap.size w w' := by
  obtain ⟨r, hE⟩ := errEnv_of_row hL (by kernel_rfl) (by kernel_rfl)
  obtain ⟨q1, q2, hB⟩ := libEnv_of_row hL (by kernel_rfl) (by kernel_rfl)
  unfold maxLen at hs
  have HE := Lib.hid hE; clear hE
  have HB := Lib.hid hB; clear hB
  by_cases hn : s.size ≤ 1048576
  · have k1 := specReadStrip_any s hn
    have k2 := fun (W : World) hW hB => ReadStrip_any r q1 q2 s.data.toList (by simpa using hn) W hW hB
    rw [strV_self] at k2
    obtain ⟨x, y, z, hv⟩ := rsV_set s.data.toList
    rw [hv] at k1 k2
    generalize rsC s.data.toList = C at k1 k2
    unfold StpOut at k1 k2
    have K1 := Lib.hid k1; clear k1 hv
    have K2 := Lib.hid k2; clear k2
    go_enter Tryd.func7, Tryd.ntmps7
    go_wp2_with fail
    refine (K1.out _).mono ?_; rintro e w1 ⟨rfl, hb1⟩
    have b1 : Below w.heap.size w (w1.alloc (.cells #[.int .i8 x, .int .i8 y, .int .i8 z] 50)) := hb1.alloc hb1.size _
    have S1 := StAt.new w1 50 x y z
    go_wp2_with fail
    refine (K2.out _ (HE.out.below b1 (Nat.le_refl _)) (HB.out.below b1 (Nat.le_refl _))).mono ?_; rintro e w2 ⟨rfl, hb2⟩
    obtain ⟨q1, f1⟩ := bcell hb2
    have b2 := b1.trans (hb2.mono (by have := b1.size; simpa using this))
    have z2 : w1.heap.size < w2.heap.size := by have := hb2.size; simp at this; omega
    obtain ⟨s0, s1, s2⟩ := S1.below hb2 S1.lt
    go_wp2_with fail
    refine (eqStrip_same x y z _).mono ?_; rintro e w3 ⟨rfl, hb3⟩
    go_wp2_with fail
    go_ret
    exact ⟨rfl, (b2.alloc b2.size _).trans (hb3.mono (by have := b2.size; simp; omega))⟩
  · go_enter Tryd.func7, Tryd.ntmps7
    go_wp2
    go_ret
    exact ⟨rfl, Below.refl _ _⟩
end Go.Proofs.YtkeigoighebjpaaDoor
