/-
  The walk of the law FnExactReadMask: it returns true for every text. Condition: the listed variables hold what the row lists; the world is one that the program allows.
-/
import Derived.Test.YtiinkfnamhcekaaDoorRdI
namespace Go.Proofs.YtiinkfnamhcekaaDoor
open Go.RowKit

set_option maxRecDepth 100000 in
set_option maxHeartbeats 2000000 in
theorem walk_FnExactReadMask (s : ByteArray) (hs : s.size ≤ maxLen) (w : World) (hL : laidMetH Tryd.prog Rows.fnExactReadMaskRow.laid w) (hsh : w.ShapedOpen Tryd.prog) :
    Calls Tryd.prog 3 #[.string s] w fun e w' => e = .returned (.bool true) ∧ Below w.heap.size w w' := by
  obtain ⟨r, hE⟩ := errEnv_of_row hL (by kernel_rfl) (by kernel_rfl)
  obtain ⟨m0, hm0⟩ := maxLen_cell hsh
  clear hL hsh
  unfold maxLen at hs
  by_cases hn : s.size ≤ 1048576
  · have k1 := specReadMask_any s hn w
    have k2 := ReadMask_any r s hn m0 w hE hm0
    generalize rdX s.data.toList = X at *
    generalize rdC s.data.toList = C at *
    have K1 := Lib.hid k1; have K2 := Lib.hid k2
    clear k1 k2 hE hm0
    go_enter Tryd.func3, Tryd.ntmps3
    go_wp2_with fail
    refine K1.out.mono ?_; rintro e w1 ⟨rfl, rfl⟩
    go_wp2_with fail
    refine K2.out.mono ?_; rintro e w2 ⟨rfl, hb2⟩
    go_wp2_with fail
    go_ret
    exact ⟨rfl, hb2⟩
  · clear hE hm0
    go_enter Tryd.func3, Tryd.ntmps3
    go_wp2
    go_ret
    exact ⟨rfl, Below.refl _ _⟩
end Go.Proofs.YtiinkfnamhcekaaDoor
