/-
  The laws' own comparison of negatives and of prints, at the same numbers. No condition.
-/
import Derived.Test.YtnlcjbobfhmnmaaDoorArrTools
namespace Go.Proofs.YtnlcjbobfhmnmaaDoor
open Go.RowKit

set_option maxRecDepth 100000 in
set_option maxHeartbeats 1000000 in
theorem eqPrint_same (f : Nat → Int) (w : World) :
    Calls Tryd.prog 12 #[.agg (arrV .i16 64 f), .agg (arrV .i16 64 f)] w fun e w' => e = .returned (.bool true) ∧ Below w.heap.size w w' := by
  have a1 := (HasArr.new w 28 .i16 64 f).alloc (.cells (arrV .i16 64 f) 28)
  have a2 : HasArr ((w.alloc (.cells (arrV .i16 64 f) 28)).alloc (.cells (arrV .i16 64 f) 28)) (w.heap.size + 1) 28 .i16 64 f := by
    have h := HasArr.new (w.alloc (.cells (arrV .i16 64 f) 28)) 28 .i16 64 f
    simpa using h
  have k0 := ((Below.refl w.heap.size w).alloc (Nat.le_refl _) (.cells (arrV .i16 64 f) 28)).alloc (by simp) (.cells (arrV .i16 64 f) 28)
  have K0 := Lib.hid (And.intro a1 (And.intro a2 k0))
  clear a1 a2 k0
  go_enter Tryd.func12, Tryd.ntmps12
  go_wp2_with fail
  go_loopw [5] (fun i wr => ∃ k : Nat, k ≤ 64 ∧ i = .int .i64 k ∧ HasArr wr w.heap.size 28 .i16 64 f ∧ HasArr wr (w.heap.size + 1) 28 .i16 64 f ∧ Below w.heap.size w wr) (fun i _ => 64 - (intOf i).toNat)
  case atStart => exact ⟨0, by omega, rfl, K0.out⟩
  case round =>
    obtain ⟨k, hk, rfl, h1, h2, hB⟩ := hrel
    by_cases hkn : k < 64
    · have c1 := h1.cell hkn
      have c2 := h2.cell hkn
      have w1 : (k : Int) < 64 := by omega
      have K := Lib.hid (fun n => And.intro (h1.drewN n) (And.intro (h2.drewN n) (below_drewA hB n)))
      clear h1 h2 hB
      go_wp2_with fail
      go_quiet (fail)
      go_wp2
      go_roundw
      case rel => exact ⟨k + 1, by omega, by go_num, K.out _⟩
      case measure => simp [intOf]; omega
    · go_wp2
      go_ret
      exact ⟨rfl, hB⟩
end Go.Proofs.YtnlcjbobfhmnmaaDoor
