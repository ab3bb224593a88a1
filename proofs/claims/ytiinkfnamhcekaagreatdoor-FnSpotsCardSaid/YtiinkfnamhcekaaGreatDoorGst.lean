/-
  The greatest spot: what both sides' functions return. Condition of the program's: its variables hold their own errors.
-/
import Derived.Test.YtiinkfnamhcekaaGreatDoorSpotI
import Derived.Test.YtiinkfnamhcekaaGreatDoorOnesI
import Derived.Test.YtiinkfnamhcekaaGreatDoorRndI
namespace Go.Proofs.YtiinkfnamhcekaaGreatDoor
open Go.RowKit

/-- The first one of those with the most cells. -/
def gB (f : Nat → BitVec 64) : Nat → BitVec 64
  | 0 => f 0
  | i + 1 => if cntB (gB f i) 64 < cntB (f (i + 1)) 64 then f (i + 1) else gB f i
theorem spL_zero : ∀ i, spL 0#64 i = []
  | 0 => rfl
  | i + 1 => by rw [spL_no (by simp), spL_zero i]
theorem spL_pos {M : BitVec 64} (h : M ≠ 0#64) : 1 ≤ (spL M 64).length := by
  obtain ⟨x, hx, hb⟩ := bv_ne.1 h
  obtain ⟨C, hC, _⟩ := (spL_mem 64 x).2 ⟨x, hx, hb, .start⟩
  exact List.length_pos_of_mem hC
noncomputable def spF (M : BitVec 64) (j : Nat) : BitVec 64 := (spL M 64).getD j 0#64
noncomputable def gstT (M : BitVec 64) : Array Value := if M = 0#64 then #[.int .u64 0, .int .i64 6] else #[.int .u64 (bvI (gB (spF M) ((spL M 64).length - 1))), .int .i64 0]

end Go.Proofs.YtiinkfnamhcekaaGreatDoor
