/-
  A mask read from its text by the reference. Condition: at most 1048576 bytes.
-/
import Derived.Test.YtiinkfnamhcekaaGreatDoorRdP
namespace Go.Proofs.YtiinkfnamhcekaaGreatDoor
open Go.RowKit

theorem at_B (s : ByteArray) (i : Nat) (h : i < s.size) : s.data.toList[i]? = some s[i] := by
  have h1 : i < s.data.toList.length := by simpa using h
  rw [List.getElem?_eq_getElem h1]; rfl
theorem u8_of (b : UInt8) (n : Nat) (h : b.toNat = n) (hn : n < 256) : b = UInt8.ofNat n := by
  rw [← UInt8.toNat_inj, UInt8.toNat_ofNat', h]; omega

end Go.Proofs.YtiinkfnamhcekaaGreatDoor
