/-
  The reference's readers: splitting a text at a blank, a name sought, a number read. Condition: at most 1048576 bytes.
-/
import Derived.Test.YtnlcjbobfhmnmabGreatDoorTxtX
import Derived.Test.YtnlcjbobfhmnmabGreatDoorOwn
import Derived.Maps.AppendAt
import Derived.Deep.RegionWith
namespace Go.Proofs.YtnlcjbobfhmnmabGreatDoor
open Go.RowKit

theorem strInfo : (Tryz.prog.info? 9).map (fun i => (i.zero, i.size, i.bytes)) = some (some (.string ⟨#[]⟩), 1, 16) := by kernel_rfl
theorem take_snocB (s : ByteArray) (k : Nat) (h : k < s.size) : s.data.toList.take (k + 1) = s.data.toList.take k ++ [s[k]] := by
  rw [List.take_succ_eq_append_getElem (by simpa using h)]; rfl
theorem spTo_yes (s : ByteArray) (k : Nat) (h : k < s.size) (e : s[k] = 32) : spTo 32 (s.data.toList.take (k + 1)) = ((spTo 32 (s.data.toList.take k)).1 ++ [(spTo 32 (s.data.toList.take k)).2], []) := by
  rw [take_snocB s k h, spTo_snoc, spStep, if_pos e]
theorem spTo_no (s : ByteArray) (k : Nat) (h : k < s.size) (e : ¬ s[k] = 32) : spTo 32 (s.data.toList.take (k + 1)) = ((spTo 32 (s.data.toList.take k)).1, (spTo 32 (s.data.toList.take k)).2 ++ [s[k]]) := by
  rw [take_snocB s k h, spTo_snoc, spStep, if_neg e]
theorem drop_snocB (s : ByteArray) (b k : Nat) (hb : b ≤ k) (h : k < s.size) : (s.data.toList.take (k + 1)).drop b = (s.data.toList.take k).drop b ++ [s[k]] := by
  rw [take_snocB s k h, List.drop_append_of_le_length]
  have : s.data.toList.length = s.size := by simp
  rw [List.length_take]; omega

/-- What comes back: a list of texts in memory of the call's own. -/
def MadeStr (l : List (List UInt8)) (w : World) (e : Ending) (w' : World) : Prop :=
  ∃ v, e = .returned v ∧ Mine w' w.heap.size w'.heap.size 9 1 v l.length (fun j => strV (l.getD j [])) ∧ Below w.heap.size w w'
theorem Mine.of_strs {w : World} {L : Nat} {v : Value} {l : List (List UInt8)} (h : w.ownsRow L 9 1 v l.length (l.map strV)) : Mine w L w.heap.size 9 1 v l.length (fun j => strV (l.getD j [])) :=
  (Mine.of_own h).congr fun j hj => by
    have hj' : j < l.length := by omega
    simp [hj']

end Go.Proofs.YtnlcjbobfhmnmabGreatDoor
