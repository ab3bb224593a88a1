/-
  The reference's reader of a number. Condition: at most 1048576 bytes.
-/
import Derived.Test.YtnlcjbobfhmnmabGreatDoorSplit
import Derived.Deep.DeepCutAuto
namespace Go.Proofs.YtnlcjbobfhmnmabGreatDoor
open Go.RowKit

theorem dig_step (s : ByteArray) (k : Nat) (h : k < s.size) : numVal (s.data.toList.take (k + 1)) = 10 * numVal (s.data.toList.take k) + (s[k].toNat - 48) := by
  rw [take_snocB s k h, numVal_snoc]
theorem dig_all (s : ByteArray) (k : Nat) (h : k < s.size) (ha : allDig (s.data.toList.take k) = true) (hd : isDig s[k] = true) : allDig (s.data.toList.take (k + 1)) = true := by
  rw [take_snocB s k h]
  simp only [allDig, List.all_append, List.all_cons, List.all_nil, Bool.and_true, Bool.and_eq_true]
  exact ⟨ha, hd⟩
theorem dig_not (s : ByteArray) (k : Nat) (h : k < s.size) (hd : isDig s[k] = false) : allDig s.data.toList = false := by
  rcases hb : allDig s.data.toList with _ | _
  · rfl
  · have h1 : k < s.data.toList.length := by simpa using h
    have h2 := List.all_eq_true.1 hb (s.data.toList[k]) (List.getElem_mem h1)
    have h3 : s.data.toList[k] = s[k] := rfl
    rw [h3, hd] at h2; cases h2
theorem head_B (s : ByteArray) (h : 0 < s.size) : s.data.toList.head? = some s[0] := by
  have h1 : 0 < s.data.toList.length := by simpa using h
  rw [List.head?_eq_getElem?, List.getElem?_eq_getElem h1]
  rfl
theorem numOk_mk (s : ByteArray) (h : 0 < s.size) (h9 : s.size ≤ 9) (h0 : ¬ s[0].toNat = 48 ∨ s.size = 1) (hd : allDig s.data.toList = true) : numOk s.data.toList = true := by
  have hlen : s.data.toList.length = s.size := by simp
  have hne : s.data.toList ≠ [] := by intro e; rw [e] at hlen; simp at hlen; omega
  simp only [numOk, Bool.and_eq_true, Bool.not_eq_true', List.isEmpty_eq_false_iff, decide_eq_true_eq, hlen, head_B s h]
  refine ⟨⟨⟨hne, h9⟩, ?_⟩, hd⟩
  rcases h0 with h0 | h0
  · have : ¬ s[0] = 48 := fun e => h0 (by rw [e]; rfl)
    simp [this]
  · simp [h0]
theorem numOk_zero (s : ByteArray) (h : 1 < s.size) (h0 : s[0].toNat = 48) : numOk s.data.toList = false := by
  have hlen : s.data.toList.length = s.size := by simp
  have e : s[0] = 48 := by rw [← UInt8.toNat_inj]; exact h0
  have hh := head_B s (by omega)
  rw [e] at hh
  unfold numOk
  rw [hh, hlen]
  simp [h]
theorem numOk_long (s : ByteArray) (h : 9 < s.size) : numOk s.data.toList = false := by
  have hlen : s.data.toList.length = s.size := by simp
  have h1 : ¬ s.size ≤ 9 := by omega
  unfold numOk
  rw [hlen]
  simp [h1]
theorem numOk_dig (s : ByteArray) (h : allDig s.data.toList = false) : numOk s.data.toList = false := by
  unfold numOk
  rw [h]; simp

/-- What is read: a number of at most nine digits. -/
def numR (l : List UInt8) : Int := if numOk l = true then (numVal l : Int) else 0
def NumOut (l : List UInt8) (w : World) (e : Ending) (w' : World) : Prop := e = .returned (.tuple #[.int .i64 (numR l), .bool (numOk l)]) ∧ w = w'
theorem numOut_no {l : List UInt8} (h : numOk l = false) (w : World) : NumOut l w (.returned (.tuple #[.int .i64 0, .bool false])) w := by simp [NumOut, numR, h]
theorem numOut_yes {l : List UInt8} (h : numOk l = true) (w : World) {n : Int} (hn : n = numVal l) : NumOut l w (.returned (.tuple #[.int .i64 n, .bool true])) w := by simp [NumOut, numR, h, hn]

end Go.Proofs.YtnlcjbobfhmnmabGreatDoor
