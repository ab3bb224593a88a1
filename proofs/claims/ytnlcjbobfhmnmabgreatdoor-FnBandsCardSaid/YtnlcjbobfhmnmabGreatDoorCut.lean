/-
  Cutting a text at one byte: what Go's own function returns. Condition: at most 1048576 bytes.
-/
import Derived.Test.YtnlcjbobfhmnmabGreatDoorNames
import Derived.Test.YtnlcjbobfhmnmabGreatDoorTxtX
import Derived.Lib.Bytealg
namespace Go.Proofs.YtnlcjbobfhmnmabGreatDoor
open Go.RowKit

set_option maxRecDepth 100000 in
theorem slIndexByte_any (s : ByteArray) (w : World) :
    Calls Tryz.prog 114 #[.string s, .int .u8 32] w fun e w' => e = .returned (.int .i64 (Lib.indexByte s.data.toList 32)) ∧ w = w' := by
  have hx := @run_callFunc_extern Tryz.prog 133 _ Extern.BytealgIndexByte.indexByte Tryz.func133 (by kernel_rfl) (by kernel_rfl) (by kernel_rfl) (by kernel_rfl)
  have hr := fun W => Lib.run_indexByteString (P := Tryz.prog) s 32 W
  rw [show (32 : Int).toNat.toUInt8 = (32 : UInt8) from rfl] at hr
  generalize Lib.indexByte s.data.toList 32 = x at hr ⊢
  go_enter Tryz.func114, Tryz.ntmps114
  go_wp2_with fail
  go_ret
  exact ⟨rfl, rfl⟩

set_option maxRecDepth 100000 in
set_option maxHeartbeats 1000000 in
theorem slIndex_any (s : ByteArray) (w : World) :
    Calls Tryz.prog 97 #[.string s, .string ⟨#[32]⟩] w fun e w' => e = .returned (.int .i64 (Lib.indexByte s.data.toList 32)) ∧ w = w' := by
  have hx := slIndexByte_any s
  by_cases h : [32] = s.toList
  · have e : Lib.indexByte s.data.toList 32 = 0 := by rw [← Lib.toList_data, ← h]; rfl
    have hb : ([32] == s.toList) = true := by rw [← h]; rfl
    rw [e]
    clear e hx
    have H := Lib.hid h; clear h
    go_enter Tryz.func97, Tryz.ntmps97
    go_wp2_with fail
    go_ret
    exact ⟨rfl, rfl⟩
  · have hb : ([32] == s.toList) = false := by simpa using h
    generalize Lib.indexByte s.data.toList 32 = x at hx ⊢
    have Hx := Lib.hid hx; clear hx
    go_enter Tryz.func97, Tryz.ntmps97
    go_wp2_with fail
    refine (Hx.out _).mono ?_; rintro e w1 ⟨rfl, rfl⟩
    go_wp2_with fail
    go_ret
    exact ⟨rfl, rfl⟩

theorem strV_self (s : ByteArray) : strV s.data.toList = .string s := by
  show Value.string ⟨s.data.toList.toArray⟩ = _
  rw [Array.toArray_toList]

/-- What is cut: the text ahead of the first blank, and the one behind it. -/
def CutOut (l : List UInt8) (w : World) (e : Ending) (w' : World) : Prop := ∃ fd, e = .returned (.tuple #[strV (cutL 32 l).1, strV (cutL 32 l).2, .bool fd]) ∧ ∃ m, w' = w.drewN m

set_option maxRecDepth 100000 in
set_option maxHeartbeats 1000000 in
theorem slCut_any (s : ByteArray) (hs : s.size ≤ 1048576) (w : World) :
    Calls Tryz.prog 84 #[.string s, .string ⟨#[32]⟩] w (CutOut s.data.toList w) := by
  have hx := slIndex_any s
  have hlen : s.data.toList.length = s.size := by simp
  rcases idx_cases 32 s.data.toList with ⟨h1, h2⟩ | ⟨x, r, h1, h2, h3⟩
  · have hc := cut_none h2
    rw [h1] at hx
    have Hc := Lib.hid hc; clear hc h1 h2 hlen
    have Hx := Lib.hid hx; clear hx
    go_enter Tryz.func84, Tryz.ntmps84
    go_wp2_with fail
    refine (Hx.out _).mono ?_; rintro e w1 ⟨rfl, rfl⟩
    go_wp2_with fail
    go_ret3
    exact ⟨false, by rw [Hc.out, strV_self]; rfl, 0, rfl⟩
  · have hc := cut_hit r h2
    rw [← h1] at hc
    rw [h3] at hx
    have hl : x.length + 1 + r.length = s.size := by rw [← hlen, h1]; simp; omega
    have e1 : strV x = .string (s.extract 0 x.length) := by
      rw [← piece_eq, h1]; simp
    have e2 : strV r = .string (s.extract (x.length + 1) s.size) := by
      rw [← piece_eq, List.take_of_length_le (by omega), h1]; simp
    have hk : x.length < s.size := by omega
    generalize x.length = k at hx e1 e2 hk
    have Hc := Lib.hid hc; clear hc h1 h2 h3 hl hlen
    have Hx := Lib.hid hx; clear hx
    have E1 := Lib.hid e1; clear e1
    have E2 := Lib.hid e2; clear e2
    go_enter Tryz.func84, Tryz.ntmps84
    go_wp2_with fail
    refine (Hx.out _).mono ?_; rintro e w1 ⟨rfl, rfl⟩
    go_wp2_with fail
    go_quiet (fail)
    go_wp2
    go_ret3
    exact ⟨true, by rw [Hc.out, E1.out, E2.out]; rfl, _, rfl⟩

set_option maxHeartbeats 1000000 in
theorem Cut_any (l : List UInt8) (hl : l.length ≤ 1048576) (w : World) :
    Calls Tryz.prog 61 #[strV l, .string ⟨#[32]⟩] w (CutOut l w) := by
  have hx := slCut_any ⟨l.toArray⟩ (show l.length ≤ 1048576 from hl)
  have Hx := Lib.hid (show ∀ W, Calls Tryz.prog 84 #[strV l, .string ⟨#[32]⟩] W (CutOut l W) from fun W => hx W); clear hx
  have Hc := Lib.hid (rfl : cutL 32 l = ((cutL 32 l).1, (cutL 32 l).2))
  go_enter Tryz.func61, Tryz.ntmps61
  go_wp2_with fail
  refine (Hx.out _).mono ?_; rintro e w1 ⟨fd, rfl, m, rfl⟩
  go_wp2_with fail
  go_ret3
  exact ⟨fd, rfl, m, rfl⟩
end Go.Proofs.YtnlcjbobfhmnmabGreatDoor
