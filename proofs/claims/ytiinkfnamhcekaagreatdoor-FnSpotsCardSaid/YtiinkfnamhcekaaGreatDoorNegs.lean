/-
  Negatives and prints by value: the laws' copies, and what both sides' tests return. Condition: int16 numbers.
-/
import Derived.Test.YtiinkfnamhcekaaGreatDoorDense
namespace Go.Proofs.YtiinkfnamhcekaaGreatDoor
open Go.RowKit

/-- Numbers of int16. -/
def S16 (f : Nat → Int) : Prop := ∀ k, k < 64 → -32768 ≤ f k ∧ f k ≤ 32767
theorem dnsB_S16 {f : Nat → Int} (h : dnsB f = true) : S16 f := fun k hk => by have := dnsB_bd h hk; omega

set_option maxRecDepth 100000 in
set_option maxHeartbeats 1000000 in
theorem l03Print_any (b : Nat) (T : TypeId) (f : Nat → Int) (hf : S16 f) (w : World) (h : HasArr w b T .i16 64 f) :
    Calls Tryz.prog 34 #[.pointer (some ⟨b, 0, none⟩)] w fun e w' => e = .returned (.bool (dnsB f)) ∧ Below w.heap.size w w' := by
  have a2 := HasArr.zero w 36 (b := w.heap.size) rfl
  have a3 := a2.setRow .i16 f
  have kB := below_setRow ((Below.refl w.heap.size w).alloc (Nat.le_refl _) (.cells #[.int .i16 0, .int .i16 0, .int .i16 0, .int .i16 0, .int .i16 0, .int .i16 0, .int .i16 0, .int .i16 0, .int .i16 0, .int .i16 0, .int .i16 0, .int .i16 0, .int .i16 0, .int .i16 0, .int .i16 0, .int .i16 0, .int .i16 0, .int .i16 0, .int .i16 0, .int .i16 0, .int .i16 0, .int .i16 0, .int .i16 0, .int .i16 0, .int .i16 0, .int .i16 0, .int .i16 0, .int .i16 0, .int .i16 0, .int .i16 0, .int .i16 0, .int .i16 0, .int .i16 0, .int .i16 0, .int .i16 0, .int .i16 0, .int .i16 0, .int .i16 0, .int .i16 0, .int .i16 0, .int .i16 0, .int .i16 0, .int .i16 0, .int .i16 0, .int .i16 0, .int .i16 0, .int .i16 0, .int .i16 0, .int .i16 0, .int .i16 0, .int .i16 0, .int .i16 0, .int .i16 0, .int .i16 0, .int .i16 0, .int .i16 0, .int .i16 0, .int .i16 0, .int .i16 0, .int .i16 0, .int .i16 0, .int .i16 0, .int .i16 0, .int .i16 0] 36)) (b := w.heap.size) (by omega) (arrV .i16 64 f)
  have hd := l03Dense_any w.heap.size 36 f hf _ a3
  have Hd := Lib.hid hd; clear hd
  have KB := Lib.hid kB; clear kB
  clear a3 hf
  go_enter Tryz.func34, Tryz.ntmps34
  go_wp2_with (first | (refine wpList_load_arr h _ _ rfl rfl rfl Tryz.underlying37 sizePrint ?_) | (refine wpList_store_arr a2 _ _ _ rfl rfl rfl rfl sizeA64 ?_) | (go_at_call 54; refine Hd.out.mono ?_; rintro e w' ⟨rfl, rfl⟩))
  go_ret
  exact ⟨rfl, KB.out⟩

set_option maxRecDepth 100000 in
set_option maxHeartbeats 1000000 in
theorem ValidPrint_any (f : Nat → Int) (w : World) :
    Calls Tryz.prog 50 #[.agg (arrV .i16 64 f)] w fun e w' => e = .returned (.bool (dnsB f)) ∧ Below w.heap.size w w' := by
  have a1 := HasArr.new w 37 .i16 64 f
  have kB := (Below.refl w.heap.size w).alloc (Nat.le_refl _) (.cells (arrV .i16 64 f) 37)
  have KB := Lib.hid kB; clear kB
  go_enter Tryz.func50, Tryz.ntmps50
  go_wp2_with (first | (refine wpList_load_arr a1 _ _ rfl rfl rfl Tryz.underlying37 sizePrint ?_) | (go_at_call 64; refine (areOnScale_any _ _).mono ?_; rintro e w1 ⟨rfl, hb1⟩))
  go_ret
  exact ⟨rfl, KB.out.trans (hb1.mono KB.out.size)⟩
end Go.Proofs.YtiinkfnamhcekaaGreatDoor
