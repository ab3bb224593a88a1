/-
  Sheets: the laws' own copying and comparing of them, and what both sides' tests of them return. Condition: at most 1048576 frames of int16 numbers.
-/
import Derived.Test.YtiinkfnamhcekaaGreatDoorPrs
namespace Go.Proofs.YtiinkfnamhcekaaGreatDoor
open Go.RowKit

/-- Are the first n of these arrays prints? -/
def prsB (g : Nat → Nat → Int) (n : Nat) : Bool := (List.range n).all fun i => dnsB (g i)
theorem prsB_iff {g : Nat → Nat → Int} {n : Nat} : prsB g n = true ↔ ∀ i, i < n → dnsB (g i) = true := by simp [prsB]
theorem prsB_no {g : Nat → Nat → Int} {n i : Nat} (hi : i < n) (h : dnsB (g i) = false) : prsB g n = false := by
  rcases h' : prsB g n with _ | _
  · rfl
  · rw [prsB_iff.1 h' i hi] at h; cases h
/-- Is a sheet valid? -/
def shtB (X : Int) (n : Nat) (g : Nat → Nat → Int) : Bool := inB X 1 12 && (decide (n ≤ 12) && prsB g n)
theorem shtB_iff {X : Int} {n : Nat} {g : Nat → Nat → Int} : shtB X n g = true ↔ (1 ≤ X ∧ X ≤ 12) ∧ n ≤ 12 ∧ prsB g n = true := by simp [shtB, inB_true]

set_option maxRecDepth 100000 in
set_option maxHeartbeats 1000000 in
theorem l03PrintAt_any (b o : Nat) (f : Nat → Int) (hf : S16 f) (w : World) (h : PartA w b o .i16 64 f) :
    Calls Tryz.prog 34 #[.pointer (some ⟨b, o, none⟩)] w fun e w' => e = .returned (.bool (dnsB f)) ∧ Below w.heap.size w w' := by
  have a2 := HasArr.zero w 36 (b := w.heap.size) rfl
  have a3 := a2.setRow .i16 f
  have kB := below_setRow ((Below.refl w.heap.size w).alloc (Nat.le_refl _) (.cells #[.int .i16 0, .int .i16 0, .int .i16 0, .int .i16 0, .int .i16 0, .int .i16 0, .int .i16 0, .int .i16 0, .int .i16 0, .int .i16 0, .int .i16 0, .int .i16 0, .int .i16 0, .int .i16 0, .int .i16 0, .int .i16 0, .int .i16 0, .int .i16 0, .int .i16 0, .int .i16 0, .int .i16 0, .int .i16 0, .int .i16 0, .int .i16 0, .int .i16 0, .int .i16 0, .int .i16 0, .int .i16 0, .int .i16 0, .int .i16 0, .int .i16 0, .int .i16 0, .int .i16 0, .int .i16 0, .int .i16 0, .int .i16 0, .int .i16 0, .int .i16 0, .int .i16 0, .int .i16 0, .int .i16 0, .int .i16 0, .int .i16 0, .int .i16 0, .int .i16 0, .int .i16 0, .int .i16 0, .int .i16 0, .int .i16 0, .int .i16 0, .int .i16 0, .int .i16 0, .int .i16 0, .int .i16 0, .int .i16 0, .int .i16 0, .int .i16 0, .int .i16 0, .int .i16 0, .int .i16 0, .int .i16 0, .int .i16 0, .int .i16 0, .int .i16 0] 36)) (b := w.heap.size) (by omega) (arrV .i16 64 f)
  have hd := l03Dense_any w.heap.size 36 f hf _ a3
  have Hd := Lib.hid hd; clear hd
  have KB := Lib.hid kB; clear kB
  clear a3 hf
  go_enter Tryz.func34, Tryz.ntmps34
  go_wp2_with (first | (refine wpList_load_part h _ _ rfl rfl rfl Tryz.underlying37 sizePrint ?_) | (refine wpList_store_arr a2 _ _ _ rfl rfl rfl rfl sizeA64 ?_) | (go_at_call 54; refine Hd.out.mono ?_; rintro e w' ⟨rfl, rfl⟩))
  go_ret
  exact ⟨rfl, KB.out⟩

end Go.Proofs.YtiinkfnamhcekaaGreatDoor
