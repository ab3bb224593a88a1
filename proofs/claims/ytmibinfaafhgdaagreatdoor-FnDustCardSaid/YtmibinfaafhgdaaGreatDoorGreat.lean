/-
  Where two prints differ most: what both sides' functions return. Condition: int16 numbers.
-/
import Derived.Test.YtmibinfaafhgdaaGreatDoorArrX
import Derived.Test.YtmibinfaafhgdaaGreatDoorArrTools
import Derived.Lib.MinMax
namespace Go.Proofs.YtmibinfaafhgdaaGreatDoor
open Go.RowKit

/-- The size of a number. -/
def szA (z : Int) : Int := if z < 0 then -z else z
theorem szA_bd {z : Int} (h : -100000 ≤ z) (h' : z ≤ 100000) : 0 ≤ szA z ∧ szA z ≤ 100000 := by unfold szA; split <;> omega
/-- The first of the numbers 0 to k whose size is the greatest. -/
def bestN (d : Nat → Int) : Nat → Nat
  | 0 => 0
  | k + 1 => if szA (d (bestN d k)) < szA (d (k + 1)) then k + 1 else bestN d k
theorem bestN_yes {d : Nat → Int} {k : Nat} (h : szA (d (bestN d k)) < szA (d (k + 1))) : bestN d (k + 1) = k + 1 := by simp [bestN, h]
theorem bestN_no {d : Nat → Int} {k : Nat} (h : ¬ szA (d (bestN d k)) < szA (d (k + 1))) : bestN d (k + 1) = bestN d k := by simp [bestN, h]
theorem bestN_le (d : Nat → Int) : ∀ k, bestN d k ≤ k
  | 0 => Nat.le_refl _
  | k + 1 => by
    have := bestN_le d k
    by_cases h : szA (d (bestN d k)) < szA (d (k + 1))
    · rw [bestN_yes h]; exact Nat.le_refl _
    · rw [bestN_no h]; omega
/-- What the program keeps behind k numbers. -/
def grtN (d : Nat → Int) : Nat → Int × Int
  | 0 => (0, 0)
  | k + 1 => if szA (grtN d k).2 < szA (d k) then ((k : Int), d k) else grtN d k
theorem grtN_yes {d : Nat → Int} {k : Nat} (h : szA (grtN d k).2 < szA (d k)) : grtN d (k + 1) = ((k : Int), d k) := by simp [grtN, h]
theorem grtN_no {d : Nat → Int} {k : Nat} (h : ¬ szA (grtN d k).2 < szA (d k)) : grtN d (k + 1) = grtN d k := by simp [grtN, h]
theorem grtN_best (d : Nat → Int) : ∀ k, grtN d (k + 1) = ((bestN d k : Int), d (bestN d k))
  | 0 => by
    by_cases h : szA (grtN d 0).2 < szA (d 0)
    · rw [grtN_yes h]; rfl
    · rw [grtN_no h]
      have : d 0 = 0 := by simp only [grtN, szA] at h; simp at h; split at h <;> omega
      show ((0 : Int), (0 : Int)) = ((((0 : Nat) : Int)), d 0)
      rw [this]; rfl
  | k + 1 => by
    have ih := grtN_best d k
    by_cases h : szA (d (bestN d k)) < szA (d (k + 1))
    · rw [grtN_yes (by rw [ih]; exact h), bestN_yes h]
    · rw [grtN_no (by rw [ih]; exact h), ih, bestN_no h]
theorem grtN_bd {d : Nat → Int} (hd : ∀ k, k < 64 → -65535 ≤ d k ∧ d k ≤ 65535) : ∀ k, k ≤ 64 → -65535 ≤ (grtN d k).2 ∧ (grtN d k).2 ≤ 65535
  | 0, _ => by simp [grtN]
  | k + 1, h => by
    have ih := grtN_bd hd k (by omega)
    have := hd k (by omega)
    by_cases h1 : szA (grtN d k).2 < szA (d k)
    · rw [grtN_yes h1]; exact this
    · rw [grtN_no h1]; exact ih
/-- How the numbers differ. -/
def difN (f g : Nat → Int) (k : Nat) : Int := g k - f k

theorem l01Size_16 (z : Int) (h : -100000 ≤ z) (h' : z ≤ 100000) (w : World) : Calls Tryz.prog 77 #[.int .i64 z] w fun e w' => e = .returned (.int .i64 (szA z)) ∧ w = w' := by
  unfold szA
  by_cases h0 : z < 0
  · rw [if_pos h0]
    go_enter Tryz.func77, Tryz.ntmps77
    go_wp2
    go_ret
    exact ⟨rfl, rfl⟩
  · rw [if_neg h0]
    go_enter Tryz.func77, Tryz.ntmps77
    go_wp2
    go_ret
    exact ⟨rfl, rfl⟩

theorem distance_16 (z : Int) (h : -100000 ≤ z) (h' : z ≤ 100000) (w : World) : Calls Tryz.prog 67 #[.int .i64 z, .int .i64 0] w fun e w' => e = .returned (.int .i64 (szA z)) ∧ w = w' := by
  unfold szA
  by_cases h0 : z < 0
  · rw [if_pos h0]
    have e1 : max z (-z) = -z := by omega
    go_enter Tryz.func67, Tryz.ntmps67
    go_wp2
    go_ret
    exact ⟨ret_int (by omega), rfl⟩
  · rw [if_neg h0]
    have e1 : max z (-z) = z := by omega
    go_enter Tryz.func67, Tryz.ntmps67
    go_wp2
    go_ret
    exact ⟨ret_int (by omega), rfl⟩

theorem l03Off_16 (x y : Int) (h : -32768 ≤ x) (h' : x ≤ 32767) (hy : -32768 ≤ y) (hy' : y ≤ 32767) (w : World) : Calls Tryz.prog 52 #[.int .i16 x, .int .i16 y] w fun e w' => e = .returned (.int .i64 (szA (y - x))) ∧ w = w' := by
  have hs := fun W => l01Size_16 (y - x) (by omega) (by omega) W
  generalize szA (y - x) = S at *
  have Hs := Lib.hid hs; clear hs
  go_enter Tryz.func52, Tryz.ntmps52
  go_wp2_with (go_at_call 77; refine (Hs.out _).mono ?_; rintro e w' ⟨rfl, rfl⟩)
  go_ret
  exact ⟨rfl, rfl⟩

/-- A block of two numbers. -/
def Has2 (w : World) (b : Nat) (T : TypeId) (x y : Int) : Prop := w.heap[b]? = some (.cells #[.int .i64 x, .int .i64 y] T (0, 0))
theorem Has2.lt {w : World} {b : Nat} {T : TypeId} {x y : Int} (h : Has2 w b T x y) : b < w.heap.size := (Array.getElem?_eq_some_iff.1 h).1
theorem Has2.c0 {w : World} {b : Nat} {T : TypeId} {x y : Int} (h : Has2 w b T x y) : w.cell? ⟨b, 0, none⟩ = some (.int .i64 x) := by rw [cell_of_row w b 0 _ T (0, 0) h]; rfl
theorem Has2.c1 {w : World} {b : Nat} {T : TypeId} {x y : Int} (h : Has2 w b T x y) : w.cell? ⟨b, 1, none⟩ = some (.int .i64 y) := by rw [cell_of_row w b 1 _ T (0, 0) h]; rfl
theorem Has2.free {w : World} {b : Nat} {T : TypeId} {x y : Int} (h : Has2 w b T x y) (k : Nat) : w.frozen? ⟨b, k, none⟩ = false := frozen_of_row w b k _ T h
theorem Has2.below {w w' : World} {b B : Nat} {T : TypeId} {x y : Int} (h : Has2 w b T x y) (hb : Below B w w') (hB : b < B) : Has2 w' b T x y := (hb.block b hB).trans h
theorem Has2.alloc {w : World} {b : Nat} {T : TypeId} {x y : Int} (h : Has2 w b T x y) (o : Obj) : Has2 (w.alloc o) b T x y := (Below.heap_alloc w o b h.lt).trans h
theorem Has2.new (w : World) (T : TypeId) (x y : Int) : Has2 (w.alloc (.cells #[.int .i64 x, .int .i64 y] T)) w.heap.size T x y := heap_alloc_last w _
theorem Has2.other {w : World} {b : Nat} {T : TypeId} {x y : Int} (h : Has2 w b T x y) {a : Addr} (hne : b ≠ a.block) (v : Value) : Has2 (w.setCell a v) b T x y := (Below.heap_setCell w a v b hne).trans h
theorem Has2.set0 {w : World} {b : Nat} {T : TypeId} {x y : Int} (h : Has2 w b T x y) (x' : Int) : Has2 (w.setCell ⟨b, 0, none⟩ (.int .i64 x')) b T x' y := by
  unfold Has2
  rw [heap_setCell_same w b 0 _ T _ h]; rfl
theorem Has2.set1 {w : World} {b : Nat} {T : TypeId} {x y : Int} (h : Has2 w b T x y) (y' : Int) : Has2 (w.setCell ⟨b, 1, none⟩ (.int .i64 y')) b T x y' := by
  unfold Has2
  rw [heap_setCell_same w b 1 _ T _ h]; rfl

end Go.Proofs.YtmibinfaafhgdaaGreatDoor
