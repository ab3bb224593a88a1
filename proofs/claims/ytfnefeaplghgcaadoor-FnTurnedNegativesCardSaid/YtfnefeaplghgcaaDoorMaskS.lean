/-
  Masks: the reference's function, for every rectangle. No condition.
-/
import Derived.Test.YtfnefeaplghgcaaDoorMasks
namespace Go.Proofs.YtfnefeaplghgcaaDoor
open Go.RowKit

/-- The rows that are done; the row under way. -/
def recB (W N E y j : Nat) : Bool := decide (N ≤ j / 8 ∧ j / 8 < y ∧ W ≤ j % 8 ∧ j % 8 ≤ E)
def rowB (W N E y x j : Nat) : Bool := decide ((N ≤ j / 8 ∧ j / 8 < y ∧ W ≤ j % 8 ∧ j % 8 ≤ E) ∨ (j / 8 = y ∧ W ≤ j % 8 ∧ j % 8 < x))
theorem rowB_0 (W N E y j : Nat) : rowB W N E y W j = recB W N E y j := by
  unfold rowB recB
  rw [Bool.eq_iff_iff, decide_eq_true_eq, decide_eq_true_eq]
  omega
theorem rowB_step {W N E y x j : Nat} (hx : x < 8) (hW : W ≤ x) : rowB W N E y (x + 1) j = (rowB W N E y x j || decide (x + 8 * y = j)) := by
  unfold rowB
  rw [Bool.eq_iff_iff, Bool.or_eq_true, decide_eq_true_eq, decide_eq_true_eq, decide_eq_true_eq]
  omega
theorem rowB_end {W N E y j : Nat} (hy : N ≤ y) : rowB W N E y (E + 1) j = recB W N E (y + 1) j := by
  unfold rowB recB
  rw [Bool.eq_iff_iff, decide_eq_true_eq, decide_eq_true_eq]
  omega
theorem recB_0 (W N E j : Nat) : recB W N E N j = false := by
  unfold recB
  rw [decide_eq_false_iff_not]
  omega
theorem recB_end {W N E S j : Nat} (hS : S ≤ 7) : recB W N E (S + 1) j = (decide (j < 64) && rctP W N E S j) := by
  unfold recB rctP
  rw [Bool.eq_iff_iff, Bool.and_eq_true, Bool.and_eq_true, inB_true, inB_true, decide_eq_true_eq, decide_eq_true_eq]
  omega

end Go.Proofs.YtfnefeaplghgcaaDoor
