/-
  Masks: what both sides' functions return, for every rectangle. Condition of the program's: its variables hold their own errors.
-/
import Derived.Test.YtnlcjbobfhmnmaaDoorMaskT
import Derived.Test.YtnlcjbobfhmnmaaDoorArrTools
namespace Go.Proofs.YtnlcjbobfhmnmaaDoor
open Go.RowKit

theorem bitOf_any (k : Nat) (hk : k < 64) (w : World) : Calls Tryd.prog 48 #[.int .i64 (k : Int)] w fun e w' => e = .returned (.int .u64 ((2 ^ k : Nat) : Int)) ∧ w = w' := by
  go_enter Tryd.func48, Tryd.ntmps48
  go_wp2_with (refine wpList_shl1 (κ := .i64) (k := k) _ _ rfl rfl rfl rfl hk ?_)
  go_ret
  exact ⟨rfl, rfl⟩

/-- Is a cell in a rectangle? -/
def rctP (W N E S : Int) (k : Nat) : Bool := inB ((k : Int) % 8) W E && inB ((k : Int) / 8) N S

/-- What a function hands out that gives a mask and an error. -/
def MskOut (s : Ers) (w : World) (V C : Int) (e : Ending) (w' : World) : Prop :=
  ∃ v, e = .returned (.tuple #[.int .u64 V, v]) ∧ IsCode s v C ∧ Below w.heap.size w w'
/-- Is there such a rectangle? -/
def rctB (W N E S : Int) : Bool := inB W 0 7 && (inB N 0 7 && (inB E 0 7 && (inB S 0 7 && (decide (W ≤ E) && decide (N ≤ S)))))
theorem rctB_iff {W N E S : Int} : rctB W N E S = true ↔ inB W 0 7 = true ∧ inB N 0 7 = true ∧ inB E 0 7 = true ∧ inB S 0 7 = true ∧ W ≤ E ∧ N ≤ S := by
  simp [rctB]
def rctV (W N E S : Int) : Int := if rctB W N E S = true then ((maskN (rctP W N E S) 64 : Nat) : Int) else 0
def rctC (W N E S : Int) : Int := if rctB W N E S = true then 0 else 2

end Go.Proofs.YtnlcjbobfhmnmaaDoor
