/-
  A new list of numbers with an error that stands for a code, and the code in its place. Condition: the program's variables hold their own errors.
-/
import Derived.Test.YtnlcjbobfhmnmabGreatDoorTab
import Derived.Test.YtnlcjbobfhmnmabGreatDoorErrs
namespace Go.Proofs.YtnlcjbobfhmnmabGreatDoor
open Go.RowKit

/-- A new list of numbers with an error that stands for a code. -/
def LstE (s : Ers) (C : Int) (n : Nat) (xs : Nat → Int) (w : World) (e : Ending) (w' : World) : Prop :=
  ∃ v x, IsCode s x C ∧ e = .returned (.tuple #[v, x]) ∧ Mine w' w.heap.size w'.heap.size 2 1 v n (fun j => .int .i64 (xs j)) ∧ Below w.heap.size w w'
/-- How long a list is that comes with a code. -/
def lenC (C : Int) (n : Nat) : Nat := if C = 0 then n else 0
theorem lenC_0 (n : Nat) : lenC 0 n = n := rfl
theorem lenC_1 (n : Nat) : lenC 1 n = 0 := rfl
theorem lenC_2 (n : Nat) : lenC 2 n = 0 := rfl
theorem lenC_6 (n : Nat) : lenC 6 n = 0 := rfl
theorem lenC_le (C : Int) (n : Nat) : lenC C n ≤ n := by unfold lenC; split <;> omega

theorem codedInts_any {s : Ers} {v : Value} {c : Int} (h : IsCode s v c) (A : Option Addr) (n cap : Nat) (w : World) (hE : ErrEnv s w) :
    Calls Tryz.prog 34 #[.slice A n cap, v] w fun e w' => e = .returned (.tuple #[.slice A n cap, .int .i64 c]) ∧ w = w' := by
  go_enter Tryz.func34, Tryz.ntmps34
  go_wp2_with fail
  refine (codeOf_any h _ hE).mono ?_; rintro e w1 ⟨rfl, rfl⟩
  go_wp2_with fail
  go_ret2
  exact ⟨rfl, rfl⟩
end Go.Proofs.YtnlcjbobfhmnmabGreatDoor
