/-
  A list of the call's own beside what else lies there. No condition.
-/
import Derived.Test.YtkgjkjecfpmlnaaDoorInts
import Derived.Test.YtkgjkjecfpmlnaaDoorOwn
import Derived.Test.YtkgjkjecfpmlnaaDoorErrs
import Derived.Maps.AppendAt
namespace Go.Proofs.YtkgjkjecfpmlnaaDoor
open Go.RowKit

theorem grown_of_below {a w : World} (h : Below a.heap.size a w) (row : Option Nat) : a.grownBy w row := ⟨h.os, h.tape, h.output, h.size, fun i hi _ => h.block i hi⟩
theorem own_below {w w' : World} {base size n : Nat} {e : TypeId} {v : Value} {xs : List Value} (h : w.ownsRow base e size v n xs) (hb : Below w.heap.size w w') : w'.ownsRow base e size v n xs :=
  h.kept (row := none) (grown_of_below hb _) (by cases v.ownBlock <;> simp)
/-- A list, a sum and a code. -/
def MadeT (l : List Int) (s c : Int) (w : World) (e : Ending) (w' : World) : Prop :=
  ∃ v, e = .returned (.tuple #[v, .int .i64 s, .int .i64 c]) ∧ Mine w' w.heap.size w'.heap.size 2 1 v l.length (fun j => .int .i64 (l.getD j 0)) ∧ Below w.heap.size w w'
/-- A list, a sum and an error that stands for a code. -/
def MadeTE (z : Ers) (l : List Int) (s c : Int) (w : World) (e : Ending) (w' : World) : Prop :=
  ∃ v x, IsCode z x c ∧ e = .returned (.tuple #[v, .int .i64 s, x]) ∧ Mine w' w.heap.size w'.heap.size 2 1 v l.length (fun j => .int .i64 (l.getD j 0)) ∧ Below w.heap.size w w'
end Go.Proofs.YtkgjkjecfpmlnaaDoor
