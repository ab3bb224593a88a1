/-
  New lists of steps: what is handed out; dodging and burning. Condition of the program's: its variables hold their own errors.
-/
import Derived.Test.YtnlcjbobfhmnmaaDoorOwnStepS
import Derived.Test.YtnlcjbobfhmnmaaDoorSteps
import Derived.Test.YtnlcjbobfhmnmaaDoorErrs
import Derived.IntWalk
namespace Go.Proofs.YtnlcjbobfhmnmaaDoor
open Go.RowKit

/-- A new list of steps with a code, with an error. -/
def StpCode (C : Int) (F0 F1 : Nat → Int) (n : Nat) (w : World) (e : Ending) (w' : World) : Prop :=
  ∃ v, e = .returned (.tuple #[v, .int .i64 C]) ∧ Mine w' w.heap.size w'.heap.size 60 2 v (if C = 0 then n else 0) (cellStepS F0 F1) ∧ Below w.heap.size w w'
def StpErr (s : Ers) (C : Int) (F0 F1 : Nat → Int) (n : Nat) (w : World) (e : Ending) (w' : World) : Prop :=
  ∃ v ev, e = .returned (.tuple #[v, ev]) ∧ IsCode s ev C ∧ Mine w' w.heap.size w'.heap.size 60 2 v (if C = 0 then n else 0) (cellStepS F0 F1) ∧ Below w.heap.size w w'
theorem mineSt_no {w : World} {C : Int} {F0 F1 : Nat → Int} {n L U : Nat} {A : Option Addr} {cap : Nat} (h : C ≠ 0) : Mine w L U 60 2 (.slice A 0 cap) (if C = 0 then n else 0) (cellStepS F0 F1) := by
  rw [if_neg h]; exact Mine.nil _ _ _ _ _ _ _ _
theorem codedStp_any {s : Ers} {v : Value} {c : Int} (h : IsCode s v c) (x : Value) (w : World) (hE : ErrEnv s w) :
    Calls Tryd.prog 33 #[x, v] w fun e w' => e = .returned (.tuple #[x, .int .i64 c]) ∧ w = w' := by
  go_enter Tryd.func33, Tryd.ntmps33
  go_wp2_with fail
  refine (codeOf_any h _ hE).mono ?_; rintro e w1 ⟨rfl, rfl⟩
  go_wp2_with fail
  go_ret2
  exact ⟨rfl, rfl⟩

/-- Two numbers. -/
def two (a b : Int) (j : Nat) : Int := if j = 0 then a else b
theorem mineSt_two (w : World) (a b c d : Int) (L : Nat) (hL : L ≤ w.heap.size) : Mine (w.alloc (.cells #[.int .u64 a, .int .i8 b, .int .u64 c, .int .i8 d] 60)) L (w.heap.size + 1) 60 2 (.slice (some ⟨w.heap.size, 0, none⟩) 2 2) 2 (cellStepS (two a c) (two b d)) := by
  refine ⟨_, 2, rfl, .inr ⟨w.heap.size, 4, cellStepS (two a c) (two b d), rfl, hL, by omega, by omega, World.rowIs_alloc w _ _ _ fun i hi => ?_, fun j _ => rfl⟩⟩
  have h4 : i = 0 ∨ i = 1 ∨ i = 2 ∨ i = 3 := by simp at hi; omega
  rcases h4 with rfl | rfl | rfl | rfl <;> rfl

theorem stepOf_any (m t : Int) (h0 : 0 ≤ t) (h1 : t ≤ 36) (w : World) :
    Calls Tryd.prog 49 #[.int .u64 m, .int .i64 t] w fun e w' => e = .returned (.agg #[.int .u64 m, .int .i8 t]) ∧ Below w.heap.size w w' := by
  have i1 : IntKind.i8.wrap t = t := IntWalk.i8_in _ (by omega)
  go_enter Tryd.func49, Tryd.ntmps49
  go_wp2_with fail
  refine bodyPost_ret (v := .agg #[.int .u64 m, .int .i8 t]) (by simp [results, Tryd.results49, go_sem]) rfl ⟨rfl, ?_⟩
  repeat (first | exact Below.refl _ _ | assumption | (refine Below.alloc ?_ (by first | omega | (simp; done) | (simp; omega)) _) | (refine Below.setCell ?_ (by first | omega | (simp; done) | (simp; omega)) _))

/-- The other bits. -/
def notU (m : Int) : Int := bits BinOp.xor IntKind.u64 IntKind.u64.max m

/-- Is there such a list? -/
def dodgeB (t h : Int) : Bool := inB t 0 36 && (inB h 0 36 && decide (h < t))
def dodgeC (t h : Int) : Int := if dodgeB t h = true then 0 else 2

/-- Is there such a list? -/
def burnB (t h : Int) : Bool := inB t 0 36 && (inB h 0 36)
def burnC (t h : Int) : Int := if burnB t h = true then 0 else 2

end Go.Proofs.YtnlcjbobfhmnmaaDoor
