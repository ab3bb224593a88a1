/-
  What is sought among the times: the thirds for a factor, within a time, nearest to a time: what the program's and the reference's functions return, for every number. Condition of the program's: its table of times holds its three numbers, its variables their own errors.
-/
import Derived.Test.YtnlcjbobfhmnmaaDoorTimes
namespace Go.Proofs.YtnlcjbobfhmnmaaDoor
open Go.RowKit

theorem quiet_left {P : Program} {f : FuncId} {args : Array Value} {w : World} {n : Nat} {v : Value}
    (h : Calls P f args (w.drewN n) fun e w' => e = .returned v ∧ w.drewN n = w') : Calls P f args (w.drewN n) fun e w'' => e = .returned v ∧ ∃ m, w'' = w.drewN m :=
  h.mono fun _ _ ⟨he, hm⟩ => ⟨he, n, hm.symm⟩
theorem quiet_add_left {P : Program} {f : FuncId} {args : Array Value} {w : World} {a n : Nat} {v : Value}
    (h : Calls P f args (w.drewN (a + n)) fun e w' => e = .returned v ∧ w.drewN (a + n) = w') :
    Calls P f args (w.drewN (a + n)) fun e w'' => e = .returned v ∧ ∃ m, w'' = w.drewN (a + m) :=
  h.mono fun _ _ ⟨he, hm⟩ => ⟨he, n, hm.symm⟩
theorem TimEnv.drewN {w : World} (h : TimEnv w) (n : Nat) : TimEnv (w.drewN n) := ⟨h.c0, h.c1, h.c2⟩

/-! ### THE THIRDS FOR A FACTOR -/
def FacR (f k : Int) : Prop := 0 ≤ k ∧ k ≤ 36 ∧ (k = 0 ∨ tm (k - 1) < 1000 * f)
theorem FacR.next {f k : Int} (h : FacR f k) (hf : f ≤ 1000) (hlt : tm k < 1000 * f) : FacR f (k + 1) := by
  obtain ⟨h0, h1, h2⟩ := h
  have h36 := tm_36
  have hk : k ≠ 36 := by rintro rfl; omega
  exact ⟨by omega, by omega, .inr (by rw [show k + 1 - 1 = k by omega]; exact hlt)⟩
theorem FacR.done {f k : Int} (h : FacR f k) (hge : 1000 * f ≤ tm k) : k = fac f :=
  (cl_eq k (1000 * f) h.1 (by have := h.2.1; omega) h.2.2 (.inr (by omega))).symm
def facR (f : Int) : Int := if inB f 1 1000 = true then fac f else 0
def facC (f : Int) : Int := if inB f 1 1000 = true then 0 else 2

end Go.Proofs.YtnlcjbobfhmnmaaDoor
