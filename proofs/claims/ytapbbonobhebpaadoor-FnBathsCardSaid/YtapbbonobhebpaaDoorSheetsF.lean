/-
  Sheets without replenishing: what the reference and the program return. Condition of the program's: its errors, and its table of times.
-/
import Derived.Test.YtapbbonobhebpaaDoorFixR
import Derived.Test.YtapbbonobhebpaaDoorPhaseB
import Derived.Test.YtapbbonobhebpaaDoorInts
namespace Go.Proofs.YtapbbonobhebpaaDoor
open Go.RowKit

/-! ### PLAIN -/
/-- The areas of the first sheets. -/
def preA (xs : Nat → Int) : Nat → Int
  | 0 => 0
  | n + 1 => preA xs n + xs n
/-- Is the sheet j not to be developed? -/
def sfQ (p k b t v u a sl : Int) (xs : Nat → Int) (j : Nat) : Bool := !readyB p k b t v (u + preA xs j) a (xs j) sl
def sfN (p k b t v u a sl : Int) (n : Nat) (xs : Nat → Int) : Nat := least (sfQ p k b t v u a sl xs) n
def sfR (p k b t v u a sl : Int) (n : Nat) (xs : Nat → Int) : Int := ifC (arC (bathOk p k b t v u a) n xs sl) (sfN p k b t v u a sl n xs)
theorem arC_zero {ok : Bool} {n : Nat} {xs : Nat → Int} {sl : Int} (h : arC ok n xs sl = 0) : ok = true ∧ n ≤ 60 ∧ allA xs n = true ∧ 0 ≤ sl ∧ sl ≤ 36 := by
  unfold arC at h
  cases ok with
  | false => simp at h
  | true =>
    by_cases h60 : n ≤ 60
    · rcases h1 : allA xs n with _ | _
      · rw [h1] at h; simp [h60] at h
      · rcases h2 : inB sl 0 36 with _ | _
        · rw [h1, h2] at h; simp [h60] at h
        · have := inB_true.1 h2
          exact ⟨rfl, h60, rfl, this.1, this.2⟩
    · simp [h60] at h

section
variable {p k b t v u a : Int}
theorem ready_ok {s sl : Int} (h : BOk p k b t v u a) (hr : readyB p k b t v u a s sl = true) : BOk p k b t v (u + s) a ∧ slw (strn p k v u a) ≤ sl ∧ slw (strn p k v u a) ≠ 37 := by
  unfold readyB sheetB at hr
  simp only [Bool.and_eq_true, decide_eq_true_eq] at hr
  exact ⟨bathOk_true.1 hr.2.2, hr.1, hr.2.1⟩

end
end Go.Proofs.YtapbbonobhebpaaDoor
