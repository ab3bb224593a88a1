/-
  Prints: the density of a paper below a film, with its code: what the program's and the reference's functions return, for every two lists of at most 1048576 points. Condition of the program's: its variables hold their own errors.
-/
import Derived.Test.YtkeigoighebjpaaDoorCurA
namespace Go.Proofs.YtkeigoighebjpaaDoor
open Go.RowKit

/-- What a density holds back; the density of a print. -/
def heldH (d : Int) : Int := (d + 5) / 10
def prnV (n : Nat) (xs ys : Nat → Int) (m : Nat) (us vs : Nat → Int) (x light : Int) : Int := dens m us vs (light - heldH (dens n xs ys x))
theorem heldH_bd {d : Int} (h : 0 ≤ d) (h' : d ≤ 400) : 0 ≤ heldH d ∧ heldH d ≤ 40 := by unfold heldH; omega
/-- The code of two curves and two places. -/
def bthC (n : Nat) (xs ys : Nat → Int) (m : Nat) (us vs : Nat → Int) (x light : Int) : Int := if (validC n xs ys && validC m us vs) = true then (if (inB x (-200) 200 && inB light (-200) 200) = true then 0 else 2) else 1
theorem bth_1 {n : Nat} {xs ys : Nat → Int} {m : Nat} {us vs : Nat → Int} {x light : Int} (h : validC n xs ys = false) : bthC n xs ys m us vs x light = 1 := by simp [bthC, h]
theorem bth_2 {n : Nat} {xs ys : Nat → Int} {m : Nat} {us vs : Nat → Int} {x light : Int} (h : validC m us vs = false) : bthC n xs ys m us vs x light = 1 := by simp [bthC, h]
theorem bth_3 {n : Nat} {xs ys : Nat → Int} {m : Nat} {us vs : Nat → Int} {x light : Int} (h : validC n xs ys = true) (h2 : validC m us vs = true) (h3 : inB x (-200) 200 = false) : bthC n xs ys m us vs x light = 2 := by simp [bthC, h, h2, h3]
theorem bth_4 {n : Nat} {xs ys : Nat → Int} {m : Nat} {us vs : Nat → Int} {x light : Int} (h : validC n xs ys = true) (h2 : validC m us vs = true) (h3 : inB light (-200) 200 = false) : bthC n xs ys m us vs x light = 2 := by simp [bthC, h, h2, h3]
theorem bth_0 {n : Nat} {xs ys : Nat → Int} {m : Nat} {us vs : Nat → Int} {x light : Int} (h : validC n xs ys = true) (h2 : validC m us vs = true) (h3 : inB x (-200) 200 = true) (h4 : inB light (-200) 200 = true) : bthC n xs ys m us vs x light = 0 := by simp [bthC, h, h2, h3, h4]

/-! ### THE PROGRAM'S -/
theorem heldBack_any (d : Int) (h : 0 ≤ d) (h' : d ≤ 400) (w : World) : Calls Tryd.prog 120 #[.int .i64 d] w fun e w' => e = .returned (.int .i64 (heldH d)) ∧ w = w' := by
  go_enter Tryd.func120, Tryd.ntmps120
  go_wp2
  go_ret
  exact ⟨rfl, rfl⟩

end Go.Proofs.YtkeigoighebjpaaDoor
