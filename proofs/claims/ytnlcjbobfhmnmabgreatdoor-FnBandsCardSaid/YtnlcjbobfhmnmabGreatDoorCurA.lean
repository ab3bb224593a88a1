/-
  The density at an exposure, its rise, and the least and greatest density, with their codes: what the program's and the reference's functions return, for every list of at most 1048576 points. Condition of the program's: its variables hold their own errors.
-/
import Derived.Test.YtnlcjbobfhmnmabGreatDoorAtX
import Derived.Test.YtnlcjbobfhmnmabGreatDoorAtX
import Derived.Test.YtnlcjbobfhmnmabGreatDoorErrs
namespace Go.Proofs.YtnlcjbobfhmnmabGreatDoor
open Go.RowKit

/-- The code of a curve and an exposure; of a curve and a density. -/
def askC (n : Nat) (xs ys : Nat → Int) (x : Int) : Int := if validC n xs ys = true then (if inB x (-200) 200 = true then 0 else 2) else 1
def denC (n : Nat) (xs ys : Nat → Int) (y : Int) : Int := if validC n xs ys = true then (if inB y 0 400 = true then 0 else 2) else 1
theorem ask_bad {n : Nat} {xs ys : Nat → Int} {x : Int} (h : validC n xs ys = false) : askC n xs ys x = 1 := by simp [askC, h]
theorem ask_far {n : Nat} {xs ys : Nat → Int} {x : Int} (h : validC n xs ys = true) (h2 : inB x (-200) 200 = false) : askC n xs ys x = 2 := by simp [askC, h, h2]
theorem ask_yes {n : Nat} {xs ys : Nat → Int} {x : Int} (h : validC n xs ys = true) (h2 : inB x (-200) 200 = true) : askC n xs ys x = 0 := by simp [askC, h, h2]
theorem den_bad {n : Nat} {xs ys : Nat → Int} {x : Int} (h : validC n xs ys = false) : denC n xs ys x = 1 := by simp [denC, h]
theorem den_far {n : Nat} {xs ys : Nat → Int} {x : Int} (h : validC n xs ys = true) (h2 : inB x 0 400 = false) : denC n xs ys x = 2 := by simp [denC, h, h2]
theorem den_yes {n : Nat} {xs ys : Nat → Int} {x : Int} (h : validC n xs ys = true) (h2 : inB x 0 400 = true) : denC n xs ys x = 0 := by simp [denC, h, h2]
/-- A number where the code is 0, else 0. -/
def ifOk (c v : Int) : Int := if c = 0 then v else 0
theorem ifOk_0 (v : Int) : ifOk 0 v = v := rfl
theorem ifOk_1 (v : Int) : ifOk 1 v = 0 := rfl
theorem ifOk_2 (v : Int) : ifOk 2 v = 0 := rfl
theorem ifOk_6 (v : Int) : ifOk 6 v = 0 := rfl

/-- What a function of the program's own gives back: a value, and an error that stands for a code. -/
def CodedX (s : Ers) (x : Value) (c : Int) (B : Nat) (w : World) (e : Ending) (w' : World) : Prop := ∃ v, IsCode s v c ∧ e = .returned (.tuple #[x, v]) ∧ Below B w w'

/-! ### HOW MUCH MORE IT IS ONE STEP FURTHER -/
def riseV (n : Nat) (xs ys : Nat → Int) (x : Int) : Int := dens n xs ys (x + 1) - dens n xs ys x

end Go.Proofs.YtnlcjbobfhmnmabGreatDoor
